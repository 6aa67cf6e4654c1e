/- Collect, AppendSeq: of the records on a disk. -/
import Derived.Test.YtgigccgklahddaaGen
import Derived.Shelf.Abstract
namespace Go.Proofs.Ytgigccgklahddaa
open Go.RowKit Go.Shelf
variable {n0 B : Nat}
attribute [local go_sem] Oper.semAt_some

/-- AppendSeq under way. -/
structure CS (w : World) (base : Nat) (A : Option Addr) (c : Nat) (pre : List Sec) (W : World) : Prop where
  box : Blk W w.heap.size 22 [.slice A pre.length c]
  own : W.ownsRow base 35 1 (.slice A pre.length c) pre.length (secs pre)
  each : ∀ s ∈ pre, s.Fresh W ∧ s.l.length ≤ 458976
  bel : Below w.heap.size w W
  sz : base ≤ W.heap.size
theorem cs_own1 (w : World) (base : Nat) (A : Option Addr) (c : Nat) (pre : List Sec) (hB : w.heap.size ≤ B) : OwnFrom B (fun (_ : Unit) W => CS w base A c pre W) := fun _ X Y row hs hg hr =>
  ⟨(blk_own (β := Unit) _ _ _).from B () X Y row hs.box hg hr, own_own (β := Unit) B _ _ _ _ _ _ () X Y row hs.own hg hr, fun s h => ⟨fresh_own (β := Unit) B s () X Y row (hs.each s h).1 hg hr, (hs.each s h).2⟩, ownFrom_below (β := Unit) (Nat.le_refl _) hB () X Y row hs.bel hg hr, Nat.le_trans hs.sz hg.size⟩
theorem cs_own (w : World) (base : Nat) (hB : w.heap.size ≤ B) : OwnFrom B (fun (pre : List Sec) W => ∃ A c, CS w base A c pre W) := fun pre X Y row ⟨A, c, hs⟩ hg hr =>
  ⟨A, c, cs_own1 w base A c pre hB () X Y row hs hg hr⟩
section
variable {w : World} {base : Nat} {A A6 : Option Addr} {c c6 : Nat} {pre : List Sec} {x : Sec} {W w6 : World}
theorem secsIn_own {W : World} {base c : Nat} {A : Option Addr} {pre : List Sec} (hown : W.ownsRow base 35 1 (.slice A pre.length c) pre.length (secs pre)) (hf : ∀ s ∈ pre, s.Fresh W) : SecsIn n0 A pre c W := by
  have hc := own_caps hown
  refine ⟨?_, fun s hs => (hf s hs).in, hc.1, hc.2, ?_⟩
  · rcases hown.2 with ⟨h0, h1⟩ | ⟨g, cap', cur, hv, _⟩
    · have : pre = [] := by cases pre with | nil => rfl | cons a b => simp at h1
      subst this
      exact Cels.nil _ _
    · injection hv with h1 _ h3
      subst h1
      obtain ⟨cs, hcs⟩ := own_blk hown
      exact hcs.cels (by omega)
  · intro hA
    rcases hown.2 with ⟨h0, _⟩ | ⟨g, cap', cur, hv, _⟩
    · injection h0
    · injection hv with h1 _ h3
      rw [h1] at hA
      cases hA
theorem CS.more (h : CS w base A c pre W) (hx : x.Fresh W) (hl : x.l.length ≤ 458976) (hown : w6.ownsRow base 35 1 (.slice A6 (pre.length + 1) c6) (pre.length + 1) (secs pre ++ [x.v])) (hg : (W.alloc (.cells #[x.v] 35)).grownBy w6 (Value.slice A pre.length c).ownBlock) (hb : w.heap.size < base) :
    Below base W w6 ∧ KeepsFrom base W (w6.setCell ⟨w.heap.size, 0, none⟩ (.slice A6 (pre.length + 1) c6)) ∧ Below w.heap.size W (w6.setCell ⟨w.heap.size, 0, none⟩ (.slice A6 (pre.length + 1) c6)) ∧
    CS w base A6 c6 (pre ++ [x]) (w6.setCell ⟨w.heap.size, 0, none⟩ (.slice A6 (pre.length + 1) c6)) := by
  have ha := below_new W (.cells #[x.v] 35)
  have hz : base ≤ (W.alloc (.cells #[x.v] 35)).heap.size := Nat.le_trans h.sz ha.size
  have hO := own_later h.own ha
  have hB : Below base W w6 := below_app (ha.mono h.sz) hO hg (Nat.le_refl _) hz
  have hR6 : Blk w6 w.heap.size 22 [.slice A pre.length c] := h.box.below hB hb
  have hF : ∀ s : Sec, s.Fresh W → s.Fresh w6 := fun s hs => by
    have hs' := hs.below ha
    rcases grown_cases hO hg with hb | ⟨g, cs, hG, _, hg'⟩
    · exact hs'.below hb
    · exact hs'.only hg' hG (by omega)
  have hset : w6.grownBy (w6.setCell ⟨w.heap.size, 0, none⟩ (.slice A6 (pre.length + 1) c6)) (some w.heap.size) := only_setCell (only_refl _ _) (.inl rfl) _
  have hB0 : Below w.heap.size W w6 := hB.mono (by omega)
  have hK1 : KeepsFrom base (W.alloc (.cells #[x.v] 35)) w6 := (KeepsOthers.of_grownBy hg (own_cells hO)).from _
  have hE : ∀ s ∈ pre ++ [x], s.Fresh (w6.setCell ⟨w.heap.size, 0, none⟩ (.slice A6 (pre.length + 1) c6)) ∧ s.l.length ≤ 458976 := fun s hs => by
    rcases List.mem_append.1 hs with hs | hs
    · exact ⟨(hF s (h.each s hs).1).only hset hR6 (by omega), (h.each s hs).2⟩
    · obtain rfl : s = x := by simpa using hs
      exact ⟨(hF _ hx).only hset hR6 (by omega), hl⟩
  refine ⟨hB, (((KeepsOthers.alloc W _).from base).trans hK1).trans ((KeepsOthers.setCell w6 _ _).from base), hB0.setCell (by simp) _, ⟨?_, ?_, hE, h.bel.trans (hB0.setCell (by simp) _), Nat.le_trans h.sz (Nat.le_trans hB.size hset.size)⟩⟩
  · have := hR6.set 0 (.slice A6 (pre.length + 1) c6)
    simpa using this
  · have := own_only hown hset hR6 (by omega)
    simpa [secs] using this
end

set_option maxRecDepth 100000 in
set_option maxHeartbeats 3200000 in
theorem appendSeq_any (Bs : Nat) (A : Option Addr) (ss : List Sec) (cap : Nat) (w : World) (hi : SecsIn n0 A ss cap w) (hc : w.cell? ⟨Bs, 0, none⟩ = some (.slice A ss.length cap)) (hl : ∀ i (h : i < ss.length), (ss[i]).l.length = 128) (hn : ss.length ≤ 4096) :
    Calls Try.prog 63 #[.slice none 0 0, .func (.func 58) #[] #[.pointer (some ⟨Bs, 0, none⟩)]] w fun e w' => ∃ A' c xs, e = .returned (.slice A' xs.length c) ∧ secD xs = recordsB (secD ss) ∧ SecsIn n0 A' xs c w' ∧ (∀ s ∈ xs, s.l.length ≤ 458976) ∧ Below w.heap.size w w' := by
  have HI := hide hi
  have HC := hide hc
  have HCL := hide (cell_lt hc)
  have HSL := hide hl
  have HN := hide hn
  clear hi hc hl hn
  refine (callsIn_wide (n := 4)).1 ?_
  refine callsIn_of_wp_marks Try.func63 rfl trivial ?_ rfl
  simp only [Try.ntmps63, List.size_toArray, List.length_cons, List.length_nil, Nat.reduceAdd, Nat.reduceSub, Array.replicate_succ, Array.replicate_zero, List.push_toArray, List.append_toArray, List.nil_append, List.cons_append]
  gi_wp2_with fail
  have HOP0 : Hid (CS w (w.alloc (.cells #[.slice none 0 0] 22)).heap.size none 0 [] (w.alloc (.cells #[.slice none 0 0] 22))) := hide ⟨Blk.new w 22 _, ⟨by simp [secs], .inl ⟨rfl, rfl⟩⟩, fun s hs => (by cases hs), below_new w _, Nat.le_refl _⟩
  have HWK := hide (below_new w (.cells #[.slice none 0 0] 22))
  have hsz0 : w.heap.size < (w.alloc (.cells #[.slice none 0 0] 22)).heap.size := by simp
  generalize w.alloc (.cells #[.slice none 0 0] 22) = W0 at *
  refine wp_rangeR rfl (by omega) (gf := 58) (lb := #[.pointer (some ⟨Bs, 0, none⟩)]) rfl trivial (enters_of Try.func58 (by kernel_rfl) rfl)
    (recsOn_gives (n0 := n0) (4 - 1) (by omega) Bs A ss cap W0 (fun A B => (w.heap.size ≤ A.heap.size → Below w.heap.size A B) ∧ A.heap.size ≤ B.heap.size)
      (fun W h => ⟨HI.out.below (HWK.out.trans (h.1 HWK.out.size)), ((HWK.out.trans (h.1 HWK.out.size)).cell (p := ⟨Bs, 0, none⟩) HCL.out).trans HC.out⟩) (fun A B C h k => ⟨fun q => (h.1 q).trans (k.1 (Nat.le_trans q h.2)), Nat.le_trans h.2 k.2⟩) (fun A B h => ⟨fun q => h.mono q, h.size⟩) HSL.out HN.out)
    (fun h k => ⟨fun q => (h.1 q).trans (k.1 (Nat.le_trans q h.2)), Nat.le_trans h.2 k.2⟩)
    (fun W l o o' hl _ _ => ⟨fun _ => below_putObj (by omega), by simp [World.putObj]⟩) (Below.refl _ _) (fun _ => rfl)
    (fun pre W => ∃ A c, CS w W0.heap.size A c pre W) (cs_own w _ (by omega)) (fun x => OwnFrom.and (fresh_own _ x) (ownFrom_pure _ _)) ⟨none, 0, HOP0.out⟩ ?a1 ?hassign ?hbody ?hdone
  case hassign =>
    intro l x W K hK
    gi_wp2
    exact hK
  case hbody =>
    rintro l pre x W ⟨A, c, hOP⟩ ⟨hxf, hxl⟩ hlen
    have HO := hide hOP
    have HXF := hide hxf
    have HXL := hide hxl
    have k0 : W.cell? ⟨w.heap.size, 0, none⟩ = some (.slice A pre.length c) := hOP.box.cell 0
    have HOW := hide (own_later hOP.own (below_new W (.cells #[x.v] 35)))
    have hzW : W0.heap.size ≤ (W.alloc (.cells #[x.v] 35)).heap.size := by have := hOP.sz; simp; omega
    have HNC := hide (show ∀ j u, [x.v][j]? = some u → (W.alloc (.cells #[x.v] 35)).cell? ((⟨W.heap.size, 0, none⟩ : Addr).add j) = some u from fun j u hu => new_cells W 35 [x.v] _ rfl j u hu)
    obtain ⟨i35, hi0, hz0, hz1, hz2⟩ := hinfo35
    have HIN := hide (And.intro hi0 (And.intro hz0 (And.intro hz1 hz2)))
    clear hOP hxf hxl hi0 hz0 hz1 hz2
    gi_wp2_with (gi_at_builtin; refine wpListIn_append_own _ rfl (.tmp 8) (.tmp 10) 22 rfl W0.heap.size 35 i35 _ 1 24 Try.underlying22 HIN.out.1 HIN.out.2.1 HIN.out.2.2.1 HIN.out.2.2.2 rfl (by omega) _ pre.length (secs pre) rfl HOW.out ⟨W.heap.size, 0, none⟩ 1 1 [x.v] rfl rfl HNC.out (by simp [Value.oneCell']) (by unfold maxLen; omega) (by omega) hzW ?_; intro v' w6 hown hg _; obtain ⟨A6, c6, rfl⟩ := own_form hown; have HOWN := hide hown; have HGR := hide (show (W.alloc (.cells #[x.v] 35)).grownBy w6 (Value.slice A pre.length c).ownBlock from hg); have HR6 := hide ((HO.out.box.alloc (.cells #[x.v] 35)).app HOW.out hg (by omega)); have k1 : w6.cell? ⟨w.heap.size, 0, none⟩ = some (.slice A pre.length c) := HR6.out.cell 0; have f1 := HR6.out.free 0; clear hown hg)
    obtain ⟨m0, m1, m2, m3⟩ := HO.out.more HXF.out HXL.out HOWN.out HGR.out (by omega)
    exact ⟨m1, ⟨fun _ => m2, m0.size⟩, A6, c6, m3⟩
  case hdone =>
    rintro D xs W hD hS ⟨A, c, hOP⟩ hK
    have HO := hide hOP
    have HDK := hide hK
    have HXS := hide hS
    have k0 : W.cell? ⟨w.heap.size, 0, none⟩ = some (.slice A xs.length c) := hOP.box.cell 0
    clear hOP hK hS
    gi_wp2_with fail
    have hOP2 := (cs_own1 w W0.heap.size A c xs (B := D) (by omega)).putObj (s := ()) (.deferred none) HO.out (Nat.le_refl _) HDK.out rfl
    refine ⟨by simp, .inl ⟨_, _, rfl, run_takeDeferred HDK.out, ?_⟩⟩
    exact ⟨_, results_tmp rfl _ _ _, A, c, xs, rfl, HXS.out, secsIn_own hOP2.own (fun s h => (hOP2.each s h).1), fun s h => (hOP2.each s h).2, hOP2.bel⟩

set_option maxRecDepth 100000 in
set_option maxHeartbeats 1600000 in
theorem collect_any (Bs : Nat) (A : Option Addr) (ss : List Sec) (cap : Nat) (w : World) (hi : SecsIn n0 A ss cap w) (hc : w.cell? ⟨Bs, 0, none⟩ = some (.slice A ss.length cap)) (hl : ∀ i (h : i < ss.length), (ss[i]).l.length = 128) (hn : ss.length ≤ 4096) :
    Calls Try.prog 43 #[.func (.func 58) #[] #[.pointer (some ⟨Bs, 0, none⟩)]] w fun e w' => ∃ A' c xs, e = .returned (.slice A' xs.length c) ∧ secD xs = recordsB (secD ss) ∧ SecsIn n0 A' xs c w' ∧ (∀ s ∈ xs, s.l.length ≤ 458976) ∧ Below w.heap.size w w' := by
  have HA := hide (appendSeq_any Bs A ss cap w hi hc hl hn)
  clear hi hc hl hn
  go_enter Try.func43, Try.ntmps43
  go_wp2_with fail
  refine HA.out.mono ?_
  rintro e w1 ⟨A', c, xs, rfl, h⟩
  have H := hide h
  clear h
  go_wp2_with fail
  go_ret
  exact ⟨A', c, xs, rfl, H.out⟩
end Go.Proofs.Ytgigccgklahddaa
