/- slices.Backward over integers; the value of a polynomial. -/
import Derived.Test.YtcafjncilflanaaWgt
namespace Go.Proofs.Ytcafjncilflanaa
open Go.RowKit Go.Shelf
attribute [local go_sem] Oper.semAt_some

theorem backward_any (A : Option Addr) (n c : Nat) (w : World) : Calls Try.prog 25 #[.slice A n c] w fun e w' => e = .returned (.func (.func 28) #[] #[.pointer (some ⟨w.heap.size, 0, none⟩)]) ∧ w' = w.alloc (.cells #[.slice A n c] 32) := by
  go_enter Try.func25, Try.ntmps25
  go_wp2_with fail
  go_ret
  exact ⟨rfl, rfl⟩

/-- The last k coefficients, from the back, with their indices. -/
def bwd (l : List Int) : Nat → List (Nat × Int)
  | 0 => []
  | k + 1 => bwd l k ++ [(l.length - 1 - k, l.getD (l.length - 1 - k) 0)]
theorem bwd_len (l : List Int) : ∀ k, (bwd l k).length = k
  | 0 => rfl
  | k + 1 => by simp [bwd, bwd_len l k]
/-- The value behind some of them. -/
def vfl (x : Int) (pre : List (Nat × Int)) : Int := pre.foldl (fun y p => md (md (y * x) + p.2)) 0
theorem vfl_snoc (x : Int) (pre : List (Nat × Int)) (p : Nat × Int) : vfl x (pre ++ [p]) = md (md (vfl x pre * x) + p.2) := by simp [vfl, List.foldl_append]
theorem vfl_bwd (l : List Int) (x : Int) : ∀ k, k ≤ l.length → vfl x (bwd l k) = valF (l.drop (l.length - k)) x
  | 0, _ => by simp [bwd, vfl, valF]
  | k + 1, h => by
    have hk : l.length - 1 - k < l.length := by omega
    have e : l.drop (l.length - (k + 1)) = l[l.length - 1 - k] :: l.drop (l.length - k) := by
      have h1 : l.length - (k + 1) = l.length - 1 - k := by omega
      have h2 : l.length - k = l.length - 1 - k + 1 := by omega
      rw [h1, h2]
      exact List.drop_eq_getElem_cons hk
    rw [e]
    show vfl x (bwd l k ++ [_]) = md (md (valF (l.drop (l.length - k)) x * x) + _)
    rw [vfl_snoc, vfl_bwd l x k (by omega)]
    simp only [List.getD_eq_getElem?_getD, List.getElem?_eq_getElem hk, Option.getD_some]
theorem vfl_all (l : List Int) (x : Int) : vfl x (bwd l l.length) = valF l x := by
  rw [vfl_bwd l x _ (Nat.le_refl _), Nat.sub_self, List.drop_zero]

set_option maxRecDepth 100000 in
set_option maxHeartbeats 3200000 in
theorem backward_gives (n : Nat) (_hn : 1 ≤ n) (B1 : Nat) (A : Option Addr) (l : List Int) (cap : Nat) (W0 : World) (K : World → World → Prop)
    (hK : ∀ W, K W0 W → Nums W A l ∧ W.cell? ⟨B1, 0, none⟩ = some (.slice A l.length cap))
    (hKt : ∀ A B C : World, K A B → K B C → K A C) (hKg : ∀ A B : World, Below A.heap.size A B → K A B) (hle : l.length ≤ cap) (hcap : cap ≤ 9223372036854775807) :
    Gives Fence.wide n Try.prog 28 #[.pointer (some ⟨B1, 0, none⟩)] (fun q : Nat × Int => #[.int .i64 (q.1 : Nat), .int .i64 q.2]) (fun _ _ => True) K (fun xs => xs = bwd l l.length) (l.length + 1) W0 := by
  intro ly J W hW hA hY h0
  have HI := hide hK
  have HY := hide hY
  have HA := hide hA
  have HKT := hide hKt
  have HKG := hide hKg
  have HW0 := hide (hKg _ _ hW)
  have hc0 := (hK W (hKg _ _ hW)).2
  clear hK hY hA hKt hKg hW
  have hsb : IntKind.i64.wrap ((l.length : Int) - 1) = (l.length : Int) - 1 := IntWalk.i64_in _ (by omega)
  refine callsIn_of_wp Try.func28 rfl trivial ?_ rfl
  simp only [Try.ntmps28, List.size_toArray, List.length_cons, List.length_nil, Nat.reduceAdd, Nat.reduceSub, Array.replicate_succ, Array.replicate_zero, List.push_toArray, List.append_toArray, List.nil_append, List.cons_append]
  gi_wp2
  gi_loopw [3] (fun v wr => ∃ (k : Nat), k ≤ l.length ∧ v = .int .i64 ((l.length : Int) - 1 - k) ∧ Hid (J (bwd l k) wr) ∧ Hid (K W0 wr)) (fun v _ => ((intOf v) + 1).toNat)
  case atStart => exact ⟨0, Nat.zero_le _, by simp, hide h0, HW0⟩
  case round =>
    obtain ⟨k, hk, rfl, HJ, HW⟩ := hrel
    have e0 := (HI.out _ HW.out).2
    by_cases hlt : k < l.length
    · have hlt' : (0 : Int) ≤ (l.length : Int) - 1 - k := by omega
      have hjl : l.length - 1 - k < l.length := by omega
      obtain ⟨b, o, rfl, d0⟩ := (HI.out _ HW.out).1.at hjl
      have hix : (l.length : Int) - 1 - k = ((l.length - 1 - k : Nat) : Int) := by omega
      have HN := hide (show bwd l (k + 1) = bwd l k ++ [(l.length - 1 - k, l[l.length - 1 - k]'hjl)] from by
        simp only [bwd, List.getD_eq_getElem?_getD, List.getElem?_eq_getElem hjl, Option.getD_some])
      have HLN := hide (show (bwd l k).length < l.length + 1 by rw [bwd_len]; omega)
      have HIX := hide (show IntKind.i64.wrap (((l.length - 1 - k : Nat) : Int) - 1) = (l.length : Int) - 1 - (k + 1 : Nat) by rw [IntWalk.i64_in _ (by omega)]; omega)
      have HMS := hide (show ((l.length : Int) - 1 - (k + 1 : Nat) + 1).toNat < (((l.length - 1 - k : Nat) : Int) + 1).toNat by omega)
      have hlen' : ((l.length - 1 - k : Nat) : Int) < (l.length : Int) := by omega
      rw [hix] at hlt'
      rw [hix]
      clear hix
      generalize hq : l[l.length - 1 - k]'hjl = q at *
      clear hq
      generalize l.length - 1 - k = j at *
      obtain ⟨fn, tmps, assign, body, hy, hR⟩ := HY.out (bwd l k) (j, q) wr HJ.out trivial HLN.out
      dsimp only at hy
      have HRR := hide hR
      have hsj := HIX.out
      clear hR
      gi_wp2
      refine HRR.out.mono ?_
      rintro e w3 ⟨rfl, hJ3, hk3⟩
      have HW3 := hide (HKT.out _ _ _ HW.out hk3)
      gi_wp2
      go_roundw
      case rel => exact ⟨k + 1, by omega, by first | rfl | simp, hide (by rw [HN.out]; exact hJ3), HW3⟩
      case measure => simp only [intOf]; exact HMS.out
    · obtain rfl : k = l.length := by omega
      have hge : ¬ ((0 : Int) ≤ (l.length : Int) - 1 - l.length) := by omega
      gi_wp2
      go_end0
      exact ⟨⟨_, rfl⟩, HJ.out⟩

/-- The box of the value, and what is kept beside. -/
structure VI (w w3 : World) (y : Int) (W : World) : Prop where
  box : Blk W (w.heap.size + 1) 3 [.int .i64 y]
  kept : Kept (fun b => b ≠ w.heap.size + 1) w3 W
  bel : Below w.heap.size w W
theorem vi_own1 {B : Nat} (w w3 : World) (y : Int) (hw : w.heap.size + 3 ≤ w3.heap.size) (hB : w3.heap.size ≤ B) : OwnFrom B (fun (_ : Unit) W => VI w w3 y W) := fun _ X Y row hs hg hr =>
  ⟨(blk_own (β := Unit) _ _ _).from B () X Y row hs.box hg hr,
    ⟨fun b hb hk => (hg.block b (Nat.lt_of_lt_of_le hb hs.kept.size) (fun e => by have := (hr b e.symm).1; omega)).trans (hs.kept.block b hb hk), Nat.le_trans hs.kept.size hg.size⟩,
    ownFrom_below (β := Unit) (Nat.le_refl _) (by omega) () X Y row hs.bel hg hr⟩
theorem VI.below' {w w3 W W' : World} {y : Int} (h : VI w w3 y W) (hb : Below W.heap.size W W') : VI w w3 y W' := ⟨h.box.below hb h.box.lt, h.kept.trans (.below hb), below_one h.bel hb⟩
theorem VI.set {w w3 W : World} {y : Int} (h : VI w w3 y W) (z : Int) : VI w w3 z (W.setCell ⟨w.heap.size + 1, 0, none⟩ (.int .i64 z)) :=
  ⟨h.box.set 0 _, h.kept.trans (.only (X := w.heap.size + 1) (only_setCell (only_refl _ _) (.inl rfl) _) (by simp)), h.bel.setCell (by simp only; omega) _⟩
/-- The loop under way, behind some coefficients. -/
def VJ (w w3 : World) (x : Int) (pre : List (Nat × Int)) (W : World) : Prop := VI w w3 (vfl x pre) W
theorem three (w : World) (c0 c1 c2 : List Value) (t0 t1 t2 : Nat) {W : World} (hW : W = ((w.alloc (.cells c0.toArray t0)).alloc (.cells c1.toArray t1)).alloc (.cells c2.toArray t2)) :
    Blk W w.heap.size t0 c0 ∧ Blk W (w.heap.size + 1) t1 c1 ∧ Blk W (w.heap.size + 1 + 1) t2 c2 ∧ W.heap.size = w.heap.size + 3 ∧ Below w.heap.size w W := by
  subst hW
  generalize h1 : w.alloc (.cells c0.toArray t0) = w1
  have z1 : w1.heap.size = w.heap.size + 1 := by rw [← h1]; simp
  have b1 := h1 ▸ Blk.new w t0 c0
  have B1 := h1 ▸ below_new w (.cells c0.toArray t0)
  generalize h2 : w1.alloc (.cells c1.toArray t1) = w2
  have z2 : w2.heap.size = w.heap.size + 1 + 1 := by rw [← h2]; simp [z1]
  have b2 := h2 ▸ Blk.new w1 t1 c1
  have B2 := h2 ▸ below_new w1 (.cells c1.toArray t1)
  generalize h3 : w2.alloc (.cells c2.toArray t2) = w3
  have z3 : w3.heap.size = w.heap.size + 3 := by rw [← h3]; simp [z2]
  have b3 := h3 ▸ Blk.new w2 t2 c2
  have B3 := h3 ▸ below_new w2 (.cells c2.toArray t2)
  rw [z1] at b2
  rw [z2] at b3
  exact ⟨(b1.below B2 (by omega)).below B3 (by omega), b2.below B3 (by omega), b3, z3, below_one (below_one B1 B2) B3⟩
theorem Nums.blocks {w w' : World} {A : Option Addr} {l : List Int} (h : Nums w A l) (hs : w.heap.size ≤ w'.heap.size) (hb : ∀ b, b < w.heap.size → w'.heap[b]? = w.heap[b]?) : Nums w' A l := fun hn => by
  obtain ⟨b, o, h1, h2, h3⟩ := h hn
  exact ⟨b, o, h1, Nat.lt_of_lt_of_le h2 hs, fun i hi => (World.cell?_of_block (a := ⟨b, o + i, none⟩) (hb b h2)).trans (h3 i hi)⟩
/-- A result that lies in a box of one cell. -/
theorem results_one {P : Program} {fn : Func} {p : Tmp} {ty : TypeId} {d : TypeDesc} (h : fn.results = #[.cell p ty]) (tmps : Array Value) (w : World) (g T : Nat) (v : Value)
    (hp : tmps.getD p undef = .pointer (some ⟨g, 0, none⟩)) (hg : Blk w g T [v]) (hu : P.underlying ty = some d) (hd : (match d with | .struct _ | .array _ _ => true | _ => false) = false) :
    (results fn tmps).run P w = .ok v w := by
  have hp' : tmps[p]?.getD undef = .pointer (some ⟨g, 0, none⟩) := by simpa using hp
  have hc : w.cell? ⟨g, 0, none⟩ = some v := (hg.cell 0).trans rfl
  have hl : (loadVar ty ⟨g, 0, none⟩).run P w = .ok v w := by
    simp [loadVar, run_isAgg_plain hu hd w, go_sem, hc]
  simp [results, h, hp', asAddr, hl]

set_option maxRecDepth 100000 in
set_option maxHeartbeats 6400000 in
theorem value_any (A : Option Addr) (l : List Int) (cap : Nat) (x : Int) (w : World) (hA : Nums w A l) (hl : l.length ≤ cap) (hc : cap ≤ 9223372036854775807) :
    Calls Try.prog 19 #[.slice A l.length cap, .int .i64 x] w fun e w' => e = .returned (.int .i64 (valF l x)) ∧ Below w.heap.size w w' := by
  have HA := hide hA
  clear hA
  refine (callsIn_wide (n := 4)).1 ?_
  refine callsIn_of_wp_marks Try.func19 rfl trivial ?_ rfl
  simp only [Try.ntmps19, List.size_toArray, List.length_cons, List.length_nil, Nat.reduceAdd, Nat.reduceSub, Array.replicate_succ, Array.replicate_zero, List.push_toArray, List.append_toArray, List.nil_append, List.cons_append]
  gi_wp2
  refine ⟨trivial, ?_⟩
  refine (callsIn_wide.2 (backward_any A l.length cap _)).mono ?_
  rintro e w3 ⟨rfl, h3⟩
  simp only [World.size_alloc] at h3 ⊢
  obtain ⟨p0, p1, p2, hz, hb⟩ := three w [.int .i64 x] [.int .i64 0] [.slice A l.length cap] 3 3 32 h3
  have HP0 := hide p0
  have HC := hide p2
  have HZ := hide hz
  have HI0 := hide (show VI w w3 0 w3 from ⟨p1, Kept.refl _, hb⟩)
  have HW3 := hide hb
  clear h3 p0 p1 p2 hz hb
  gi_wp2
  refine wp_rangeR2 rfl (by omega) (gf := 28) (lb := #[.pointer (some ⟨w.heap.size + 1 + 1, 0, none⟩)]) rfl trivial (enters_of Try.func28 (by kernel_rfl) rfl)
    (backward_gives (4 - 1) (by omega) (w.heap.size + 1 + 1) A l cap w3 (fun X Y => Kept (fun b => b ≠ w.heap.size + 1) w3 X → Kept (fun b => b ≠ w.heap.size + 1) w3 Y)
      (fun W h => by
        have hk := h (Kept.refl _)
        refine ⟨?_, (HC.out.kept hk (by omega)).cell 0⟩
        exact HA.out.blocks (by have h1 := HW3.out.size; have h2 := hk.size; omega) (fun b hb => (hk.block b (by have := HZ.out; omega) (by omega)).trans (HW3.out.block b hb))) (fun X Y Z h k q => k (h q)) (fun X Y h q => q.trans (.below h)) hl hc)
    (fun h k q => k (h q)) (fun W l o o' hl _ _ q => kept_put q hl) (Below.refl _ _) (fun _ => rfl)
    (fun pre W => VJ w w3 x pre W) (fun pre => vi_own1 w w3 _ (by have := HZ.out; omega) (Nat.le_refl _) ()) HI0.out
    (fun pre q a' W => VJ w w3 x pre W ∧ a' = { tmps := #[.slice A l.length cap, .int .i64 x, undef, .pointer (some ⟨w.heap.size, 0, none⟩), .pointer (some ⟨w.heap.size + 1, 0, none⟩), undef, .int .i64 q.2, .slice A l.length cap, .func (.func 28) #[] #[.pointer (some ⟨w.heap.size + 1 + 1, 0, none⟩)], .int .i64 (q.1 : Nat), .int .i64 q.2, undef, undef, undef, undef, undef, undef], defers := [] })
    (fun pre q a' _ X Y row ⟨h3, h4⟩ hg hr => ⟨vi_own1 w w3 _ (by have := HZ.out; omega) (Nat.le_refl _) () X Y row h3 hg hr, h4⟩) ?assign ?body ?done
  case assign =>
    rintro ly pre ⟨q1, q2⟩ X K hI - hK
    have HII := hide hI
    clear hI
    dsimp only
    gi_wp2
    exact hK _ _ (KeepsFrom.refl _ _) (fun q => q) ⟨HII.out, rfl⟩
  case body =>
    rintro ly pre ⟨q1, q2⟩ a' X ⟨hI, rfl⟩ hpl
    have HI := hide hI
    have HVS := hide (vfl_snoc x pre (q1, q2))
    simp only at HVS
    have k0 : X.cell? ⟨w.heap.size + 1, 0, none⟩ = some (.int .i64 (vfl x pre)) := hI.box.cell 0
    have k1 : X.cell? ⟨w.heap.size, 0, none⟩ = some (.int .i64 x) := (HP0.out.kept hI.kept (by omega)).cell 0
    clear hI
    dsimp only
    gi_wp2
    refine ⟨trivial, ?_⟩
    refine (callsIn_wide.2 (mul_any _ _ _)).mono ?_
    rintro e w' ⟨rfl, rfl⟩
    gi_wp2
    refine ⟨trivial, ?_⟩
    refine (callsIn_wide.2 (add_any _ _ _)).mono ?_
    rintro e v1 ⟨rfl, hb⟩
    rw [← HVS.out]
    have HB1 := hide hb
    have HI1 := hide (VI.below' HI.out hb)
    clear hb k0 k1
    have k0 : v1.cell? ⟨w.heap.size + 1, 0, none⟩ = some (.int .i64 (vfl x pre)) := HI1.out.box.cell 0
    have f0 := HI1.out.box.free 0
    gi_wp2
    exact ⟨((others_below HB1.out).trans (KeepsOthers.setCell v1 ⟨w.heap.size + 1, 0, none⟩ (.int .i64 (vfl x (pre ++ [(q1, q2)]))))).from _, fun _ => (HI1.out.set (vfl x (pre ++ [(q1, q2)]))).kept, HI1.out.set (vfl x (pre ++ [(q1, q2)]))⟩
  case done =>
    rintro D xs W hD hS hI hK
    have HXS := hide hS
    have HI := hide hI
    have HDK := hide hK
    have HDS := hide hD
    have ha : W.cell? ⟨w.heap.size + 1, 0, none⟩ = some (.int .i64 (vfl x xs)) := hI.box.cell 0
    have HE := hide (show vfl x xs = valF l x by rw [hS, vfl_all])
    have hf := hI.box.free 0
    clear hS hI hK hD
    gi_wp2
    have HI2 := hide (VI.set HI.out (vfl x xs))
    have HD2 := hide (show (W.setCell ⟨w.heap.size + 1, 0, none⟩ (.int .i64 (vfl x xs))).heap[D]? = some (.deferred (some [])) from (heap_setCell_other W ⟨w.heap.size + 1, 0, none⟩ D _ (by simp only; have := HDS.out; have := HZ.out; omega)).trans HDK.out)
    refine ⟨by simp, .inl ⟨_, _, rfl, run_takeDeferred HD2.out, ?_⟩⟩
    refine ⟨_, results_one rfl _ _ (w.heap.size + 1) 3 (.int .i64 (vfl x xs)) rfl ((World.putObj_heap_other (by have := HDS.out; have := HZ.out; omega)).trans HI2.out.box) Try.underlying3 rfl, ?_⟩
    exact ⟨by rw [HE.out], HI2.out.bel.trans (below_putObj (by have := HDS.out; have := HZ.out; omega))⟩
end Go.Proofs.Ytcafjncilflanaa
