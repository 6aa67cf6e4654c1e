/- written. -/
import Derived.Test.YtgigccgklahddaaRg2
import Derived.Stop.RegionWithIn
namespace Go.Proofs.Ytgigccgklahddaa
open Go.RowKit
variable {n0 B : Nat}
attribute [local go_sem] Oper.semAt_some

/-- The writes of pieces from a place on. -/
def writesP : Nat → Nat → List (Bool × Bool × List UInt8) → List (Int × List UInt8)
  | _, _, [] => []
  | k, g, p :: r => ((k : Int), secB p.1 p.2.1 p.2.2 k g) :: writesP (k + 1) g r
theorem writesP_app (g : Nat) (b : List (Bool × Bool × List UInt8)) : ∀ (a : List (Bool × Bool × List UInt8)) (k : Nat), writesP k g (a ++ b) = writesP k g a ++ writesP (k + a.length) g b
  | [], k => by simp [writesP]
  | p :: a, k => by
    show _ :: writesP (k + 1) g (a ++ b) = _
    rw [writesP_app g b a (k + 1), List.length_cons, show k + 1 + a.length = k + (a.length + 1) by omega]
    rfl
theorem writesP_len (g : Nat) : ∀ (a : List (Bool × Bool × List UInt8)) (k : Nat), (writesP k g a).length = a.length
  | [], _ => rfl
  | p :: a, k => by
    show (_ :: writesP (k + 1) g a).length = _
    rw [List.length_cons, writesP_len g a (k + 1), List.length_cons]
theorem writesP_one (k g : Nat) (p : Bool × Bool × List UInt8) : writesP k g [p] = [((k : Int), secB p.1 p.2.1 p.2.2 k g)] := rfl
theorem piecesB_len (l : List UInt8) : (piecesB l).length = secN l.length := by simp [piecesB]
/-- A write that is sound. -/
theorem write_more {d : Dk} (hr : d.runs = true) {i : Nat} (hi : i < d.sec.length) {b : List UInt8} (hb : b.length = 128) (hp : d.pen.length < 4096) :
    d.write i b = ({ d with pen := d.pen ++ [((i : Int), b)] }, 0) ∧ ({ d with pen := d.pen ++ [((i : Int), b)] } : Dk).runs = true := by
  have hh : d.has (i : Int) = true := by simp [Dk.has, hi]
  refine ⟨?_, ?_⟩
  · unfold Dk.write
    rw [hr, hh]
    simp only [Bool.and_self, ↓reduceIte]
    rw [if_neg (by omega), if_neg (by omega), padS_full hb]
  · have hv : d.valid = true ∧ d.stp = false := by
      unfold Dk.runs at hr
      simp only [Bool.and_eq_true, Bool.not_eq_true'] at hr
      exact ⟨hr.2, hr.1⟩
    have h2 := hv.1
    unfold Dk.valid at h2
    simp only [Bool.and_eq_true] at h2
    unfold Dk.runs
    simp only [Bool.and_eq_true, Bool.not_eq_true']
    refine ⟨hv.2, ?_⟩
    unfold Dk.valid
    simp only [Bool.and_eq_true]
    refine ⟨⟨h2.1.1, ?_⟩, h2.2⟩
    have hq := validPen_iff.1 h2.1.2
    refine validPen_iff.2 ⟨by rw [List.length_append]; simp; omega, fun j hj => ?_⟩
    by_cases h : j < d.pen.length
    · rw [List.getElem_append_left h]
      exact hq.2 j h
    · have e : ({ d with pen := d.pen ++ [((i : Int), b)] } : Dk).pen[j] = ((i : Int), b) := by
        show (d.pen ++ [((i : Int), b)])[j] = _
        rw [List.getElem_append_right (by omega)]
        simp
      rw [e]
      exact ⟨by simp only; omega, by simp only; omega, hb⟩

/-- written under way. -/
structure WS (n0 : Nat) (w : World) (z : Dsk) (k g : Nat) (W : World) : Prop where
  b0 : Blk W w.heap.size 25 z.cs
  b1 : Blk W (w.heap.size + 1) 3 [.int .i64 k]
  b2 : Blk W (w.heap.size + 2) 72 [.int .u32 g]
  b3 : Blk W (w.heap.size + 3) 25 [.slice none 0 0, .slice none 0 0, .int .i64 0, .bool false]
  zin : z.In n0 W
  bel : Below w.heap.size w W
  sz : w.heap.size + 4 ≤ W.heap.size
section
variable {w W W' : World} {z : Dsk} {k g : Nat}
theorem WS.below (h : WS n0 w z k g W) (hb : Below W.heap.size W W') : WS n0 w z k g W' :=
  ⟨h.b0.below hb h.b0.lt, h.b1.below hb h.b1.lt, h.b2.below hb h.b2.lt, h.b3.below hb h.b3.lt, h.zin.below hb, below_one h.bel hb, Nat.le_trans h.sz hb.size⟩
theorem ws_own {β : Type} (hB : w.heap.size ≤ B) : OwnFrom B (fun (_ : β) W => WS n0 w z k g W) := fun _ X Y row h hg hr =>
  ⟨(blk_own (β := Unit) _ _ _).from B () X Y row h.b0 hg hr, (blk_own (β := Unit) _ _ _).from B () X Y row h.b1 hg hr, (blk_own (β := Unit) _ _ _).from B () X Y row h.b2 hg hr, (blk_own (β := Unit) _ _ _).from B () X Y row h.b3 hg hr, dsk_own (β := Unit) z () X Y row h.zin hg hr, ownFrom_below (β := Unit) (Nat.le_refl _) hB () X Y row h.bel hg hr, Nat.le_trans h.sz hg.size⟩
/-- Another disk in its box, cell by cell. -/
def put4 (W : World) (X : Nat) (z : Dsk) : World := (((W.setCell ⟨X, 0, none⟩ (.slice z.sa z.ss.length z.sc)).setCell ⟨X, 1, none⟩ (.slice z.pa z.ps.length z.pc)).setCell ⟨X, 2, none⟩ (.int .i64 z.left)).setCell ⟨X, 3, none⟩ (.bool z.stp)
theorem put4_only (W : World) (X : Nat) (z : Dsk) : W.grownBy (put4 W X z) (some X) := by
  have h1 : W.grownBy (W.setCell ⟨X, 0, none⟩ (.slice z.sa z.ss.length z.sc)) (some X) := only_setCell (only_refl _ _) (.inl rfl) _
  have h2 := only_setCell (p := ⟨X, 1, none⟩) h1 (.inl rfl) (.slice z.pa z.ps.length z.pc)
  have h3 := only_setCell (p := ⟨X, 2, none⟩) h2 (.inl rfl) (.int .i64 z.left)
  exact only_setCell (p := ⟨X, 3, none⟩) h3 (.inl rfl) (.bool z.stp)
theorem WS.put (h : WS n0 w z k g W) (hn : n0 ≤ w.heap.size) {z' : Dsk} (hz : z'.In n0 W) : WS n0 w z' k g (put4 W w.heap.size z') := by
  have hg := put4_only W w.heap.size z'
  refine ⟨?_, h.b1.only hg (by omega), h.b2.only hg (by omega), h.b3.only hg (by omega), hz.keep h.b0 hn hg, below_of_only h.bel hg (Nat.le_refl _), Nat.le_trans h.sz hg.size⟩
  have := (((h.b0.set 0 (.slice z'.sa z'.ss.length z'.sc)).set 1 (.slice z'.pa z'.ps.length z'.pc)).set 2 (.int .i64 z'.left)).set 3 (.bool z'.stp)
  simpa [put4] using this
/-- The next place. -/
theorem WS.next (h : WS n0 w z k g W) (hn : n0 ≤ w.heap.size) : WS n0 w z (k + 1) g (W.setCell ⟨w.heap.size + 1, 0, none⟩ (.int .i64 ((k : Int) + 1))) := by
  have hg : W.grownBy (W.setCell ⟨w.heap.size + 1, 0, none⟩ (.int .i64 ((k : Int) + 1))) (some (w.heap.size + 1)) := only_setCell (only_refl _ _) (.inl rfl) _
  exact ⟨h.b0.only hg (by omega), by simpa using h.b1.set 0 (.int .i64 ((k : Int) + 1)), h.b2.only hg (by omega), h.b3.only hg (by omega), h.zin.keepT h.b1 (by decide) (by omega) hg, h.bel.setCell (by simp) _, Nat.le_trans h.sz hg.size⟩
end

theorem flat_len (l : List (List UInt8)) : ∀ k, k ≤ l.length → ((l.take k).flatMap piecesB).length = usedB (l.take k)
  | 0, _ => by simp [usedB]
  | k + 1, h => by
    rw [usedB_take (by omega), ← flat_len l k (by omega), List.take_succ_eq_append_getElem (by omega), List.flatMap_append, List.length_append]
    simp [piecesB_len]
theorem flat_more (l : List (List UInt8)) (k : Nat) (h : k < l.length) : (l.take (k + 1)).flatMap piecesB = (l.take k).flatMap piecesB ++ piecesB l[k] := by
  rw [List.take_succ_eq_append_getElem h, List.flatMap_append]
  simp
/-- written under way: what is done, and the marks. -/
structure WI (n0 : Nat) (w : World) (d : Dsk) (at0 g : Nat) (don : List (Bool × Bool × List UInt8)) (ds : List Deferred) (top : Nat) (z : Dsk) (W : World) : Prop where
  ws : WS n0 w z (at0 + don.length) g W
  dz : z.d = { d.d with pen := writesP at0 g don }
  run : z.d.runs = true
  mks : Marks (w.heap.size + 4) ds W top
  up : top ≤ W.heap.size
section
variable {w W W' : World} {d z : Dsk} {at0 g top : Nat} {don : List (Bool × Bool × List UInt8)} {ds : List Deferred}
theorem WI.below (h : WI n0 w d at0 g don ds top z W) (hb : Below W.heap.size W W') : WI n0 w d at0 g don ds top z W' :=
  ⟨h.ws.below hb, h.dz, h.run, h.mks.keep fun i _ hi hx => (hb.block i (Nat.lt_of_lt_of_le hi h.up)).trans hx, Nat.le_trans h.up hb.size⟩
theorem wi_own {β : Type} (hB : w.heap.size ≤ B) (ht : top ≤ B) : OwnFrom B (fun (_ : β) W => WI n0 w d at0 g don ds top z W) := fun q X Y row h hg hr =>
  ⟨ws_own (β := β) hB q X Y row h.ws hg hr, h.dz, h.run, marks_own (β := β) _ ds top ht q X Y row h.mks hg hr, Nat.le_trans h.up hg.size⟩
theorem keeps_row {C : Nat} {T : Nat} {cs : List Value} (hb : Blk W C T cs) (B : Nat) (es : Array Value) : KeepsFrom B W (W.setRow C es) :=
  (KeepsOthers.of_grownBy (only_setRow (only_refl _ _) (.inl rfl) es) (fun j o hj ho => by
    injection hj with hj
    subst hj
    rw [show W.heap[C]? = _ from hb] at ho
    injection ho with ho
    subst ho
    rfl)).from B
theorem keeps_below {B : Nat} {W W' : World} (hb : Below W.heap.size W W') : KeepsFrom B W W' := ⟨hb.size, fun k _ _ hk _ => (hb.block k (Array.getElem?_eq_some_iff.1 hk).1).trans hk⟩
/-- A piece is written. -/
theorem WI.step (h : WI n0 w d at0 g don ds top z W) (hn : n0 ≤ w.heap.size) {z' : Dsk} (hz : z'.In n0 W) {p : Bool × Bool × List UInt8} (hd : z'.d = { z.d with pen := z.d.pen ++ [(((at0 + don.length : Nat) : Int), secB p.1 p.2.1 p.2.2 (at0 + don.length) g)] }) (hrun : z'.d.runs = true) :
    WI n0 w d at0 g (don ++ [p]) ds top z' ((put4 W w.heap.size z').setCell ⟨w.heap.size + 1, 0, none⟩ (.int .i64 (((at0 + don.length : Nat) : Int) + 1))) := by
  refine ⟨?_, ?_, hrun, h.mks.keep fun i hi _ hx => (heap_setCell_other _ _ i _ (by simp only; omega)).trans (((put4_only W w.heap.size z').block i (Array.getElem?_eq_some_iff.1 hx).1 (fun e => by injection e with e; omega)).trans hx), ?_⟩
  · have := (h.ws.put hn hz).next hn
    rw [List.length_append, List.length_singleton, ← Nat.add_assoc]
    exact this
  · rw [hd, h.dz, writesP_app, writesP_one]
  · have h1 := h.up
    have h2 := (put4_only W w.heap.size z').size
    have h3 : (put4 W w.heap.size z').heap.size ≤ ((put4 W w.heap.size z').setCell ⟨w.heap.size + 1, 0, none⟩ (.int .i64 (((at0 + don.length : Nat) : Int) + 1))).heap.size := by simp [World.setCell]
    omega
theorem step_keeps {X w3 : World} (hb : Below X.heap.size X w3) (hw : w.heap.size ≤ X.heap.size) {Wc : Nat} (h1 : w.heap.size + 1 < Wc) (h2 : Wc < X.heap.size) (B : Nat) (u : Value) (z2 : Dsk) :
    KeepsFrom B X ((put4 w3 w.heap.size z2).setCell ⟨w.heap.size + 1, 0, none⟩ u) ∧ Below w.heap.size X ((put4 w3 w.heap.size z2).setCell ⟨w.heap.size + 1, 0, none⟩ u) ∧ (∀ q, X.cell? ⟨Wc, 0, none⟩ = some q → ((put4 w3 w.heap.size z2).setCell ⟨w.heap.size + 1, 0, none⟩ u).cell? ⟨Wc, 0, none⟩ = some q) ∧ X.heap.size ≤ ((put4 w3 w.heap.size z2).setCell ⟨w.heap.size + 1, 0, none⟩ u).heap.size := by
  have hk : KeepsOthers w3 (put4 w3 w.heap.size z2) := (((KeepsOthers.setCell _ _ _).trans (KeepsOthers.setCell _ _ _)).trans (KeepsOthers.setCell _ _ _)).trans (KeepsOthers.setCell _ _ _)
  have hB : Below w.heap.size X (put4 w3 w.heap.size z2) := ((((hb.mono hw).setCell (p := ⟨w.heap.size, 0, none⟩) (Nat.le_refl _) _).setCell (p := ⟨w.heap.size, 1, none⟩) (Nat.le_refl _) _).setCell (p := ⟨w.heap.size, 2, none⟩) (Nat.le_refl _) _).setCell (p := ⟨w.heap.size, 3, none⟩) (Nat.le_refl _) _
  have hp := put4_only w3 w.heap.size z2
  have hz : (put4 w3 w.heap.size z2).heap.size ≤ ((put4 w3 w.heap.size z2).setCell ⟨w.heap.size + 1, 0, none⟩ u).heap.size := by simp [World.setCell]
  refine ⟨((keeps_below hb).trans (hk.from B)).trans ((KeepsOthers.setCell _ _ _).from B), hB.setCell (p := ⟨w.heap.size + 1, 0, none⟩) (by simp) u, fun q hq => ?_, Nat.le_trans hb.size (Nat.le_trans hp.size hz)⟩
  refine (World.cell?_of_block (a := ⟨Wc, 0, none⟩) ?_).trans hq
  exact (heap_setCell_other _ _ _ _ (by simp only; omega)).trans ((hp.block _ (Nat.lt_of_lt_of_le h2 hb.size) (fun e => by injection e with e; omega)).trans (hb.block _ h2))
end
set_option maxRecDepth 100000 in
set_option maxHeartbeats 3200000 in
theorem written_any (d : Dsk) (A : Option Addr) (rs : List Sec) (c at0 g : Nat) (w : World) (hn : n0 ≤ w.heap.size) (hi : d.In n0 w) (hr : SecsIn n0 A rs c w) (hrun : d.d.runs = true) (hp : d.ps.length = 0) (hat : at0 + usedB (secD rs) ≤ d.ss.length) (hg : g < 4294967296) (hs : ∀ s ∈ rs, s.l.length ≤ 1000000) :
    Calls Try.prog 45 #[d.v, .slice A rs.length c, .int .i64 at0, .int .u32 g] w fun e w' => ∃ z : Dsk, e = .returned z.v ∧ z.d = { d.d with pen := writesP at0 g ((secD rs).flatMap piecesB) } ∧ z.In n0 w' ∧ Below w.heap.size w w' := by
  have HI := hide hi
  have HR := hide hr
  have HRUN := hide hrun
  have HP := hide hp
  have HAT := hide hat
  have HS := hide hs
  have HNS := hide (show d.ss.length ≤ 4096 by
    unfold Dk.runs at hrun
    simp only [Bool.and_eq_true, Bool.not_eq_true'] at hrun
    have h2 := hrun.2
    rw [valid_iff] at h2
    simp only [Bool.and_eq_true] at h2
    have := (validSec_iff.1 h2.1.1).1.2
    rwa [secD_len] at this)
  clear hi hr hrun hp hat hs
  refine (callsIn_wide (n := 4)).1 ?_
  refine callsIn_of_wp_marks Try.func45 rfl trivial ?_ rfl
  simp only [Try.ntmps45, List.size_toArray, List.length_cons, List.length_nil, Nat.reduceAdd, Nat.reduceSub, Array.replicate_succ, Array.replicate_zero, List.push_toArray, List.append_toArray, List.nil_append, List.cons_append]
  gi_wp2_with fail
  have HWS : Hid (WS n0 w d at0 g ((((w.alloc (.cells d.cs.toArray 25)).alloc (.cells #[.int .i64 at0] 3)).alloc (.cells #[.int .u32 g] 72)).alloc (.cells #[.slice none 0 0, .slice none 0 0, .int .i64 0, .bool false] 25))) := hide (by
    have q0 := (((Blk.new w 25 d.cs).alloc (.cells #[.int .i64 at0] 3)).alloc (.cells #[.int .u32 g] 72)).alloc (.cells #[.slice none 0 0, .slice none 0 0, .int .i64 0, .bool false] 25)
    have q1 := ((Blk.new (w.alloc (.cells d.cs.toArray 25)) 3 [.int .i64 at0]).alloc (.cells #[.int .u32 g] 72)).alloc (.cells #[.slice none 0 0, .slice none 0 0, .int .i64 0, .bool false] 25)
    have q2 := (Blk.new ((w.alloc (.cells d.cs.toArray 25)).alloc (.cells #[.int .i64 at0] 3)) 72 [.int .u32 g]).alloc (.cells #[.slice none 0 0, .slice none 0 0, .int .i64 0, .bool false] 25)
    have q3 := Blk.new (((w.alloc (.cells d.cs.toArray 25)).alloc (.cells #[.int .i64 at0] 3)).alloc (.cells #[.int .u32 g] 72)) 25 [.slice none 0 0, .slice none 0 0, .int .i64 0, .bool false]
    simp only [World.size_alloc] at q1 q2 q3
    have hb : Below w.heap.size w ((((w.alloc (.cells d.cs.toArray 25)).alloc (.cells #[.int .i64 at0] 3)).alloc (.cells #[.int .u32 g] 72)).alloc (.cells #[.slice none 0 0, .slice none 0 0, .int .i64 0, .bool false] 25)) := (((below_new w _).alloc (by simp) _).alloc (by simp; omega) _).alloc (by simp; omega) _
    exact ⟨q0, q1, q2, q3, HI.out.below hb, hb, by simp only [World.size_alloc]; omega⟩)
  generalize (((w.alloc (.cells d.cs.toArray 25)).alloc (.cells #[.int .i64 at0] 3)).alloc (.cells #[.int .u32 g] 72)).alloc (.cells #[.slice none 0 0, .slice none 0 0, .int .i64 0, .bool false] 25) = W0 at *
  have HZ0 : Hid (WI n0 w d at0 g [] [] W0.heap.size d W0) := hide ⟨HWS.out, by
    have e : d.d.pen = [] := List.eq_nil_of_length_eq_zero (by rw [show d.d.pen = wrD d.ps from rfl, wrD_len]; exact HP.out)
    rw [show writesP at0 g [] = d.d.pen by rw [e]; rfl], HRUN.out, trivial, Nat.le_refl _⟩
  refine wpIn_loop (fun a W => ∃ (k top : Nat) (z : Dsk) (ds : List Deferred) (u10 u11 u12 u16 u17 u18 u19 u20 u21 u22 u23 u24 u25 u26 u27 u28 u29 u30 u31 u32 u33 u34 u35 : Value), a = { tmps := #[d.v, .slice A rs.length c, .int .i64 at0, .int .u32 g, .pointer (some ⟨w.heap.size, 0, none⟩), undef, .pointer (some ⟨w.heap.size + 1, 0, none⟩), .pointer (some ⟨w.heap.size + 1 + 1, 0, none⟩), .pointer (some ⟨w.heap.size + 1 + 1 + 1, 0, none⟩), undef, u10, u11, u12, .slice A rs.length c, .int .i64 rs.length, .int .i64 k, u16, u17, u18, u19, u20, u21, u22, u23, u24, u25, u26, u27, u28, u29, u30, u31, u32, u33, u34, u35, undef], defers := ds } ∧ k ≤ rs.length ∧ Hid (WI n0 w d at0 g (((secD rs).take k).flatMap piecesB) ds top z W)) (fun a _ => rs.length - (intOf (a.tmps.getD 15 undef)).toNat) ⟨0, W0.heap.size, d, [], undef, undef, undef, undef, undef, undef, undef, undef, undef, undef, undef, undef, undef, undef, undef, undef, undef, undef, undef, undef, undef, undef, undef, rfl, Nat.zero_le _, HZ0⟩ ?_
  rintro a W ⟨k, top, z, ds, u10, u11, u12, u16, u17, u18, u19, u20, u21, u22, u23, u24, u25, u26, u27, u28, u29, u30, u31, u32, u33, u34, u35, rfl, hk, HW⟩
  by_cases hlt : k < rs.length
  · have hi0 : (k : Int) < rs.length := by omega
    obtain ⟨b, o, hra, _, c0⟩ := (HR.out.below HW.out.ws.bel).at hlt
    have HSI := hide ((HR.out.each _ (List.getElem_mem hlt)))
    have HSL := hide (HS.out _ (List.getElem_mem hlt))
    have HFM := hide (flat_more (secD rs) k (by rw [secD_len]; exact hlt))
    rw [secD_get] at HFM
    have HUL := hide (show ((secD rs).take k).flatMap piecesB |>.length |> fun q => at0 + q + secN (rs[k]).l.length ≤ d.ss.length by
      have h1 := flat_len (secD rs) (k + 1) (by rw [secD_len]; exact hlt)
      rw [flat_more (secD rs) k (by rw [secD_len]; exact hlt), List.length_append, secD_get, piecesB_len] at h1
      have h2 : usedB ((secD rs).take (k + 1)) ≤ usedB (secD rs) := by
        conv => rhs; rw [← List.take_append_drop (k + 1) (secD rs)]
        rw [usedB_app]; omega
      have h3 := HAT.out
      show _ + _ + _ ≤ _
      omega)
    subst hra
    generalize rs[k] = s at *
    generalize ((secD rs).take k).flatMap piecesB = don at *
    generalize hd1 : ((secD rs).take (k + 1)).flatMap piecesB = don1 at *
    have HD1 := hide hd1
    clear hd1
    gi_wp2_with (refine ⟨trivial, ?_⟩; gi_at_call 64; refine (callsIn_wide.2 (piecesOf_any _ _)).mono ?_; rintro e w3 ⟨rfl, rfl⟩)
    have HWp := hide (HW.out.below (below_new W (.cells #[s.v] 35)))
    have HBX := hide (show (W.alloc (.cells #[s.v] 35)).cell? ⟨W.heap.size, 0, none⟩ = some s.v from (Blk.new W 35 [s.v]).cell 0)
    have hszW : w.heap.size + 4 ≤ W.heap.size := HW.out.ws.sz
    have hszp : W.heap.size < (W.alloc (.cells #[s.v] 35)).heap.size := by simp
    have htop : top ≤ W.heap.size := HW.out.up
    have HWP := hide (HWp.out.ws.bel)
    clear c0 HW
    generalize W.alloc (.cells #[s.v] 35) = Wp at *
    refine wp_rangeR2 rfl (by omega) (gf := 73) (lb := #[.pointer (some ⟨W.heap.size, 0, none⟩)]) rfl trivial (enters_of Try.func73 (by kernel_rfl) rfl)
      (pieces_gives (n0 := n0) (4 - 1) (by omega) W.heap.size s Wp (fun A B => (w.heap.size ≤ A.heap.size → Below w.heap.size A B) ∧ (A.cell? ⟨W.heap.size, 0, none⟩ = some s.v → B.cell? ⟨W.heap.size, 0, none⟩ = some s.v) ∧ A.heap.size ≤ B.heap.size)
        (fun X h => ⟨HSI.out.below (HWP.out.trans (h.1 HWP.out.size)), h.2.1 HBX.out⟩) (fun A B C h k => ⟨fun q => (h.1 q).trans (k.1 (Nat.le_trans q h.2.2)), fun q => k.2.1 (h.2.1 q), Nat.le_trans h.2.2 k.2.2⟩) (fun A B h => ⟨fun q => h.mono q, fun q => (World.cell?_of_block (a := ⟨W.heap.size, 0, none⟩) (h.block _ (cell_lt q))).trans q, h.size⟩) HSL.out)
      (fun h k => ⟨fun q => (h.1 q).trans (k.1 (Nat.le_trans q h.2.2)), fun q => k.2.1 (h.2.1 q), Nat.le_trans h.2.2 k.2.2⟩)
      (fun X l o o' hl _ _ => ⟨fun _ => below_putObj (by omega), fun q => (World.cell?_of_block (a := ⟨W.heap.size, 0, none⟩) (World.putObj_heap_other (by simp only; omega))).trans q, by simp [World.putObj]⟩) (Below.refl _ _) (fun _ => rfl)
      (fun pre X => ∃ z', WI n0 w d at0 g (don ++ pre.map Pc.d) ds top z' X ∧ Wp.heap.size ≤ X.heap.size) (fun pre X Y row ⟨z', h1, h2⟩ hg' hr => ⟨z', wi_own (β := Unit) (by omega) (by omega) () X Y row h1 hg' hr, Nat.le_trans h2 hg'.size⟩) ⟨z, by simpa using HWp.out, Nat.le_refl _⟩
      (fun pre x a' X => ∃ z' Bx, Wp.heap.size ≤ Bx ∧ Blk X Bx 95 [.bool x.bg, .bool x.en, x.s.v] ∧ x.s.In n0 X ∧ x.s.l.length ≤ 112 ∧ WI n0 w d at0 g (don ++ pre.map Pc.d) ds top z' X ∧ Wp.heap.size ≤ X.heap.size ∧ a' = { tmps := #[d.v, .slice (some ⟨b, o, none⟩) rs.length c, .int .i64 at0, .int .u32 g, .pointer (some ⟨w.heap.size, 0, none⟩), undef, .pointer (some ⟨w.heap.size + 1, 0, none⟩), .pointer (some ⟨w.heap.size + 1 + 1, 0, none⟩), .pointer (some ⟨w.heap.size + 1 + 1 + 1, 0, none⟩), undef, s.v, .pointer (some ⟨Bx, 0, none⟩), u12, .slice (some ⟨b, o, none⟩) rs.length c, .int .i64 rs.length, .int .i64 k, .bool true, .pointer (some ⟨b, o + k, none⟩), s.v, s.v, .func (.func 73) #[] #[.pointer (some ⟨W.heap.size, 0, none⟩)], x.v, u22, u23, u24, u25, u26, u27, u28, u29, u30, u31, u32, u33, u34, u35, undef], defers := [] })
      (fun pre x a' _ X Y row ⟨z', Bx, h1, h2, h3, h4, h5, h6, h7⟩ hg' hr => ⟨z', Bx, h1, (blk_own (β := Unit) _ _ _).from _ () X Y row h2 hg' hr, sec_own (β := Unit) _ () X Y row h3 hg' hr, h4, wi_own (β := Unit) (by omega) (by omega) () X Y row h5 hg' hr, Nat.le_trans h6 hg'.size, h7⟩)
      ?assign ?body ?done
    case assign =>
      rintro l pre x X K ⟨z', hI, hz⟩ ⟨hx, hxl⟩ hK
      have HII := hide hI
      have HX := hide hx
      clear hI hx
      gi_wp2
      exact hK _ _ ((KeepsOthers.alloc _ _).from _) ⟨fun q => (below_new X _).mono q, fun q => ((below_new X _).cell (p := ⟨W.heap.size, 0, none⟩) (cell_lt q)).trans q, by simp⟩ ⟨z', X.heap.size, hz, Blk.new X 95 [.bool x.bg, .bool x.en, x.s.v], HX.out.below (below_new X _), hxl, HII.out.below (below_new X _), by simp; omega, rfl⟩
    case body =>
      rintro l pre x a' X ⟨z', Bx, hBx, hB, hx, hxl, hI, hz, rfl⟩ hpl
      obtain ⟨bg, en, sx⟩ := x
      simp only at hB hx hxl
      have HB := hide hB
      have HX := hide hx
      obtain ⟨m, hm⟩ : ∃ m, m = at0 + (don ++ pre.map Pc.d).length := ⟨_, rfl⟩
      have hI1 := hI.ws
      rw [← hm] at hI1
      have hml : m < d.ss.length := by have := HUL.out; rw [hm, List.length_append, List.length_map]; omega
      have hmn := HNS.out
      have HM := hide hm
      have HII := hide hI
      have y0 := hB.cell 0
      have y1 := hB.cell 1
      have y2 := hB.cell 2
      have p1 := hI1.b1.cell 0
      have p2 := hI1.b2.cell 0
      simp only [List.getElem?_cons_zero, List.getElem?_cons_succ] at y0 y1 y2 p1 p2
      have HJS := hide (jsector_any bg en sx m g X HX.out hxl (by omega) hg)
      have HSL2 := hide (secB_len (bg := bg) (en := en) (n := m) (g := g) hxl)
      have HSZ := hide (show (Try.prog.info? 96).map (·.size) = some (bs (secB bg en sx.l m g)).toArray.size by rw [List.size_toArray, bs_len, HSL2.out]; exact Try.size96)
      have HZS := hide (show Try.zeroCells96.size = (bs (secB bg en sx.l m g)).toArray.size by rw [Try.zero96, List.size_toArray, List.size_toArray, bs_len, bs_len, HSL2.out]; rfl)
      clear hB hx hI hm hI1
      dsimp only
      gi_wp2_with (first | (refine ⟨trivial, ?_⟩; gi_at_call 65; refine (CallsIn.inRound l (callsIn_wide.2 HJS.out)).mono ?_; rintro e w1 ⟨rfl, hb⟩; have HB1 := hide hb; clear hb) | (refine wpListIn_store_row rfl 96 (.tmp 12) (.tmp 25) rfl w1.heap.size (bs (secB bg en sx.l m g)).toArray rfl rfl 96 Try.zeroCells96 (heap_alloc_new _ _) HSZ.out HZS.out (one_bs _) ?_))
      simp only [Act.put]
      have hs1 : X.heap.size ≤ w1.heap.size := HB1.out.size
      have HB2 := hide (show Below X.heap.size X ((w1.alloc (.cells Try.zeroCells96 96)).setRow w1.heap.size (bs (secB bg en sx.l m g)).toArray) from below_setRow (HB1.out.alloc hs1 _) hs1 _)
      have HS2 := hide (show Blk ((w1.alloc (.cells Try.zeroCells96 96)).setRow w1.heap.size (bs (secB bg en sx.l m g)).toArray) w1.heap.size 96 (bs (secB bg en sx.l m g)) from setRow_heap _ _ _ _ _ _ (heap_alloc_new _ _))
      generalize (w1.alloc (.cells Try.zeroCells96 96)).setRow w1.heap.size (bs (secB bg en sx.l m g)).toArray = w2 at HB2 HS2 ⊢
      have HB2d := hide (show Below X.heap.size X w2.drew from HB2.out.drew)
      have HS2d := hide (show Blk w2.drew w1.heap.size 96 (bs (secB bg en sx.l m g)) from HS2.out)
      have HI2 := hide (HII.out.below HB2d.out)
      have hI2 := HI2.out.ws
      rw [← HM.out] at hI2
      obtain ⟨c0, c1, c2, c3⟩ := hI2.b0.c4
      have q1 : w2.drew.cell? ⟨w.heap.size + 1, 0, none⟩ = some (.int .i64 m) := hI2.b1.cell 0
      have hdz := HII.out.dz
      have HWM := hide (write_more HII.out.run (i := m) (b := secB bg en sx.l m g) (by rw [hdz]; show m < (secD d.ss).length; rw [secD_len]; exact hml) HSL2.out (by rw [hdz]; show (writesP at0 g _).length < 4096; rw [writesP_len]; have := HM.out; omega))
      have HWR := hide (write_sub (n0 := n0) (n1 := w1.heap.size + 1) z' m ⟨some ⟨w1.heap.size, 0, none⟩, secB bg en sx.l m g, 128⟩ w2.drew hI2.zin ⟨fun _ => ⟨w1.heap.size, 0, rfl, HS2d.out.lt, .inl (by omega), fun i hi => by rw [Nat.zero_add, HS2d.out.cell, List.getElem?_eq_getElem hi]⟩, by show (secB bg en sx.l m g).length ≤ 128; rw [HSL2.out]; omega, by show (128 : Nat) ≤ _; decide, fun h => by cases h⟩ (by omega))
      rw [HWM.out.1] at HWR
      have hv : (Sec.mk (some ⟨w1.heap.size, 0, none⟩) (secB bg en sx.l m g) 128).v = .slice (some ⟨w1.heap.size, 0, none⟩) 128 128 := by show Value.slice _ (secB bg en sx.l m g).length _ = _; rw [HSL2.out]
      rw [hv] at HWR
      clear hdz hI2 p1 p2 y0 y1 y2 hv
      gi_region_with (first | (refine ⟨trivial, ?_⟩; gi_at_call 28; refine (CallsIn.inRound l (callsIn_wide.2 HWR.out)).mono ?_; rintro e w3 ⟨z2, rfl, hzd, hzin, hb3⟩; have HZD := hide hzd; have HZI := hide hzin; have HB3 := hide hb3; have HI3 := hide (HI2.out.below hb3); obtain ⟨k0, k1, k2, k3⟩ := HI3.out.ws.b0.c4; have f0 := HI3.out.ws.b0.free 0; have f1 := HI3.out.ws.b0.free 1; have f2 := HI3.out.ws.b0.free 2; have f3 := HI3.out.ws.b0.free 3; have r1 := hide (HI3.out.ws.b1); clear hzd hzin hb3))
      all_goals
        (have r2 := r1.out.cell 0
         rw [← HM.out] at r2
         simp only [List.getElem?_cons_zero] at r2
         have r3 := r1.out.free 0
         clear k0 k1 k2 k3 f0 f1 f2 f3 c0 c1 c2 c3 q1
         gi_wp2
         have hstep := HI3.out.step hn HZI.out (p := (bg, en, sx.l)) (by rw [HZD.out, ← HM.out]) (by rw [HZD.out]; exact HWM.out.2)
         rw [← HM.out] at hstep
         have hX3 : Below X.heap.size X w3 := HB2d.out.trans (HB3.out.mono HB2d.out.size)
         obtain ⟨v1, v2, v3, v4⟩ := step_keeps (w := w) hX3 (by omega) (Wc := W.heap.size) (by omega) (by omega) Wp.heap.size (.int .i64 ((m : Int) + 1)) z2
         exact ⟨v1, ⟨fun _ => v2, fun q => (hX3.cell (p := ⟨W.heap.size, 0, none⟩) (by simp only; omega)).trans q, hX3.size⟩, ⟨z2, by rw [List.append_assoc] at hstep; exact hstep⟩, Nat.le_trans hz hX3.size⟩)
    case done =>
      rintro D xs X hD hS ⟨z', hI, hz⟩ hDD
      have hDl : D < X.heap.size := (Array.getElem?_eq_some_iff.1 hDD).1
      rw [hS, ← HFM.out] at hI
      have HI' : Hid (WI n0 w d at0 g don1 ({ target := .collected D, args := #[] } :: ds) (D + 1) z' X) := hide ⟨hI.ws, hI.dz, hI.run, ⟨D, rfl, by omega, by omega, hDD, hI.mks.up (by omega)⟩, by omega⟩
      clear hI hS hDD
      have hrl : rs.length ≤ 4096 := by have h1 := usedB_ge (secD rs); rw [secD_len] at h1; have h2 := HAT.out; have h3 := HNS.out; omega
      dsimp only
      gi_wp2
      refine ⟨⟨k + 1, D + 1, z', _, _, _, _, _, _, _, _, _, _, _, _, _, _, _, _, _, _, _, _, _, _, _, _, rfl, by omega, hide (by rw [HD1.out]; exact HI'.out)⟩, ?_⟩
      simp [intOf]
      omega
  · obtain rfl : k = rs.length := by omega
    have hge : ¬ ((rs.length : Int) < rs.length) := by omega
    have hWW := HW.out.ws
    obtain ⟨c0, c1, c2, c3⟩ := hWW.b0.c4
    have HB3 := hide hWW.b3
    gi_wp2_with (refine wpListIn_store_row rfl 25 (.tmp 8) (.tmp 36) rfl (w.heap.size + 1 + 1 + 1) #[.slice z.sa z.ss.length z.sc, .slice z.pa z.ps.length z.pc, .int .i64 z.left, .bool z.stp] rfl rfl 25 _ HB3.out Try.size25 rfl (one25 _ _ _ _ _ _ _ _) ?_)
    have hst : ((secD rs).take rs.length).flatMap piecesB = (secD rs).flatMap piecesB := by rw [List.take_of_length_le (by rw [secD_len]; exact Nat.le_refl _)]
    have hdz := HW.out.dz
    rw [hst] at hdz
    have hgr : W.grownBy (W.setRow (w.heap.size + 1 + 1 + 1) #[.slice z.sa z.ss.length z.sc, .slice z.pa z.ps.length z.pc, .int .i64 z.left, .bool z.stp]) (some (w.heap.size + 1 + 1 + 1)) := only_setRow (only_refl _ _) (.inl rfl) _
    show LeavesInM Fence.wide 4 Try.prog Try.f45 _ _ ds .returning _
    refine marks_leave (by simp) (B := w.heap.size + 4) (J := fun (_ : Unit) X => Blk X (w.heap.size + 1 + 1 + 1) 25 z.cs ∧ z.In n0 X ∧ Below w.heap.size w X)
      (OwnFrom.and ((blk_own _ _ _).from _) (OwnFrom.and (dsk_own z) (ownFrom_below (Nat.le_refl _) (by omega)))) (by rintro X ⟨h1, h2, h3⟩; refine ⟨_, results_cell_row rfl _ _ (w.heap.size + 1 + 1 + 1) 25 _ (0, 0) _ rfl h1 Try.underlying25 rfl Try.size25, z, rfl, hdz, h2, h3⟩) ds _ top
      (HW.out.mks.keep fun i hi _ hx => (setRow_other _ _ i _ (by omega)).trans hx) ⟨hWW.b3.row z.cs, hWW.zin.keep hWW.b3 (by omega) hgr, below_setRow hWW.bel (by omega) _⟩
end Go.Proofs.Ytgigccgklahddaa
