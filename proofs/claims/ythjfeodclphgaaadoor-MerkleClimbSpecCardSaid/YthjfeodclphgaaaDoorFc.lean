/- firstCommon: what lies in memory between its rounds. -/
import Derived.Test.YthjfeodclphgaaaDoorCm
import Derived.WalkMore
namespace Go.Proofs.YthjfeodclphgaaaDoor
open Go.RowKit Go.Shelf
/-- A scope with labels to which nothing jumps, inside a fence. -/
theorem wpIn_scope {F : Fence} {n : Nat} {P : Program} {c : Code} {Q : Exit → Act → World → Prop} {a : Act} {w : World} (hro : F.round = none) (h : c.wpIn F n P (Exit.noGoto Q) a w) : (Code.scope c).wpIn F n P Q a w := by
  intro b k cs hr hb hroom
  have hrn : b.roundOf = none := hr.trans hro
  have s1 : step P (lone (b.atR a (.code (.scope c) :: k)) cs w) = .next (lone (b.atR a (.code c :: .inScope c :: k)) cs w) := step_lone_go (by simp [stepG, stepG.exec, Frame.atR])
  have h0 := StepsIn.one (fenced_calm (P := P) (fr := b.atR a (.code (.scope c) :: k)) (w := w) hb hroom rfl) s1
  obtain ⟨e, a₁, w₁, hq, harr⟩ := h b (.inScope c :: k) cs hr hb hroom
  have s2 : step P (lone (b.atR a₁ (.inScope c :: k)) cs w₁) = .next (lone (b.atR a₁ k) cs w₁) := step_lone_go (by simp [stepG, stepG.exec, Frame.atR])
  cases e with
  | normal => exact ⟨_, a₁, w₁, hq, (h0.trans harr).trans (.one (fenced_calm (P := P) (fr := b.atR a₁ (.inScope c :: k)) (w := w₁) hb hroom rfl) s2)⟩
  | exit id => exact ⟨_, a₁, w₁, hq, .of_steps h0 ⟨fun k' hk => harr.1 k' (by simpa [exitTo] using hk), fun h => by rw [hrn] at h; cases h⟩⟩
  | goto l => exact hq.elim
  | ret => exact ⟨_, a₁, w₁, hq, .of_steps h0 harr⟩
  | panic ch => exact ⟨_, a₁, w₁, hq, .of_steps h0 harr⟩
  | outgrown => exact ⟨_, a₁, w₁, hq, .of_steps h0 harr⟩
/-- A cut behind a piece of code, inside a fence. -/
def OnlyN (R : Act → World → Prop) : Exit → Act → World → Prop
  | .normal, a, w => R a w
  | _, _, _ => False
theorem wpIn_cut {F : Fence} {n : Nat} {P : Program} {c : Code} {Q : Exit → Act → World → Prop} {a : Act} {w : World} (R : Act → World → Prop) (h : c.wpIn F n P (OnlyN R) a w) (hr : ∀ a w, R a w → Q .normal a w) : c.wpIn F n P Q a w :=
  wpIn_mono h fun e a w h => by cases e <;> first | exact hr _ _ h | exact h.elim
theorem name_plan4 {P : Program} {ops : Array Oper} {Q : Exit → Act → World → Prop} {S : World → Prop} {p : Plan4} {a : Act} {w : World} (h : ∀ W, Hid (W = w) → wpPlan4 P ops Q S p a W) : wpPlan4 P ops Q S p a w := h w rfl
theorem bs_ne {W : World} {b o X T : Nat} {l : List UInt8} {A : Option Addr} {m c : Nat} (h : Bs W b o l) (hl : 0 < l.length) (hB : Blk W X T [.slice A m c]) : b ≠ X := by
  rintro rfl
  have h0 := h 0 hl
  rw [hB.cell] at h0
  cases o with
  | zero => simp at h0
  | succ o => simp at h0
theorem Sb.setBox {W : World} {X T : Nat} {l : List UInt8} {P A : Option Addr} {m c : Nat} (h : Sb W P l) (hB : Blk W X T [.slice A m c]) (u : Value) : Sb (W.setCell ⟨X, 0, none⟩ u) P l := fun hne => by
  obtain ⟨b, o, e, hb⟩ := h hne
  have hn := bs_ne hb (List.length_pos_iff.2 hne) hB
  exact ⟨b, o, e, hb.move (heap_setCell_other W ⟨X, 0, none⟩ b u (by simpa using hn))⟩
theorem sb_own {β : Type} {B : Nat} {A : Option Addr} {l : List UInt8} : OwnFrom B (fun (_ : β) W => Sb W A l) := fun _ X Y row h hg hr hne => by
  obtain ⟨b, o, e, hb⟩ := h hne
  exact ⟨b, o, e, bs_own (β := Unit) (B := B) () X Y row hb hg hr⟩
structure FcD where
  Ap : Option Addr
  mp : Nat
  cp : Nat
  Aq : Option Addr
  mq : Nat
  cq : Nat
  Ax : Option Addr
  cx : Nat
  Ay : Option Addr
  cy : Nat
structure FcM (w : World) (D : FcD) (x y : List UInt8) (p q : List (List UInt8)) (W : World) : Prop where
  bh : Blk W w.heap.size 106 [hV]
  bp : Blk W (w.heap.size + 1) 30 [.slice D.Ap D.mp D.cp]
  bq : Blk W (w.heap.size + 2) 30 [.slice D.Aq D.mq D.cq]
  bx : Blk W (w.heap.size + 3) 22 [.slice D.Ax x.length D.cx]
  bz : Blk W (w.heap.size + 4) 22 [.slice D.Ay y.length D.cy]
  sp : DSrc w D.Ap D.mp D.cp p
  sq : DSrc w D.Aq D.mq D.cq q
  sx : Sb W D.Ax x
  sy : Sb W D.Ay y
  lx : x.length ≤ D.cx ∧ D.cx ≤ 9223372036854775807
  ly : y.length ≤ D.cy ∧ D.cy ≤ 9223372036854775807
  bel : Below w.heap.size w W
  size : w.heap.size + 5 ≤ W.heap.size
theorem fcM_own {w : World} {D : FcD} {x y : List UInt8} {p q : List (List UInt8)} {B : Nat} (hB : w.heap.size ≤ B) : OwnFrom B (fun (_ : Unit) W => FcM w D x y p q W) := fun _ X Y row h hg hr =>
  ⟨blk_own (β := Unit) (B := B) () X Y row h.bh hg hr, blk_own (β := Unit) (B := B) () X Y row h.bp hg hr, blk_own (β := Unit) (B := B) () X Y row h.bq hg hr, blk_own (β := Unit) (B := B) () X Y row h.bx hg hr, blk_own (β := Unit) (B := B) () X Y row h.bz hg hr, h.sp, h.sq,
    sb_own (β := Unit) (B := B) () X Y row h.sx hg hr, sb_own (β := Unit) (B := B) () X Y row h.sy hg hr, h.lx, h.ly, below_own (β := Unit) (B := B) hB () X Y row h.bel hg hr, Nat.le_trans h.size hg.size⟩
theorem FcM.below {w : World} {D : FcD} {x y : List UInt8} {p q : List (List UInt8)} {W W' : World} (h : FcM w D x y p q W) (hb : Below W.heap.size W W') : FcM w D x y p q W' :=
  fcM_own (Nat.le_refl _) () W W' none h (only_of_below hb none) fun r e => by cases e
theorem fcM_put {w : World} {D : FcD} {x y : List UInt8} {p q : List (List UInt8)} {W : World} (h : FcM w D x y p q W) {d : Nat} {ds : List Deferred} (hd : W.heap[d]? = some (.deferred (some ds))) (hw : w.heap.size ≤ d) : FcM w D x y p q (W.putObj d (.deferred none)) :=
  fcM_own (Nat.le_refl _) () W _ (some d) h (grownBy_putObj' W d _) fun r e => by cases e; exact ⟨hw, _, hd, rfl⟩
/-- Both texts anew. -/
theorem FcM.texts {w : World} {D : FcD} {x y x2 y2 : List UInt8} {p q : List (List UInt8)} {W : World} (h : FcM w D x y p q W) {Ax Ay : Option Addr} {cx cy : Nat} (hx : Sb W Ax x2) (hy : Sb W Ay y2) (lx : x2.length ≤ cx ∧ cx ≤ 9223372036854775807) (ly : y2.length ≤ cy ∧ cy ≤ 9223372036854775807) :
    FcM w { D with Ax := Ax, cx := cx, Ay := Ay, cy := cy } x2 y2 p q ((W.setCell ⟨w.heap.size + 3, 0, none⟩ (.slice Ax x2.length cx)).setCell ⟨w.heap.size + 4, 0, none⟩ (.slice Ay y2.length cy)) := by
  have h4 : Blk (W.setCell ⟨w.heap.size + 3, 0, none⟩ (.slice Ax x2.length cx)) (w.heap.size + 4) 22 [.slice D.Ay y.length D.cy] := h.bz.apart' (by omega) _
  exact ⟨(h.bh.apart' (by omega) _).apart' (by omega) _, (h.bp.apart' (by omega) _).apart' (by omega) _, (h.bq.apart' (by omega) _).apart' (by omega) _, (h.bx.set 0 _).apart' (by omega) _, h4.set 0 _, h.sp, h.sq, (hx.setBox h.bx _).setBox h4 _, (hy.setBox h.bx _).setBox h4 _, lx, ly,
    (h.bel.setCell (by simp only; omega) _).setCell (by simp only; omega) _, by simp [World.setCell]; exact h.size⟩
/-- Both paths anew. -/
theorem FcM.paths {w : World} {D : FcD} {x y : List UInt8} {p q p2 q2 : List (List UInt8)} {W : World} (h : FcM w D x y p q W) {Ap Aq : Option Addr} {mp cp mq cq : Nat} (hp : DSrc w Ap mp cp p2) (hq : DSrc w Aq mq cq q2) :
    FcM w { D with Ap := Ap, mp := mp, cp := cp, Aq := Aq, mq := mq, cq := cq } x y p2 q2 ((W.setCell ⟨w.heap.size + 1, 0, none⟩ (.slice Ap mp cp)).setCell ⟨w.heap.size + 2, 0, none⟩ (.slice Aq mq cq)) := by
  have h4 : Blk (W.setCell ⟨w.heap.size + 1, 0, none⟩ (.slice Ap mp cp)) (w.heap.size + 2) 30 [.slice D.Aq D.mq D.cq] := h.bq.apart' (by omega) _
  exact ⟨(h.bh.apart' (by omega) _).apart' (by omega) _, (h.bp.set 0 _).apart' (by omega) _, h4.set 0 _, (h.bx.apart' (by omega) _).apart' (by omega) _, (h.bz.apart' (by omega) _).apart' (by omega) _, hp, hq, (h.sx.setBox h.bp _).setBox h4 _, (h.sy.setBox h.bp _).setBox h4 _, h.lx, h.ly,
    (h.bel.setCell (by simp only; omega) _).setCell (by simp only; omega) _, by simp [World.setCell]; exact h.size⟩
/-- What the loads of a round find. -/
structure FcS (s Y cb db bp op bq oq : Nat) (vp vq : Value) (j : Int) (dx dy hp hq : List UInt8) (V : World) : Prop where
  y0 : V.cell? ⟨Y, 0, none⟩ = some (.int .i64 j)
  y1 : V.cell? ⟨Y, 1, none⟩ = some (.bool false)
  rc : V.rangeAt cb 0 (bc dx)
  rd : V.rangeAt db 0 (bc dy)
  pp : V.cell? ⟨s + 1, 0, none⟩ = some vp
  pq : V.cell? ⟨s + 2, 0, none⟩ = some vq
  rp : V.rangeAt bp op (bc hp)
  rq : V.rangeAt bq oq (bc hq)
structure FcL (s Y cb db bp bq : Nat) (V : World) : Prop where
  l1 : Y < V.heap.size
  l2 : cb < V.heap.size
  l3 : db < V.heap.size
  l4 : s + 2 < V.heap.size
  l5 : bp < V.heap.size
  l6 : bq < V.heap.size
theorem FcS.below {s Y cb db bp op bq oq : Nat} {vp vq : Value} {j : Int} {dx dy hp hq : List UInt8} {V V' : World} (h : FcS s Y cb db bp op bq oq vp vq j dx dy hp hq V) (hl : FcL s Y cb db bp bq V) (hb : Below V.heap.size V V') : FcS s Y cb db bp op bq oq vp vq j dx dy hp hq V' :=
  ⟨(hb.cell (p := ⟨Y, 0, none⟩) hl.l1).trans h.y0, (hb.cell (p := ⟨Y, 1, none⟩) hl.l1).trans h.y1, range_below h.rc hb hl.l2, range_below h.rd hb hl.l3, (hb.cell (p := ⟨s + 1, 0, none⟩) (Nat.lt_of_succ_lt hl.l4)).trans h.pp, (hb.cell (p := ⟨s + 2, 0, none⟩) hl.l4).trans h.pq, range_below h.rp hb hl.l5, range_below h.rq hb hl.l6⟩
theorem cell_apart (V : World) {X b o : Nat} (v : Value) (h : b ≠ X) : (V.setCell ⟨X, 0, none⟩ v).cell? ⟨b, o, none⟩ = V.cell? ⟨b, o, none⟩ := World.cell?_of_block (a := ⟨b, o, none⟩) (heap_setCell_other V ⟨X, 0, none⟩ b v (by simpa using h))
theorem FcS.set {s Y cb db bp op bq oq : Nat} {vp vq : Value} {j : Int} {dx dy hp hq : List UInt8} {V : World} (h : FcS s Y cb db bp op bq oq vp vq j dx dy hp hq V) (v : Value) (h1 : Y ≠ s + 3) (h2 : cb ≠ s + 3) (h3 : db ≠ s + 3) (h5 : bp ≠ s + 3) (h6 : bq ≠ s + 3) :
    FcS s Y cb db bp op bq oq vp vq j dx dy hp hq (V.setCell ⟨s + 3, 0, none⟩ v) :=
  ⟨(cell_apart V v h1).trans h.y0, (cell_apart V v h1).trans h.y1, fun i u hu => (cell_apart V v h2).trans (h.rc i u hu), fun i u hu => (cell_apart V v h3).trans (h.rd i u hu), (cell_apart V v (by omega)).trans h.pp, (cell_apart V v (by omega)).trans h.pq, fun i u hu => (cell_apart V v h5).trans (h.rp i u hu), fun i u hu => (cell_apart V v h6).trans (h.rq i u hu)⟩
/-- The first digest of a list that is not empty, and what follows. -/
theorem DSrc.head {w : World} {A : Option Addr} {m c : Nat} {y : List UInt8} {ys : List (List UInt8)} (h : DSrc w A m c (y :: ys)) : ∃ b o, A = some ⟨b, o, none⟩ ∧ w.rangeAt b o (bc y) ∧ b < w.heap.size ∧ 0 < m ∧ y.length = 32 ∧ DSrc w (if c = 1 then some ⟨b, o, none⟩ else some ⟨b, o + 32, none⟩) (m - 1) (c - 1) ys := by
  obtain ⟨b, o, rfl, hB⟩ := h.ds.at h.d32 (by simp)
  have h1 := bs_range (bs_one h.d32 hB 0 (by simp))
  simp only [Nat.mul_zero, Nat.add_zero] at h1
  have hm := h.len
  rw [List.length_cons] at hm
  exact ⟨b, o, rfl, h1, hB.lt (by have := h.d32.flat; rw [this]; simp), by omega, h.d32 y (List.mem_cons_self ..), h.tail⟩
/-- Between two rounds. -/
def FcI (w : World) (n i : Nat) (R0 : List UInt8 × List UInt8) (pre : List (Nat × Bool)) (W : World) : Prop :=
  ∃ (m j : Nat) (x y : List UInt8) (p q : List (List UInt8)) (D : FcD), wayL n i = pre ++ wayL m j ∧ j < m ∧ m ≤ 65536 ∧ commonR sha tagN m j x y p q = R0 ∧ p.length = lenR m j ∧ q.length = lenR m j ∧ x.length ≤ 100000000 ∧ y.length ≤ 100000000 ∧ FcM w D x y p q W
theorem fcI_own {w : World} {n i : Nat} {R0 : List UInt8 × List UInt8} {B : Nat} (hB : w.heap.size ≤ B) : OwnFrom B (FcI w n i R0) := fun pre X Y row h hg hr => by
  obtain ⟨m, j, x, y, p, q, D, h1, h2, h3, h4, h5, h6, h7, h8, h9⟩ := h
  exact ⟨m, j, x, y, p, q, D, h1, h2, h3, h4, h5, h6, h7, h8, fcM_own hB () X Y row h9 hg hr⟩
/-- Where the loop is left early. -/
def FcX (w : World) (R0 : List UInt8 × List UInt8) (W : World) : Prop := ∃ (p q : List (List UInt8)) (D : FcD), FcM w D R0.1 R0.2 p q W
theorem results_two {P : Program} {fn : Func} {p q : Tmp} {ty ty2 : TypeId} {d d2 : TypeDesc} (h : fn.results = #[.cell p ty, .cell q ty2]) (tmps : Array Value) (w : World) (g g2 T T2 : Nat) (v v2 : Value)
    (hp : tmps.getD p undef = .pointer (some ⟨g, 0, none⟩)) (hq : tmps.getD q undef = .pointer (some ⟨g2, 0, none⟩)) (hg : Blk w g T [v]) (hg2 : Blk w g2 T2 [v2]) (hu : P.underlying ty = some d) (hd : (match d with | .struct _ | .array _ _ => true | _ => false) = false)
    (hu2 : P.underlying ty2 = some d2) (hd2 : (match d2 with | .struct _ | .array _ _ => true | _ => false) = false) :
    (results fn tmps).run P w = .ok (.tuple #[v, v2]) w := by
  have hp' : tmps[p]?.getD undef = .pointer (some ⟨g, 0, none⟩) := by simpa using hp
  have hq' : tmps[q]?.getD undef = .pointer (some ⟨g2, 0, none⟩) := by simpa using hq
  have hc : w.cell? ⟨g, 0, none⟩ = some v := (hg.cell 0).trans rfl
  have hc2 : w.cell? ⟨g2, 0, none⟩ = some v2 := (hg2.cell 0).trans rfl
  have hl : (loadVar ty ⟨g, 0, none⟩).run P w = .ok v w := by simp [loadVar, run_isAgg_plain hu hd w, go_sem, hc]
  have hl2 : (loadVar ty2 ⟨g2, 0, none⟩).run P w = .ok v2 w := by simp [loadVar, run_isAgg_plain hu2 hd2 w, go_sem, hc2]
  simp [results, h, hp', hq', asAddr, hl, hl2]
theorem way_next {n i m j : Nat} {pre rest : List (Nat × Bool)} {x : Nat × Bool} (h : wayL n i = pre ++ wayL m j) (h2 : wayL n i = pre ++ x :: rest) : 1 < m ∧ x = (j, aloneB m j) ∧ rest = wayL ((m + 1) / 2) (j / 2) := by
  have h3 := List.append_cancel_left (h.symm.trans h2)
  by_cases h1 : m ≤ 1
  · rw [wayL_one h1] at h3; cases h3
  · rw [wayL_more (by omega)] at h3
    injection h3 with h4 h5
    exact ⟨by omega, h4.symm, h5.symm⟩
theorem wpListIn_eql {F : Fence} {n : Nat} {ops : Array Oper} {Q : Exit → Act → World → Prop} {o : Oper} {rest : List Oper} {a : Act} {w : World} (hg : o.guard = none) (x y : Operand) (T : TypeId) (ho : o.op = .binOp .eql 26 x y T) (X Y : List UInt8) (hx : a.eval x = dv X) (hy : a.eval y = dv Y)
    (h1 : X.length = 32) (h2 : Y.length = 32) (v : Bool) (hv : v = (X == Y)) (h : wpListIn F n Tryd.prog ops Q rest (a.put o.dst (.bool v)) w) : wpListIn F n Tryd.prog ops Q (o :: rest) a w := by
  refine wpListIn_plain hg fun K hK => ?_
  unfold Oper.wpIn
  refine ⟨by simp [Oper.about, ho], ?_⟩
  rw [Oper.semAt_plain F _ _ (by rw [ho]; intro c hc'; cases hc')]
  unfold execOp
  simp only [ho, hx, hy, Sem.run_bind, run_eqGuard_agg w .eql 26 x y _ _ Tryd.eqGuardType26, Result.andThen_ok, eql_dv X Y h1 h2 w, Sem.run_pure]
  rw [← hv]
  exact hK _ _ h
end Go.Proofs.YthjfeodclphgaaaDoor

/- firstCommon. -/
namespace Go.Proofs.YthjfeodclphgaaaDoor
open Go.RowKit Go.Shelf
attribute [local go_sem] Oper.semAt_some
/-- Two texts that a call hands back. -/
def Two (R0 : List UInt8 × List UInt8) (w : World) (e : Ending) (w' : World) : Prop :=
  ∃ (A B : Option Addr) (ca cb : Nat), e = .returned (.tuple #[.slice A R0.1.length ca, .slice B R0.2.length cb]) ∧ Sb w' A R0.1 ∧ Sb w' B R0.2 ∧ R0.1.length ≤ ca ∧ ca ≤ 9223372036854775807 ∧ R0.2.length ≤ cb ∧ cb ≤ 9223372036854775807 ∧ Below w.heap.size w w'
theorem five_boxes (w : World) (v1 v2 v3 v4 v5 : Value) (T1 T2 T3 T4 T5 : Nat) (W : World) (hW : W = ((((w.alloc (.cells #[v1] T1)).alloc (.cells #[v2] T2)).alloc (.cells #[v3] T3)).alloc (.cells #[v4] T4)).alloc (.cells #[v5] T5)) :
    Blk W w.heap.size T1 [v1] ∧ Blk W (w.heap.size + 1) T2 [v2] ∧ Blk W (w.heap.size + 2) T3 [v3] ∧ Blk W (w.heap.size + 3) T4 [v4] ∧ Blk W (w.heap.size + 4) T5 [v5] ∧ Below w.heap.size w W ∧ W.heap.size = w.heap.size + 5 := by
  subst hW
  have b0 := Blk.new w T1 [v1]
  have b1 := Blk.new (w.alloc (.cells #[v1] T1)) T2 [v2]
  have b2 := Blk.new ((w.alloc (.cells #[v1] T1)).alloc (.cells #[v2] T2)) T3 [v3]
  have b3 := Blk.new (((w.alloc (.cells #[v1] T1)).alloc (.cells #[v2] T2)).alloc (.cells #[v3] T3)) T4 [v4]
  have b4 := Blk.new ((((w.alloc (.cells #[v1] T1)).alloc (.cells #[v2] T2)).alloc (.cells #[v3] T3)).alloc (.cells #[v4] T4)) T5 [v5]
  simp only [World.size_alloc] at b1 b2 b3 b4
  exact ⟨(((b0.alloc _).alloc _).alloc _).alloc _, ((b1.alloc _).alloc _).alloc _, (b2.alloc _).alloc _, b3.alloc _, b4, ((((below_new w _).alloc (by simp) _).alloc (by simp; omega) _).alloc (by simp; omega) _).alloc (by simp; omega) _, by simp⟩
set_option maxRecDepth 100000 in
set_option maxHeartbeats 6400000 in
theorem firstCommon_any (n i : Nat) (LA LB : Option Addr) (lca lcb : Nat) (la lb : List UInt8) (A A2 : Option Addr) (m c m2 c2 : Nat) (p q : List (List UInt8)) (w : World) (hT : Tab w) (hi : i < n) (hn : n ≤ 65536) (hla : Sb w LA la) (hna : LA = none → lca = 0) (hlla : la.length ≤ 10000000)
    (hlb : Sb w LB lb) (hnb : LB = none → lcb = 0) (hllb : lb.length ≤ 10000000) (hp : DSrc w A m c p) (hq : DSrc w A2 m2 c2 q) (hpl : p.length = lenR n i) (hql : q.length = lenR n i) (ta tb : List UInt8) (hta : ta = tagL ++ la) (htb : tb = tagL ++ lb) (R0 : List UInt8 × List UInt8) (hR : commonR sha tagN n i ta tb p q = R0) :
    Calls Tryd.prog 92 #[hV, .int .i64 (n : Nat), .int .i64 (i : Nat), .slice LA la.length lca, .slice LB lb.length lcb, .slice A m c, .slice A2 m2 c2] w (Two R0 w) := by
  have HT := hide hT
  have HLA := hide (And.intro hla hna)
  have HLB := hide (And.intro hlb hnb)
  have HPP := hide (And.intro hp hq)
  have HPL := hide (And.intro hpl hql)
  have HTA := hide (And.intro hta htb)
  have HRR := hide hR
  have HTL := hide (show ta.length ≤ 100000000 ∧ tb.length ≤ 100000000 by rw [hta, htb, List.length_append, List.length_append, sha_len]; omega)
  clear hT hla hna hlb hnb hp hq hpl hql hta htb hR
  have HB := hide (five_boxes w hV (.slice A m c) (.slice A2 m2 c2) (.slice none 0 0) (.slice none 0 0) 106 30 30 22 22 _ rfl)
  refine (callsIn_wide (n := 4)).1 ?_
  refine callsIn_of_wp_marks Tryd.func92 rfl trivial ?_ rfl
  simp only [Tryd.ntmps92, List.size_toArray, List.length_cons, List.length_nil, Nat.reduceAdd, Nat.reduceSub, Array.replicate_succ, Array.replicate_zero, List.push_toArray, List.append_toArray, List.nil_append, List.cons_append]
  gi_wp2_with fail
  refine wpIn_scope rfl ?_
  gi_wp2_with fail
  refine ⟨trivial, ?_⟩
  refine callsIn_wide.2 ?_
  refine name_world ?_
  intro W3 hW3
  have e := hW3.out
  rw [← e] at HB
  clear hW3 e
  have HL1 := hide (leafText_any LA la.length lca la W3 (HT.out.below HB.out.2.2.2.2.2.1) (HLA.out.1.below HB.out.2.2.2.2.2.1) rfl HLA.out.2 (by omega))
  rw [← HTA.out.1] at HL1
  with_reducible refine HL1.out.mono ?_
  rintro e w4 ⟨TA, tca, rfl, a1, a2, a3, a4, a5⟩
  have HX4 := hide (And.intro a1 (And.intro a2 a3))
  have H4 := hide a5
  have HL2 := hide (leafText_any LB lb.length lcb lb w4 (HT.out.below (below_one HB.out.2.2.2.2.2.1 a5)) (HLB.out.1.below (below_one HB.out.2.2.2.2.2.1 a5)) rfl HLB.out.2 (by omega))
  rw [← HTA.out.2] at HL2
  clear a1 a2 a3 a4 a5 HL1
  gi_wp2_with fail
  refine ⟨trivial, ?_⟩
  refine callsIn_wide.2 ?_
  with_reducible refine HL2.out.mono ?_
  rintro e w5 ⟨TB, tcb, rfl, a1, a2, a3, a4, a5⟩
  have H5 := hide (show Below W3.heap.size W3 w5 from below_one H4.out a5)
  have HX5 := hide (And.intro a1 (And.intro a2 a3))
  have HX4' := hide (HX4.out.1.below a5)
  clear a1 a2 a3 a4 a5 HL2
  have HM0 := hide (show FcM w ⟨A, m, c, A2, m2, c2, none, 0, none, 0⟩ [] [] p q w5 from
    ⟨HB.out.1.below H5.out HB.out.1.lt, HB.out.2.1.below H5.out HB.out.2.1.lt, HB.out.2.2.1.below H5.out HB.out.2.2.1.lt, HB.out.2.2.2.1.below H5.out HB.out.2.2.2.1.lt, HB.out.2.2.2.2.1.below H5.out HB.out.2.2.2.2.1.lt, HPP.out.1, HPP.out.2, fun h => absurd rfl h, fun h => absurd rfl h, ⟨Nat.zero_le _, Nat.zero_le _⟩, ⟨Nat.zero_le _, Nat.zero_le _⟩, below_one HB.out.2.2.2.2.2.1 H5.out, by have := HB.out.2.2.2.2.2.2; have := H5.out.size; omega⟩)
  have HM1 := hide (HM0.out.texts HX4'.out HX5.out.1 HX4.out.2 HX5.out.2)
  have fx := HM0.out.bx.free 0
  have cx0 : w5.cell? ⟨w.heap.size + 3, 0, none⟩ = some (.slice none 0 0) := (HM0.out.bx.cell 0).trans rfl
  have hz4 : Blk (w5.setCell ⟨w.heap.size + 3, 0, none⟩ (.slice TA ta.length tca)) (w.heap.size + 4) 22 [.slice none 0 0] := HM0.out.bz.apart' (by omega) _
  have fy := hz4.free 0
  have cy0 : (w5.setCell ⟨w.heap.size + 3, 0, none⟩ (.slice TA ta.length tca)).cell? ⟨w.heap.size + 4, 0, none⟩ = some (.slice none 0 0) := (hz4.cell 0).trans rfl
  clear hz4 HB HM0 H4 H5 HX4 HX4' HX5
  gi_wp2_with fail
  refine wpIn_label ?_
  gi_wp2_with fail
  refine ⟨trivial, ?_⟩
  refine callsIn_wide.2 ?_
  refine name_world ?_
  intro W8 hW8
  have e := hW8.out
  have HM8 := hide (show FcM w ⟨A, m, c, A2, m2, c2, TA, tca, TB, tcb⟩ ta tb p q W8 from by rw [e]; exact HM1.out)
  clear hW8 e HM1 fx cx0 fy cy0
  refine (steps_any _ _ _).mono ?_
  rintro e w' ⟨rfl, rfl⟩
  gi_wp2_with fail
  have HW := hide (show FcI w n i R0 [] ((W8.alloc (.cells #[.int .i64 (n : Nat)] 3)).alloc (.cells #[.int .i64 (i : Nat)] 3)) ∧ ((W8.alloc (.cells #[.int .i64 (n : Nat)] 3)).alloc (.cells #[.int .i64 (i : Nat)] 3)).heap.size = W8.heap.size + 2 ∧ ((W8.alloc (.cells #[.int .i64 (n : Nat)] 3)).alloc (.cells #[.int .i64 (i : Nat)] 3)).cell? ⟨W8.heap.size, 0, none⟩ = some (.int .i64 (n : Nat)) ∧ ((W8.alloc (.cells #[.int .i64 (n : Nat)] 3)).alloc (.cells #[.int .i64 (i : Nat)] 3)).cell? ⟨W8.heap.size + 1, 0, none⟩ = some (.int .i64 (i : Nat)) from by
    have b0 := Blk.new W8 3 [.int .i64 (n : Nat)]
    have b1 := Blk.new (W8.alloc (.cells #[.int .i64 (n : Nat)] 3)) 3 [.int .i64 (i : Nat)]
    simp only [World.size_alloc] at b1
    exact ⟨⟨n, i, ta, tb, p, q, _, rfl, hi, hn, HRR.out, HPL.out.1, HPL.out.2, HTL.out.1, HTL.out.2, HM8.out.below ((below_new W8 _).alloc (by simp) _)⟩, by simp, ((b0.alloc _).cell 0).trans rfl, (b1.cell 0).trans rfl⟩)
  have hzX : w.heap.size + 5 ≤ W8.heap.size := HM8.out.size
  change Code.wpIn _ _ _ _ _ _ ((W8.alloc (.cells #[.int .i64 (n : Nat)] 3)).alloc (.cells #[.int .i64 (i : Nat)] 3))
  clear HM8 HTL HRR HTA HPL
  revert HW
  generalize (W8.alloc (.cells #[.int .i64 (n : Nat)] 3)).alloc (.cells #[.int .i64 (i : Nat)] 3) = W0
  intro HW
  generalize W8.heap.size = X at *
  refine wp_rangeS rfl (by omega) (gf := 84) (lb := #[.pointer (some ⟨X, 0, none⟩), .pointer (some ⟨X + 1, 0, none⟩)]) rfl trivial (enters_of Tryd.func84 (by kernel_rfl) rfl)
    (steps_gives (4 - 1) (by omega) X (X + 1) n i hn hi W0 (by rw [HW.out.2.1]; omega) HW.out.2.2.1 HW.out.2.2.2) (Below.refl _ _) (fun _ => rfl)
    (FcI w n i R0) (fun c _ W => c = .exit 0 ∧ FcX w R0 W) (fcI_own (by rw [HW.out.2.1]; omega)) (fun _ _ _ _ _ hs hg hr => by
      obtain ⟨hc, p, q, D, h⟩ := hs
      exact ⟨hc, p, q, D, fcM_own (B := W0.heap.size) (by rw [HW.out.2.1]; omega) () _ _ _ h hg hr⟩) HW.out.1
    (fun pre x a W => FcI w n i R0 pre W ∧ AxS (w.heap.size + 5) (fun Y => { tmps := #[hV, .int .i64 (n : Nat), .int .i64 (i : Nat), .slice LA la.length lca, .slice LB lb.length lcb, .slice A m c, .slice A2 m2 c2, .pointer (some ⟨w.heap.size, 0, none⟩), undef, undef, undef, undef, .pointer (some ⟨w.heap.size + 1, 0, none⟩), .pointer (some ⟨w.heap.size + 1 + 1, 0, none⟩), .pointer (some ⟨w.heap.size + 1 + 1 + 1, 0, none⟩), .pointer (some ⟨w.heap.size + 1 + 1 + 1 + 1, 0, none⟩), .pointer (some ⟨Y, 0, none⟩), undef, undef, .slice LA la.length lca, .slice TA ta.length tca, .slice LB lb.length lcb, .slice TB tb.length tcb, .int .i64 (n : Nat), .int .i64 (i : Nat), .func (.func 84) #[] #[.pointer (some ⟨X, 0, none⟩), .pointer (some ⟨X + 1, 0, none⟩)], .agg #[.int .i64 (x.1 : Nat), .bool x.2], undef, undef, undef, undef, undef, undef, undef, undef, undef, undef, undef, undef, undef, undef, undef, undef, undef, undef, undef, undef, undef, undef, undef, undef, undef, undef, undef, undef, undef, undef, undef], defers := [] }) x a W)
    (fun pre x a' s A B row hs hg hr => ⟨fcI_own (by rw [HW.out.2.1]; omega) pre A B row hs.1 hg hr, axS_own x a' s A B row hs.2 hg hr⟩) ?assign ?body ?done ?stop
  case assign =>
    intro lr pre x W K hI hK
    simp only [encS]
    have HI := hide hI
    have HKK := hide hK
    clear hI hK
    gi_wp2
    refine HKK.out _ _ ((KeepsOthers.alloc W _).from _) ⟨fcI_own (Nat.le_refl _) pre W _ none HI.out (only_of_below (below_new W _) none) (fun r e => by cases e), ?_⟩
    obtain ⟨m, j, x1, y, p, q, D, h1, h2, h3, h4, h5, h6, h7, h8, h9⟩ := HI.out
    exact ⟨W.heap.size, rfl, Blk.new W 82 [.int .i64 (x.1 : Nat), .bool x.2], h9.size⟩
  case body =>
    rintro lr pre z a' W ⟨rest, hwy⟩ ⟨hI, Y, rfl, hX, hX2⟩
    obtain ⟨m1, j, x, y, p1, q1, D, h1, h2, h3, h4, h5, h6, h7, h8, h9⟩ := hI
    obtain ⟨q', al⟩ := z
    obtain ⟨g1, g2, g3⟩ := way_next h1 hwy
    injection g2 with g4 g5
    subst g4
    simp only at *
    have HAL := hide g5.symm
    have HM := hide h9
    have HHX := hide hX
    have HTW := hide (HT.out.below (below_one h9.bel ((Below.refl _ W).drew)))
    have HE := hide (And.intro h4 (And.intro h5 h6))
    have HWY := hide (show wayL n i = (pre ++ [(q', al)]) ++ wayL ((m1 + 1) / 2) (q' / 2) by rw [hwy, g3, List.append_assoc]; rfl)
    clear h1 h4 h5 h6 h9 hX hwy g3 g5
    have HC := hide (fun W' (h : Below W.drew.heap.size W.drew W') => show W'.cell? ⟨w.heap.size, 0, none⟩ = some hV ∧ W'.cell? ⟨w.heap.size + 3, 0, none⟩ = some (.slice D.Ax x.length D.cx) ∧ W'.cell? ⟨w.heap.size + 4, 0, none⟩ = some (.slice D.Ay y.length D.cy) from
      ⟨(h.cell (p := ⟨w.heap.size, 0, none⟩) HM.out.bh.lt).trans ((HM.out.bh.cell 0).trans rfl), (h.cell (p := ⟨w.heap.size + 3, 0, none⟩) HM.out.bx.lt).trans ((HM.out.bx.cell 0).trans rfl), (h.cell (p := ⟨w.heap.size + 4, 0, none⟩) HM.out.bz.lt).trans ((HM.out.bz.cell 0).trans rfl)⟩)
    have HSX := hide (fun (V : World) (h : Below W.drew.heap.size W.drew V) => sum_is D.Ax x.length D.cx x V (HTW.out.below h) ((HM.out.sx.below ((Below.refl _ W).drew)).below h) rfl HM.out.lx.1 HM.out.lx.2 h7)
    have HSY := hide (fun (V : World) (h : Below W.drew.heap.size W.drew V) => sum_is D.Ay y.length D.cy y V (HTW.out.below h) ((HM.out.sy.below ((Below.refl _ W).drew)).below h) rfl HM.out.ly.1 HM.out.ly.2 h8)
    have HZ := hide (fun (r : List UInt8) (hr : r.length = 32) => show (Tryd.prog.info? 26).map (·.size) = some ((bc r).toArray).size by rw [dv_size _ hr]; exact Tryd.size26)
    have H32 := hide (And.intro (sha_len x) (sha_len y))
    obtain ⟨dx, hdx⟩ : ∃ d, sha x = d := ⟨_, rfl⟩
    obtain ⟨dy, hdy⟩ : ∃ d, sha y = d := ⟨_, rfl⟩
    rw [hdx] at HSX H32
    rw [hdy] at HSY H32
    have HDX := hide (And.intro hdx hdy)
    clear hdx hdy
    gi_wp2
    refine wpIn_cut (fun a' V => ∃ cb db, a' = { tmps := #[hV, .int .i64 (n : Nat), .int .i64 (i : Nat), .slice LA la.length lca, .slice LB lb.length lcb, .slice A m c, .slice A2 m2 c2, .pointer (some ⟨w.heap.size, 0, none⟩), undef, undef, undef, undef, .pointer (some ⟨w.heap.size + 1, 0, none⟩), .pointer (some ⟨w.heap.size + 1 + 1, 0, none⟩), .pointer (some ⟨w.heap.size + 1 + 1 + 1, 0, none⟩), .pointer (some ⟨w.heap.size + 1 + 1 + 1 + 1, 0, none⟩), .pointer (some ⟨Y, 0, none⟩), .pointer (some ⟨cb, 0, none⟩), .pointer (some ⟨db, 0, none⟩), .slice LA la.length lca, .slice TA ta.length tca, .slice LB lb.length lcb, .slice TB tb.length tcb, .int .i64 (n : Nat), .int .i64 (i : Nat), .func (.func 84) #[] #[.pointer (some ⟨X, 0, none⟩), .pointer (some ⟨X + 1, 0, none⟩)], .agg #[.int .i64 (q' : Nat), .bool al], hV, .slice D.Ax x.length D.cx, dv dx, hV, .slice D.Ay y.length D.cy, dv dy, undef, undef, undef, undef, undef, undef, undef, undef, undef, undef, undef, undef, undef, undef, undef, undef, undef, undef, undef, undef, undef, undef, undef, undef, undef], defers := [] } ∧ Hid (Blk V cb 26 (bc dx) ∧ Blk V db 26 (bc dy) ∧ Below W.heap.size W V ∧ W.heap.size ≤ cb ∧ W.heap.size ≤ db)) ?_ ?_
    · clear HE HWY HDX
      refine wpIn_region_plan4 (fun W' => Below W.drew.heap.size W.drew W') (.take 0 (.take 1 (.take 3 (.take 4 (.three 2 (.three 5 (.both 6 (.run 7 (.run 8 (.last 9 .done))) 7 (.run 6 (.run 8 (.last 9 .done)))) 6 (.both 5 (.run 7 (.run 8 (.last 9 .done))) 7 (.run 5 (.run 8 (.last 9 .done)))) 7 (.both 5 (.run 6 (.run 8 (.last 9 .done))) 6 (.run 5 (.run 8 (.last 9 .done))))) 6 (.both 2 (.both 5 (.run 7 (.run 8 (.last 9 .done))) 7 (.run 5 (.run 8 (.last 9 .done)))) 7 (.run 2 (.run 5 (.run 8 (.last 9 .done))))) 7 (.both 2 (.both 5 (.run 6 (.run 8 (.last 9 .done))) 6 (.run 5 (.run 8 (.last 9 .done)))) 6 (.run 2 (.run 5 (.run 8 (.last 9 .done)))))))))) (by kernel_rfl) (by kernel_rfl) (Below.refl _ _) ?_
      (refine plan4_take (o := ?_) (v := ?_) (by simp only [List.getElem?_toArray, List.getElem?_cons_zero]; rfl) (yields_run (by rfl) ?_) ?_; rotate_left; (focus (intro w' hw'; obtain ⟨s0, s1, s2⟩ := HC.out w' hw'; go_simp <;> with_reducible rfl)); (simp only [Act.put, List.setIfInBounds_toArray, List.set_cons_zero, List.set_cons_succ]))
      (refine plan4_take (o := ?_) (v := ?_) (by simp only [List.getElem?_toArray, List.getElem?_cons_succ, List.getElem?_cons_zero]; rfl) (yields_run (by rfl) ?_) ?_; rotate_left; (focus (intro w' hw'; obtain ⟨s0, s1, s2⟩ := HC.out w' hw'; go_simp <;> with_reducible rfl)); (simp only [Act.put, List.setIfInBounds_toArray, List.set_cons_zero, List.set_cons_succ]))
      (refine plan4_take (o := ?_) (v := ?_) (by simp only [List.getElem?_toArray, List.getElem?_cons_succ, List.getElem?_cons_zero]; rfl) (yields_run (by rfl) ?_) ?_; rotate_left; (focus (intro w' hw'; obtain ⟨s0, s1, s2⟩ := HC.out w' hw'; go_simp <;> with_reducible rfl)); (simp only [Act.put, List.setIfInBounds_toArray, List.set_cons_zero, List.set_cons_succ]))
      (refine plan4_take (o := ?_) (v := ?_) (by simp only [List.getElem?_toArray, List.getElem?_cons_succ, List.getElem?_cons_zero]; rfl) (yields_run (by rfl) ?_) ?_; rotate_left; (focus (intro w' hw'; obtain ⟨s0, s1, s2⟩ := HC.out w' hw'; go_simp <;> with_reducible rfl)); (simp only [Act.put, List.setIfInBounds_toArray, List.set_cons_zero, List.set_cons_succ]))
      refine plan4_three (o1 := ?_) (o2 := ?_) (o3 := ?_) (by simp only [List.getElem?_toArray, List.getElem?_cons_succ, List.getElem?_cons_zero]; rfl) (by simp only [List.getElem?_toArray, List.getElem?_cons_succ, List.getElem?_cons_zero]; rfl) (by simp only [List.getElem?_toArray, List.getElem?_cons_succ, List.getElem?_cons_zero]; rfl) ?_ ?_ ?_
      · intro R HR
        go_wp2_with fail
        with_reducible refine (HSX.out _ (Below.refl W.drew.heap.size W.drew)).mono ?_
        rintro e v1 ⟨rfl, h5⟩
        have F1 := hide (below_one (Below.refl W.drew.heap.size W.drew) h5)
        clear h5
        go_wp2_with fail
        refine HR.out _ _ F1.out ?_
        clear HR
        refine plan4_three (o1 := ?_) (o2 := ?_) (o3 := ?_) (by simp only [List.getElem?_toArray, List.getElem?_cons_succ, List.getElem?_cons_zero]; rfl) (by simp only [List.getElem?_toArray, List.getElem?_cons_succ, List.getElem?_cons_zero]; rfl) (by simp only [List.getElem?_toArray, List.getElem?_cons_succ, List.getElem?_cons_zero]; rfl) ?_ ?_ ?_
        · intro R HR
          go_wp2_with fail
          with_reducible refine (HSY.out _ F1.out).mono ?_
          rintro e v2 ⟨rfl, h5⟩
          have F2 := hide (below_one F1.out h5)
          clear h5
          go_wp2_with fail
          refine HR.out _ _ F2.out ?_
          clear HR
          refine plan4_both (o1 := ?_) (o2 := ?_) (by simp only [List.getElem?_toArray, List.getElem?_cons_succ, List.getElem?_cons_zero]; rfl) (by simp only [List.getElem?_toArray, List.getElem?_cons_succ, List.getElem?_cons_zero]; rfl) ?_ ?_
          · intro R HR
            go_wp2_with fail
            have z3 := F2.out.size
            have F3 := hide (F2.out.alloc F2.out.size (.cells (List.replicate 32 (.int .u8 0)).toArray 26))
            have G3n := hide (Blk.new v2 26 (List.replicate 32 (.int .u8 0)))
            refine HR.out _ _ F3.out ?_
            clear HR
            refine name_plan4 ?_
            intro v3 hk
            have ek : v3 = (v2.alloc (.cells (List.replicate 32 (.int .u8 0)).toArray 26)) := hk.out
            rw [← ek] at F3 G3n
            clear hk ek
            refine plan4_run (o := ?_) (by simp only [List.getElem?_toArray, List.getElem?_cons_succ, List.getElem?_cons_zero]; rfl) ?_
            intro R HR
            have hcd := G3n.out.lt
            go_wp2_with fail
            have z4 := F3.out.size
            have F4 := hide (F3.out.alloc F3.out.size (.cells (List.replicate 32 (.int .u8 0)).toArray 26))
            have G4n := hide (Blk.new v3 26 (List.replicate 32 (.int .u8 0)))
            have G4c := hide (G3n.out.alloc (.cells (List.replicate 32 (.int .u8 0)).toArray 26))
            refine HR.out _ _ F4.out ?_
            clear HR
            refine name_plan4 ?_
            intro v4 hk
            have ek : v4 = (v3.alloc (.cells (List.replicate 32 (.int .u8 0)).toArray 26)) := hk.out
            rw [← ek] at F4 G4n G4c
            clear hk ek
            refine plan4_run (o := ?_) (by simp only [List.getElem?_toArray, List.getElem?_cons_succ, List.getElem?_cons_zero]; rfl) ?_
            intro R HR
            refine wpList_store_row rfl 26 (.tmp 17) (.tmp 29) rfl v2.heap.size (bc dx).toArray rfl rfl 26 _ G4c.out (HZ.out dx H32.out.1) (by rw [dv_size _ H32.out.1]; rfl) (all_oneCell_toArray (bc_one dx)) ?_
            have F5 := hide (below_setRow F4.out (show W.drew.heap.size ≤ v2.heap.size by omega) (bc dx).toArray)
            have G5c := hide ((G4c.out).row (bc dx))
            have G5d := hide (show Blk (v4.setRow v2.heap.size (bc dx).toArray) v3.heap.size 26 (List.replicate 32 (.int .u8 0)) from (setRow_other _ _ _ _ (by omega)).trans G4n.out)
            refine HR.out _ _ F5.out ?_
            clear HR
            refine plan4_last (o := ?_) (by simp only [List.getElem?_toArray, List.getElem?_cons_succ, List.getElem?_cons_zero]; rfl) ?_
            intro R HR
            refine wpList_store_row rfl 26 (.tmp 18) (.tmp 32) rfl v3.heap.size (bc dy).toArray rfl rfl 26 _ G5d.out (HZ.out dy H32.out.2) (by rw [dv_size _ H32.out.2]; rfl) (all_oneCell_toArray (bc_one dy)) ?_
            have F6 := hide (below_setRow F5.out (show W.drew.heap.size ≤ v3.heap.size by omega) (bc dy).toArray)
            have G6d := hide ((G5d.out).row (bc dy))
            have G6c := hide (show Blk ((v4.setRow v2.heap.size (bc dx).toArray).setRow v3.heap.size (bc dy).toArray) v2.heap.size 26 (bc dx) from (setRow_other _ _ _ _ (by omega)).trans G5c.out)
            refine HR.out _ _ ?_
            clear HR
            refine plan4_doneC ?_
            exact ⟨v2.heap.size, v3.heap.size, rfl, hide ⟨G6c.out, G6d.out, ((Below.refl _ W).drew).trans F6.out, z3, z4⟩⟩
          · intro R HR
            go_wp2_with fail
            have z3 := F2.out.size
            have F3 := hide (F2.out.alloc F2.out.size (.cells (List.replicate 32 (.int .u8 0)).toArray 26))
            have G3n := hide (Blk.new v2 26 (List.replicate 32 (.int .u8 0)))
            refine HR.out _ _ F3.out ?_
            clear HR
            refine name_plan4 ?_
            intro v3 hk
            have ek : v3 = (v2.alloc (.cells (List.replicate 32 (.int .u8 0)).toArray 26)) := hk.out
            rw [← ek] at F3 G3n
            clear hk ek
            refine plan4_run (o := ?_) (by simp only [List.getElem?_toArray, List.getElem?_cons_succ, List.getElem?_cons_zero]; rfl) ?_
            intro R HR
            have hcd := G3n.out.lt
            go_wp2_with fail
            have z4 := F3.out.size
            have F4 := hide (F3.out.alloc F3.out.size (.cells (List.replicate 32 (.int .u8 0)).toArray 26))
            have G4n := hide (Blk.new v3 26 (List.replicate 32 (.int .u8 0)))
            have G4d := hide (G3n.out.alloc (.cells (List.replicate 32 (.int .u8 0)).toArray 26))
            refine HR.out _ _ F4.out ?_
            clear HR
            refine name_plan4 ?_
            intro v4 hk
            have ek : v4 = (v3.alloc (.cells (List.replicate 32 (.int .u8 0)).toArray 26)) := hk.out
            rw [← ek] at F4 G4n G4d
            clear hk ek
            refine plan4_run (o := ?_) (by simp only [List.getElem?_toArray, List.getElem?_cons_succ, List.getElem?_cons_zero]; rfl) ?_
            intro R HR
            refine wpList_store_row rfl 26 (.tmp 17) (.tmp 29) rfl v3.heap.size (bc dx).toArray rfl rfl 26 _ G4n.out (HZ.out dx H32.out.1) (by rw [dv_size _ H32.out.1]; rfl) (all_oneCell_toArray (bc_one dx)) ?_
            have F5 := hide (below_setRow F4.out (show W.drew.heap.size ≤ v3.heap.size by omega) (bc dx).toArray)
            have G5c := hide ((G4n.out).row (bc dx))
            have G5d := hide (show Blk (v4.setRow v3.heap.size (bc dx).toArray) v2.heap.size 26 (List.replicate 32 (.int .u8 0)) from (setRow_other _ _ _ _ (by omega)).trans G4d.out)
            refine HR.out _ _ F5.out ?_
            clear HR
            refine plan4_last (o := ?_) (by simp only [List.getElem?_toArray, List.getElem?_cons_succ, List.getElem?_cons_zero]; rfl) ?_
            intro R HR
            refine wpList_store_row rfl 26 (.tmp 18) (.tmp 32) rfl v2.heap.size (bc dy).toArray rfl rfl 26 _ G5d.out (HZ.out dy H32.out.2) (by rw [dv_size _ H32.out.2]; rfl) (all_oneCell_toArray (bc_one dy)) ?_
            have F6 := hide (below_setRow F5.out (show W.drew.heap.size ≤ v2.heap.size by omega) (bc dy).toArray)
            have G6d := hide ((G5d.out).row (bc dy))
            have G6c := hide (show Blk ((v4.setRow v3.heap.size (bc dx).toArray).setRow v2.heap.size (bc dy).toArray) v3.heap.size 26 (bc dx) from (setRow_other _ _ _ _ (by omega)).trans G5c.out)
            refine HR.out _ _ ?_
            clear HR
            refine plan4_doneC ?_
            exact ⟨v3.heap.size, v2.heap.size, rfl, hide ⟨G6c.out, G6d.out, ((Below.refl _ W).drew).trans F6.out, z4, z3⟩⟩
        · intro R HR
          go_wp2_with fail
          have z2 := F1.out.size
          have F2 := hide (F1.out.alloc F1.out.size (.cells (List.replicate 32 (.int .u8 0)).toArray 26))
          have G2n := hide (Blk.new v1 26 (List.replicate 32 (.int .u8 0)))
          refine HR.out _ _ F2.out ?_
          clear HR
          refine name_plan4 ?_
          intro v2 hk
          have ek : v2 = (v1.alloc (.cells (List.replicate 32 (.int .u8 0)).toArray 26)) := hk.out
          rw [← ek] at F2 G2n
          clear hk ek
          refine plan4_both (o1 := ?_) (o2 := ?_) (by simp only [List.getElem?_toArray, List.getElem?_cons_succ, List.getElem?_cons_zero]; rfl) (by simp only [List.getElem?_toArray, List.getElem?_cons_succ, List.getElem?_cons_zero]; rfl) ?_ ?_
          · intro R HR
            go_wp2_with fail
            with_reducible refine (HSY.out _ F2.out).mono ?_
            rintro e v3 ⟨rfl, h5⟩
            have F3 := hide (below_one F2.out h5)
            have G3c := hide (G2n.out.below h5 G2n.out.lt)
            clear h5
            go_wp2_with fail
            refine HR.out _ _ F3.out ?_
            clear HR
            refine plan4_run (o := ?_) (by simp only [List.getElem?_toArray, List.getElem?_cons_succ, List.getElem?_cons_zero]; rfl) ?_
            intro R HR
            have hcd := G3c.out.lt
            go_wp2_with fail
            have z4 := F3.out.size
            have F4 := hide (F3.out.alloc F3.out.size (.cells (List.replicate 32 (.int .u8 0)).toArray 26))
            have G4n := hide (Blk.new v3 26 (List.replicate 32 (.int .u8 0)))
            have G4c := hide (G3c.out.alloc (.cells (List.replicate 32 (.int .u8 0)).toArray 26))
            refine HR.out _ _ F4.out ?_
            clear HR
            refine name_plan4 ?_
            intro v4 hk
            have ek : v4 = (v3.alloc (.cells (List.replicate 32 (.int .u8 0)).toArray 26)) := hk.out
            rw [← ek] at F4 G4n G4c
            clear hk ek
            refine plan4_run (o := ?_) (by simp only [List.getElem?_toArray, List.getElem?_cons_succ, List.getElem?_cons_zero]; rfl) ?_
            intro R HR
            refine wpList_store_row rfl 26 (.tmp 17) (.tmp 29) rfl v1.heap.size (bc dx).toArray rfl rfl 26 _ G4c.out (HZ.out dx H32.out.1) (by rw [dv_size _ H32.out.1]; rfl) (all_oneCell_toArray (bc_one dx)) ?_
            have F5 := hide (below_setRow F4.out (show W.drew.heap.size ≤ v1.heap.size by omega) (bc dx).toArray)
            have G5c := hide ((G4c.out).row (bc dx))
            have G5d := hide (show Blk (v4.setRow v1.heap.size (bc dx).toArray) v3.heap.size 26 (List.replicate 32 (.int .u8 0)) from (setRow_other _ _ _ _ (by omega)).trans G4n.out)
            refine HR.out _ _ F5.out ?_
            clear HR
            refine plan4_last (o := ?_) (by simp only [List.getElem?_toArray, List.getElem?_cons_succ, List.getElem?_cons_zero]; rfl) ?_
            intro R HR
            refine wpList_store_row rfl 26 (.tmp 18) (.tmp 32) rfl v3.heap.size (bc dy).toArray rfl rfl 26 _ G5d.out (HZ.out dy H32.out.2) (by rw [dv_size _ H32.out.2]; rfl) (all_oneCell_toArray (bc_one dy)) ?_
            have F6 := hide (below_setRow F5.out (show W.drew.heap.size ≤ v3.heap.size by omega) (bc dy).toArray)
            have G6d := hide ((G5d.out).row (bc dy))
            have G6c := hide (show Blk ((v4.setRow v1.heap.size (bc dx).toArray).setRow v3.heap.size (bc dy).toArray) v1.heap.size 26 (bc dx) from (setRow_other _ _ _ _ (by omega)).trans G5c.out)
            refine HR.out _ _ ?_
            clear HR
            refine plan4_doneC ?_
            exact ⟨v1.heap.size, v3.heap.size, rfl, hide ⟨G6c.out, G6d.out, ((Below.refl _ W).drew).trans F6.out, z2, z4⟩⟩
          · intro R HR
            have hcd := G2n.out.lt
            go_wp2_with fail
            have z3 := F2.out.size
            have F3 := hide (F2.out.alloc F2.out.size (.cells (List.replicate 32 (.int .u8 0)).toArray 26))
            have G3n := hide (Blk.new v2 26 (List.replicate 32 (.int .u8 0)))
            have G3c := hide (G2n.out.alloc (.cells (List.replicate 32 (.int .u8 0)).toArray 26))
            refine HR.out _ _ F3.out ?_
            clear HR
            refine name_plan4 ?_
            intro v3 hk
            have ek : v3 = (v2.alloc (.cells (List.replicate 32 (.int .u8 0)).toArray 26)) := hk.out
            rw [← ek] at F3 G3n G3c
            clear hk ek
            refine plan4_run (o := ?_) (by simp only [List.getElem?_toArray, List.getElem?_cons_succ, List.getElem?_cons_zero]; rfl) ?_
            intro R HR
            go_wp2_with fail
            with_reducible refine (HSY.out _ F3.out).mono ?_
            rintro e v4 ⟨rfl, h5⟩
            have F4 := hide (below_one F3.out h5)
            have G4c := hide (G3c.out.below h5 G3c.out.lt)
            have G4d := hide (G3n.out.below h5 G3n.out.lt)
            clear h5
            go_wp2_with fail
            refine HR.out _ _ F4.out ?_
            clear HR
            refine plan4_run (o := ?_) (by simp only [List.getElem?_toArray, List.getElem?_cons_succ, List.getElem?_cons_zero]; rfl) ?_
            intro R HR
            refine wpList_store_row rfl 26 (.tmp 17) (.tmp 29) rfl v1.heap.size (bc dx).toArray rfl rfl 26 _ G4c.out (HZ.out dx H32.out.1) (by rw [dv_size _ H32.out.1]; rfl) (all_oneCell_toArray (bc_one dx)) ?_
            have F5 := hide (below_setRow F4.out (show W.drew.heap.size ≤ v1.heap.size by omega) (bc dx).toArray)
            have G5c := hide ((G4c.out).row (bc dx))
            have G5d := hide (show Blk (v4.setRow v1.heap.size (bc dx).toArray) v2.heap.size 26 (List.replicate 32 (.int .u8 0)) from (setRow_other _ _ _ _ (by omega)).trans G4d.out)
            refine HR.out _ _ F5.out ?_
            clear HR
            refine plan4_last (o := ?_) (by simp only [List.getElem?_toArray, List.getElem?_cons_succ, List.getElem?_cons_zero]; rfl) ?_
            intro R HR
            refine wpList_store_row rfl 26 (.tmp 18) (.tmp 32) rfl v2.heap.size (bc dy).toArray rfl rfl 26 _ G5d.out (HZ.out dy H32.out.2) (by rw [dv_size _ H32.out.2]; rfl) (all_oneCell_toArray (bc_one dy)) ?_
            have F6 := hide (below_setRow F5.out (show W.drew.heap.size ≤ v2.heap.size by omega) (bc dy).toArray)
            have G6d := hide ((G5d.out).row (bc dy))
            have G6c := hide (show Blk ((v4.setRow v1.heap.size (bc dx).toArray).setRow v2.heap.size (bc dy).toArray) v1.heap.size 26 (bc dx) from (setRow_other _ _ _ _ (by omega)).trans G5c.out)
            refine HR.out _ _ ?_
            clear HR
            refine plan4_doneC ?_
            exact ⟨v1.heap.size, v2.heap.size, rfl, hide ⟨G6c.out, G6d.out, ((Below.refl _ W).drew).trans F6.out, z2, z3⟩⟩
        · intro R HR
          go_wp2_with fail
          have z2 := F1.out.size
          have F2 := hide (F1.out.alloc F1.out.size (.cells (List.replicate 32 (.int .u8 0)).toArray 26))
          have G2n := hide (Blk.new v1 26 (List.replicate 32 (.int .u8 0)))
          refine HR.out _ _ F2.out ?_
          clear HR
          refine name_plan4 ?_
          intro v2 hk
          have ek : v2 = (v1.alloc (.cells (List.replicate 32 (.int .u8 0)).toArray 26)) := hk.out
          rw [← ek] at F2 G2n
          clear hk ek
          refine plan4_both (o1 := ?_) (o2 := ?_) (by simp only [List.getElem?_toArray, List.getElem?_cons_succ, List.getElem?_cons_zero]; rfl) (by simp only [List.getElem?_toArray, List.getElem?_cons_succ, List.getElem?_cons_zero]; rfl) ?_ ?_
          · intro R HR
            go_wp2_with fail
            with_reducible refine (HSY.out _ F2.out).mono ?_
            rintro e v3 ⟨rfl, h5⟩
            have F3 := hide (below_one F2.out h5)
            have G3d := hide (G2n.out.below h5 G2n.out.lt)
            clear h5
            go_wp2_with fail
            refine HR.out _ _ F3.out ?_
            clear HR
            refine plan4_run (o := ?_) (by simp only [List.getElem?_toArray, List.getElem?_cons_succ, List.getElem?_cons_zero]; rfl) ?_
            intro R HR
            have hcd := G3d.out.lt
            go_wp2_with fail
            have z4 := F3.out.size
            have F4 := hide (F3.out.alloc F3.out.size (.cells (List.replicate 32 (.int .u8 0)).toArray 26))
            have G4n := hide (Blk.new v3 26 (List.replicate 32 (.int .u8 0)))
            have G4d := hide (G3d.out.alloc (.cells (List.replicate 32 (.int .u8 0)).toArray 26))
            refine HR.out _ _ F4.out ?_
            clear HR
            refine name_plan4 ?_
            intro v4 hk
            have ek : v4 = (v3.alloc (.cells (List.replicate 32 (.int .u8 0)).toArray 26)) := hk.out
            rw [← ek] at F4 G4n G4d
            clear hk ek
            refine plan4_run (o := ?_) (by simp only [List.getElem?_toArray, List.getElem?_cons_succ, List.getElem?_cons_zero]; rfl) ?_
            intro R HR
            refine wpList_store_row rfl 26 (.tmp 17) (.tmp 29) rfl v3.heap.size (bc dx).toArray rfl rfl 26 _ G4n.out (HZ.out dx H32.out.1) (by rw [dv_size _ H32.out.1]; rfl) (all_oneCell_toArray (bc_one dx)) ?_
            have F5 := hide (below_setRow F4.out (show W.drew.heap.size ≤ v3.heap.size by omega) (bc dx).toArray)
            have G5c := hide ((G4n.out).row (bc dx))
            have G5d := hide (show Blk (v4.setRow v3.heap.size (bc dx).toArray) v1.heap.size 26 (List.replicate 32 (.int .u8 0)) from (setRow_other _ _ _ _ (by omega)).trans G4d.out)
            refine HR.out _ _ F5.out ?_
            clear HR
            refine plan4_last (o := ?_) (by simp only [List.getElem?_toArray, List.getElem?_cons_succ, List.getElem?_cons_zero]; rfl) ?_
            intro R HR
            refine wpList_store_row rfl 26 (.tmp 18) (.tmp 32) rfl v1.heap.size (bc dy).toArray rfl rfl 26 _ G5d.out (HZ.out dy H32.out.2) (by rw [dv_size _ H32.out.2]; rfl) (all_oneCell_toArray (bc_one dy)) ?_
            have F6 := hide (below_setRow F5.out (show W.drew.heap.size ≤ v1.heap.size by omega) (bc dy).toArray)
            have G6d := hide ((G5d.out).row (bc dy))
            have G6c := hide (show Blk ((v4.setRow v3.heap.size (bc dx).toArray).setRow v1.heap.size (bc dy).toArray) v3.heap.size 26 (bc dx) from (setRow_other _ _ _ _ (by omega)).trans G5c.out)
            refine HR.out _ _ ?_
            clear HR
            refine plan4_doneC ?_
            exact ⟨v3.heap.size, v1.heap.size, rfl, hide ⟨G6c.out, G6d.out, ((Below.refl _ W).drew).trans F6.out, z4, z2⟩⟩
          · intro R HR
            have hcd := G2n.out.lt
            go_wp2_with fail
            have z3 := F2.out.size
            have F3 := hide (F2.out.alloc F2.out.size (.cells (List.replicate 32 (.int .u8 0)).toArray 26))
            have G3n := hide (Blk.new v2 26 (List.replicate 32 (.int .u8 0)))
            have G3d := hide (G2n.out.alloc (.cells (List.replicate 32 (.int .u8 0)).toArray 26))
            refine HR.out _ _ F3.out ?_
            clear HR
            refine name_plan4 ?_
            intro v3 hk
            have ek : v3 = (v2.alloc (.cells (List.replicate 32 (.int .u8 0)).toArray 26)) := hk.out
            rw [← ek] at F3 G3n G3d
            clear hk ek
            refine plan4_run (o := ?_) (by simp only [List.getElem?_toArray, List.getElem?_cons_succ, List.getElem?_cons_zero]; rfl) ?_
            intro R HR
            go_wp2_with fail
            with_reducible refine (HSY.out _ F3.out).mono ?_
            rintro e v4 ⟨rfl, h5⟩
            have F4 := hide (below_one F3.out h5)
            have G4d := hide (G3d.out.below h5 G3d.out.lt)
            have G4c := hide (G3n.out.below h5 G3n.out.lt)
            clear h5
            go_wp2_with fail
            refine HR.out _ _ F4.out ?_
            clear HR
            refine plan4_run (o := ?_) (by simp only [List.getElem?_toArray, List.getElem?_cons_succ, List.getElem?_cons_zero]; rfl) ?_
            intro R HR
            refine wpList_store_row rfl 26 (.tmp 17) (.tmp 29) rfl v2.heap.size (bc dx).toArray rfl rfl 26 _ G4c.out (HZ.out dx H32.out.1) (by rw [dv_size _ H32.out.1]; rfl) (all_oneCell_toArray (bc_one dx)) ?_
            have F5 := hide (below_setRow F4.out (show W.drew.heap.size ≤ v2.heap.size by omega) (bc dx).toArray)
            have G5c := hide ((G4c.out).row (bc dx))
            have G5d := hide (show Blk (v4.setRow v2.heap.size (bc dx).toArray) v1.heap.size 26 (List.replicate 32 (.int .u8 0)) from (setRow_other _ _ _ _ (by omega)).trans G4d.out)
            refine HR.out _ _ F5.out ?_
            clear HR
            refine plan4_last (o := ?_) (by simp only [List.getElem?_toArray, List.getElem?_cons_succ, List.getElem?_cons_zero]; rfl) ?_
            intro R HR
            refine wpList_store_row rfl 26 (.tmp 18) (.tmp 32) rfl v1.heap.size (bc dy).toArray rfl rfl 26 _ G5d.out (HZ.out dy H32.out.2) (by rw [dv_size _ H32.out.2]; rfl) (all_oneCell_toArray (bc_one dy)) ?_
            have F6 := hide (below_setRow F5.out (show W.drew.heap.size ≤ v1.heap.size by omega) (bc dy).toArray)
            have G6d := hide ((G5d.out).row (bc dy))
            have G6c := hide (show Blk ((v4.setRow v2.heap.size (bc dx).toArray).setRow v1.heap.size (bc dy).toArray) v2.heap.size 26 (bc dx) from (setRow_other _ _ _ _ (by omega)).trans G5c.out)
            refine HR.out _ _ ?_
            clear HR
            refine plan4_doneC ?_
            exact ⟨v2.heap.size, v1.heap.size, rfl, hide ⟨G6c.out, G6d.out, ((Below.refl _ W).drew).trans F6.out, z3, z2⟩⟩
      · intro R HR
        go_wp2_with fail
        have z1 := (Below.refl W.drew.heap.size W.drew).size
        have F1 := hide ((Below.refl W.drew.heap.size W.drew).alloc (Below.refl W.drew.heap.size W.drew).size (.cells (List.replicate 32 (.int .u8 0)).toArray 26))
        have G1n := hide (Blk.new W.drew 26 (List.replicate 32 (.int .u8 0)))
        refine HR.out _ _ F1.out ?_
        clear HR
        refine name_plan4 ?_
        intro v1 hk
        have ek : v1 = (W.drew.alloc (.cells (List.replicate 32 (.int .u8 0)).toArray 26)) := hk.out
        rw [← ek] at F1 G1n
        clear hk ek
        refine plan4_both (o1 := ?_) (o2 := ?_) (by simp only [List.getElem?_toArray, List.getElem?_cons_succ, List.getElem?_cons_zero]; rfl) (by simp only [List.getElem?_toArray, List.getElem?_cons_succ, List.getElem?_cons_zero]; rfl) ?_ ?_
        · intro R HR
          go_wp2_with fail
          with_reducible refine (HSX.out _ F1.out).mono ?_
          rintro e v2 ⟨rfl, h5⟩
          have F2 := hide (below_one F1.out h5)
          have G2c := hide (G1n.out.below h5 G1n.out.lt)
          clear h5
          go_wp2_with fail
          refine HR.out _ _ F2.out ?_
          clear HR
          refine plan4_both (o1 := ?_) (o2 := ?_) (by simp only [List.getElem?_toArray, List.getElem?_cons_succ, List.getElem?_cons_zero]; rfl) (by simp only [List.getElem?_toArray, List.getElem?_cons_succ, List.getElem?_cons_zero]; rfl) ?_ ?_
          · intro R HR
            go_wp2_with fail
            with_reducible refine (HSY.out _ F2.out).mono ?_
            rintro e v3 ⟨rfl, h5⟩
            have F3 := hide (below_one F2.out h5)
            have G3c := hide (G2c.out.below h5 G2c.out.lt)
            clear h5
            go_wp2_with fail
            refine HR.out _ _ F3.out ?_
            clear HR
            refine plan4_run (o := ?_) (by simp only [List.getElem?_toArray, List.getElem?_cons_succ, List.getElem?_cons_zero]; rfl) ?_
            intro R HR
            have hcd := G3c.out.lt
            go_wp2_with fail
            have z4 := F3.out.size
            have F4 := hide (F3.out.alloc F3.out.size (.cells (List.replicate 32 (.int .u8 0)).toArray 26))
            have G4n := hide (Blk.new v3 26 (List.replicate 32 (.int .u8 0)))
            have G4c := hide (G3c.out.alloc (.cells (List.replicate 32 (.int .u8 0)).toArray 26))
            refine HR.out _ _ F4.out ?_
            clear HR
            refine name_plan4 ?_
            intro v4 hk
            have ek : v4 = (v3.alloc (.cells (List.replicate 32 (.int .u8 0)).toArray 26)) := hk.out
            rw [← ek] at F4 G4n G4c
            clear hk ek
            refine plan4_run (o := ?_) (by simp only [List.getElem?_toArray, List.getElem?_cons_succ, List.getElem?_cons_zero]; rfl) ?_
            intro R HR
            refine wpList_store_row rfl 26 (.tmp 17) (.tmp 29) rfl W.drew.heap.size (bc dx).toArray rfl rfl 26 _ G4c.out (HZ.out dx H32.out.1) (by rw [dv_size _ H32.out.1]; rfl) (all_oneCell_toArray (bc_one dx)) ?_
            have F5 := hide (below_setRow F4.out (show W.drew.heap.size ≤ W.drew.heap.size by omega) (bc dx).toArray)
            have G5c := hide ((G4c.out).row (bc dx))
            have G5d := hide (show Blk (v4.setRow W.drew.heap.size (bc dx).toArray) v3.heap.size 26 (List.replicate 32 (.int .u8 0)) from (setRow_other _ _ _ _ (by omega)).trans G4n.out)
            refine HR.out _ _ F5.out ?_
            clear HR
            refine plan4_last (o := ?_) (by simp only [List.getElem?_toArray, List.getElem?_cons_succ, List.getElem?_cons_zero]; rfl) ?_
            intro R HR
            refine wpList_store_row rfl 26 (.tmp 18) (.tmp 32) rfl v3.heap.size (bc dy).toArray rfl rfl 26 _ G5d.out (HZ.out dy H32.out.2) (by rw [dv_size _ H32.out.2]; rfl) (all_oneCell_toArray (bc_one dy)) ?_
            have F6 := hide (below_setRow F5.out (show W.drew.heap.size ≤ v3.heap.size by omega) (bc dy).toArray)
            have G6d := hide ((G5d.out).row (bc dy))
            have G6c := hide (show Blk ((v4.setRow W.drew.heap.size (bc dx).toArray).setRow v3.heap.size (bc dy).toArray) W.drew.heap.size 26 (bc dx) from (setRow_other _ _ _ _ (by omega)).trans G5c.out)
            refine HR.out _ _ ?_
            clear HR
            refine plan4_doneC ?_
            exact ⟨W.drew.heap.size, v3.heap.size, rfl, hide ⟨G6c.out, G6d.out, ((Below.refl _ W).drew).trans F6.out, z1, z4⟩⟩
          · intro R HR
            have hcd := G2c.out.lt
            go_wp2_with fail
            have z3 := F2.out.size
            have F3 := hide (F2.out.alloc F2.out.size (.cells (List.replicate 32 (.int .u8 0)).toArray 26))
            have G3n := hide (Blk.new v2 26 (List.replicate 32 (.int .u8 0)))
            have G3c := hide (G2c.out.alloc (.cells (List.replicate 32 (.int .u8 0)).toArray 26))
            refine HR.out _ _ F3.out ?_
            clear HR
            refine name_plan4 ?_
            intro v3 hk
            have ek : v3 = (v2.alloc (.cells (List.replicate 32 (.int .u8 0)).toArray 26)) := hk.out
            rw [← ek] at F3 G3n G3c
            clear hk ek
            refine plan4_run (o := ?_) (by simp only [List.getElem?_toArray, List.getElem?_cons_succ, List.getElem?_cons_zero]; rfl) ?_
            intro R HR
            go_wp2_with fail
            with_reducible refine (HSY.out _ F3.out).mono ?_
            rintro e v4 ⟨rfl, h5⟩
            have F4 := hide (below_one F3.out h5)
            have G4c := hide (G3c.out.below h5 G3c.out.lt)
            have G4d := hide (G3n.out.below h5 G3n.out.lt)
            clear h5
            go_wp2_with fail
            refine HR.out _ _ F4.out ?_
            clear HR
            refine plan4_run (o := ?_) (by simp only [List.getElem?_toArray, List.getElem?_cons_succ, List.getElem?_cons_zero]; rfl) ?_
            intro R HR
            refine wpList_store_row rfl 26 (.tmp 17) (.tmp 29) rfl W.drew.heap.size (bc dx).toArray rfl rfl 26 _ G4c.out (HZ.out dx H32.out.1) (by rw [dv_size _ H32.out.1]; rfl) (all_oneCell_toArray (bc_one dx)) ?_
            have F5 := hide (below_setRow F4.out (show W.drew.heap.size ≤ W.drew.heap.size by omega) (bc dx).toArray)
            have G5c := hide ((G4c.out).row (bc dx))
            have G5d := hide (show Blk (v4.setRow W.drew.heap.size (bc dx).toArray) v2.heap.size 26 (List.replicate 32 (.int .u8 0)) from (setRow_other _ _ _ _ (by omega)).trans G4d.out)
            refine HR.out _ _ F5.out ?_
            clear HR
            refine plan4_last (o := ?_) (by simp only [List.getElem?_toArray, List.getElem?_cons_succ, List.getElem?_cons_zero]; rfl) ?_
            intro R HR
            refine wpList_store_row rfl 26 (.tmp 18) (.tmp 32) rfl v2.heap.size (bc dy).toArray rfl rfl 26 _ G5d.out (HZ.out dy H32.out.2) (by rw [dv_size _ H32.out.2]; rfl) (all_oneCell_toArray (bc_one dy)) ?_
            have F6 := hide (below_setRow F5.out (show W.drew.heap.size ≤ v2.heap.size by omega) (bc dy).toArray)
            have G6d := hide ((G5d.out).row (bc dy))
            have G6c := hide (show Blk ((v4.setRow W.drew.heap.size (bc dx).toArray).setRow v2.heap.size (bc dy).toArray) W.drew.heap.size 26 (bc dx) from (setRow_other _ _ _ _ (by omega)).trans G5c.out)
            refine HR.out _ _ ?_
            clear HR
            refine plan4_doneC ?_
            exact ⟨W.drew.heap.size, v2.heap.size, rfl, hide ⟨G6c.out, G6d.out, ((Below.refl _ W).drew).trans F6.out, z1, z3⟩⟩
        · intro R HR
          have hcd := G1n.out.lt
          go_wp2_with fail
          have z2 := F1.out.size
          have F2 := hide (F1.out.alloc F1.out.size (.cells (List.replicate 32 (.int .u8 0)).toArray 26))
          have G2n := hide (Blk.new v1 26 (List.replicate 32 (.int .u8 0)))
          have G2c := hide (G1n.out.alloc (.cells (List.replicate 32 (.int .u8 0)).toArray 26))
          refine HR.out _ _ F2.out ?_
          clear HR
          refine name_plan4 ?_
          intro v2 hk
          have ek : v2 = (v1.alloc (.cells (List.replicate 32 (.int .u8 0)).toArray 26)) := hk.out
          rw [← ek] at F2 G2n G2c
          clear hk ek
          refine plan4_run (o := ?_) (by simp only [List.getElem?_toArray, List.getElem?_cons_succ, List.getElem?_cons_zero]; rfl) ?_
          intro R HR
          go_wp2_with fail
          with_reducible refine (HSX.out _ F2.out).mono ?_
          rintro e v3 ⟨rfl, h5⟩
          have F3 := hide (below_one F2.out h5)
          have G3c := hide (G2c.out.below h5 G2c.out.lt)
          have G3d := hide (G2n.out.below h5 G2n.out.lt)
          clear h5
          go_wp2_with fail
          refine HR.out _ _ F3.out ?_
          clear HR
          refine plan4_run (o := ?_) (by simp only [List.getElem?_toArray, List.getElem?_cons_succ, List.getElem?_cons_zero]; rfl) ?_
          intro R HR
          go_wp2_with fail
          with_reducible refine (HSY.out _ F3.out).mono ?_
          rintro e v4 ⟨rfl, h5⟩
          have F4 := hide (below_one F3.out h5)
          have G4c := hide (G3c.out.below h5 G3c.out.lt)
          have G4d := hide (G3d.out.below h5 G3d.out.lt)
          clear h5
          go_wp2_with fail
          refine HR.out _ _ F4.out ?_
          clear HR
          refine plan4_run (o := ?_) (by simp only [List.getElem?_toArray, List.getElem?_cons_succ, List.getElem?_cons_zero]; rfl) ?_
          intro R HR
          refine wpList_store_row rfl 26 (.tmp 17) (.tmp 29) rfl W.drew.heap.size (bc dx).toArray rfl rfl 26 _ G4c.out (HZ.out dx H32.out.1) (by rw [dv_size _ H32.out.1]; rfl) (all_oneCell_toArray (bc_one dx)) ?_
          have F5 := hide (below_setRow F4.out (show W.drew.heap.size ≤ W.drew.heap.size by omega) (bc dx).toArray)
          have G5c := hide ((G4c.out).row (bc dx))
          have G5d := hide (show Blk (v4.setRow W.drew.heap.size (bc dx).toArray) v1.heap.size 26 (List.replicate 32 (.int .u8 0)) from (setRow_other _ _ _ _ (by omega)).trans G4d.out)
          refine HR.out _ _ F5.out ?_
          clear HR
          refine plan4_last (o := ?_) (by simp only [List.getElem?_toArray, List.getElem?_cons_succ, List.getElem?_cons_zero]; rfl) ?_
          intro R HR
          refine wpList_store_row rfl 26 (.tmp 18) (.tmp 32) rfl v1.heap.size (bc dy).toArray rfl rfl 26 _ G5d.out (HZ.out dy H32.out.2) (by rw [dv_size _ H32.out.2]; rfl) (all_oneCell_toArray (bc_one dy)) ?_
          have F6 := hide (below_setRow F5.out (show W.drew.heap.size ≤ v1.heap.size by omega) (bc dy).toArray)
          have G6d := hide ((G5d.out).row (bc dy))
          have G6c := hide (show Blk ((v4.setRow W.drew.heap.size (bc dx).toArray).setRow v1.heap.size (bc dy).toArray) W.drew.heap.size 26 (bc dx) from (setRow_other _ _ _ _ (by omega)).trans G5c.out)
          refine HR.out _ _ ?_
          clear HR
          refine plan4_doneC ?_
          exact ⟨W.drew.heap.size, v1.heap.size, rfl, hide ⟨G6c.out, G6d.out, ((Below.refl _ W).drew).trans F6.out, z1, z2⟩⟩
      · intro R HR
        go_wp2_with fail
        have z1 := (Below.refl W.drew.heap.size W.drew).size
        have F1 := hide ((Below.refl W.drew.heap.size W.drew).alloc (Below.refl W.drew.heap.size W.drew).size (.cells (List.replicate 32 (.int .u8 0)).toArray 26))
        have G1n := hide (Blk.new W.drew 26 (List.replicate 32 (.int .u8 0)))
        refine HR.out _ _ F1.out ?_
        clear HR
        refine name_plan4 ?_
        intro v1 hk
        have ek : v1 = (W.drew.alloc (.cells (List.replicate 32 (.int .u8 0)).toArray 26)) := hk.out
        rw [← ek] at F1 G1n
        clear hk ek
        refine plan4_both (o1 := ?_) (o2 := ?_) (by simp only [List.getElem?_toArray, List.getElem?_cons_succ, List.getElem?_cons_zero]; rfl) (by simp only [List.getElem?_toArray, List.getElem?_cons_succ, List.getElem?_cons_zero]; rfl) ?_ ?_
        · intro R HR
          go_wp2_with fail
          with_reducible refine (HSX.out _ F1.out).mono ?_
          rintro e v2 ⟨rfl, h5⟩
          have F2 := hide (below_one F1.out h5)
          have G2d := hide (G1n.out.below h5 G1n.out.lt)
          clear h5
          go_wp2_with fail
          refine HR.out _ _ F2.out ?_
          clear HR
          refine plan4_both (o1 := ?_) (o2 := ?_) (by simp only [List.getElem?_toArray, List.getElem?_cons_succ, List.getElem?_cons_zero]; rfl) (by simp only [List.getElem?_toArray, List.getElem?_cons_succ, List.getElem?_cons_zero]; rfl) ?_ ?_
          · intro R HR
            go_wp2_with fail
            with_reducible refine (HSY.out _ F2.out).mono ?_
            rintro e v3 ⟨rfl, h5⟩
            have F3 := hide (below_one F2.out h5)
            have G3d := hide (G2d.out.below h5 G2d.out.lt)
            clear h5
            go_wp2_with fail
            refine HR.out _ _ F3.out ?_
            clear HR
            refine plan4_run (o := ?_) (by simp only [List.getElem?_toArray, List.getElem?_cons_succ, List.getElem?_cons_zero]; rfl) ?_
            intro R HR
            have hcd := G3d.out.lt
            go_wp2_with fail
            have z4 := F3.out.size
            have F4 := hide (F3.out.alloc F3.out.size (.cells (List.replicate 32 (.int .u8 0)).toArray 26))
            have G4n := hide (Blk.new v3 26 (List.replicate 32 (.int .u8 0)))
            have G4d := hide (G3d.out.alloc (.cells (List.replicate 32 (.int .u8 0)).toArray 26))
            refine HR.out _ _ F4.out ?_
            clear HR
            refine name_plan4 ?_
            intro v4 hk
            have ek : v4 = (v3.alloc (.cells (List.replicate 32 (.int .u8 0)).toArray 26)) := hk.out
            rw [← ek] at F4 G4n G4d
            clear hk ek
            refine plan4_run (o := ?_) (by simp only [List.getElem?_toArray, List.getElem?_cons_succ, List.getElem?_cons_zero]; rfl) ?_
            intro R HR
            refine wpList_store_row rfl 26 (.tmp 17) (.tmp 29) rfl v3.heap.size (bc dx).toArray rfl rfl 26 _ G4n.out (HZ.out dx H32.out.1) (by rw [dv_size _ H32.out.1]; rfl) (all_oneCell_toArray (bc_one dx)) ?_
            have F5 := hide (below_setRow F4.out (show W.drew.heap.size ≤ v3.heap.size by omega) (bc dx).toArray)
            have G5c := hide ((G4n.out).row (bc dx))
            have G5d := hide (show Blk (v4.setRow v3.heap.size (bc dx).toArray) W.drew.heap.size 26 (List.replicate 32 (.int .u8 0)) from (setRow_other _ _ _ _ (by omega)).trans G4d.out)
            refine HR.out _ _ F5.out ?_
            clear HR
            refine plan4_last (o := ?_) (by simp only [List.getElem?_toArray, List.getElem?_cons_succ, List.getElem?_cons_zero]; rfl) ?_
            intro R HR
            refine wpList_store_row rfl 26 (.tmp 18) (.tmp 32) rfl W.drew.heap.size (bc dy).toArray rfl rfl 26 _ G5d.out (HZ.out dy H32.out.2) (by rw [dv_size _ H32.out.2]; rfl) (all_oneCell_toArray (bc_one dy)) ?_
            have F6 := hide (below_setRow F5.out (show W.drew.heap.size ≤ W.drew.heap.size by omega) (bc dy).toArray)
            have G6d := hide ((G5d.out).row (bc dy))
            have G6c := hide (show Blk ((v4.setRow v3.heap.size (bc dx).toArray).setRow W.drew.heap.size (bc dy).toArray) v3.heap.size 26 (bc dx) from (setRow_other _ _ _ _ (by omega)).trans G5c.out)
            refine HR.out _ _ ?_
            clear HR
            refine plan4_doneC ?_
            exact ⟨v3.heap.size, W.drew.heap.size, rfl, hide ⟨G6c.out, G6d.out, ((Below.refl _ W).drew).trans F6.out, z4, z1⟩⟩
          · intro R HR
            have hcd := G2d.out.lt
            go_wp2_with fail
            have z3 := F2.out.size
            have F3 := hide (F2.out.alloc F2.out.size (.cells (List.replicate 32 (.int .u8 0)).toArray 26))
            have G3n := hide (Blk.new v2 26 (List.replicate 32 (.int .u8 0)))
            have G3d := hide (G2d.out.alloc (.cells (List.replicate 32 (.int .u8 0)).toArray 26))
            refine HR.out _ _ F3.out ?_
            clear HR
            refine name_plan4 ?_
            intro v3 hk
            have ek : v3 = (v2.alloc (.cells (List.replicate 32 (.int .u8 0)).toArray 26)) := hk.out
            rw [← ek] at F3 G3n G3d
            clear hk ek
            refine plan4_run (o := ?_) (by simp only [List.getElem?_toArray, List.getElem?_cons_succ, List.getElem?_cons_zero]; rfl) ?_
            intro R HR
            go_wp2_with fail
            with_reducible refine (HSY.out _ F3.out).mono ?_
            rintro e v4 ⟨rfl, h5⟩
            have F4 := hide (below_one F3.out h5)
            have G4d := hide (G3d.out.below h5 G3d.out.lt)
            have G4c := hide (G3n.out.below h5 G3n.out.lt)
            clear h5
            go_wp2_with fail
            refine HR.out _ _ F4.out ?_
            clear HR
            refine plan4_run (o := ?_) (by simp only [List.getElem?_toArray, List.getElem?_cons_succ, List.getElem?_cons_zero]; rfl) ?_
            intro R HR
            refine wpList_store_row rfl 26 (.tmp 17) (.tmp 29) rfl v2.heap.size (bc dx).toArray rfl rfl 26 _ G4c.out (HZ.out dx H32.out.1) (by rw [dv_size _ H32.out.1]; rfl) (all_oneCell_toArray (bc_one dx)) ?_
            have F5 := hide (below_setRow F4.out (show W.drew.heap.size ≤ v2.heap.size by omega) (bc dx).toArray)
            have G5c := hide ((G4c.out).row (bc dx))
            have G5d := hide (show Blk (v4.setRow v2.heap.size (bc dx).toArray) W.drew.heap.size 26 (List.replicate 32 (.int .u8 0)) from (setRow_other _ _ _ _ (by omega)).trans G4d.out)
            refine HR.out _ _ F5.out ?_
            clear HR
            refine plan4_last (o := ?_) (by simp only [List.getElem?_toArray, List.getElem?_cons_succ, List.getElem?_cons_zero]; rfl) ?_
            intro R HR
            refine wpList_store_row rfl 26 (.tmp 18) (.tmp 32) rfl W.drew.heap.size (bc dy).toArray rfl rfl 26 _ G5d.out (HZ.out dy H32.out.2) (by rw [dv_size _ H32.out.2]; rfl) (all_oneCell_toArray (bc_one dy)) ?_
            have F6 := hide (below_setRow F5.out (show W.drew.heap.size ≤ W.drew.heap.size by omega) (bc dy).toArray)
            have G6d := hide ((G5d.out).row (bc dy))
            have G6c := hide (show Blk ((v4.setRow v2.heap.size (bc dx).toArray).setRow W.drew.heap.size (bc dy).toArray) v2.heap.size 26 (bc dx) from (setRow_other _ _ _ _ (by omega)).trans G5c.out)
            refine HR.out _ _ ?_
            clear HR
            refine plan4_doneC ?_
            exact ⟨v2.heap.size, W.drew.heap.size, rfl, hide ⟨G6c.out, G6d.out, ((Below.refl _ W).drew).trans F6.out, z3, z1⟩⟩
        · intro R HR
          have hcd := G1n.out.lt
          go_wp2_with fail
          have z2 := F1.out.size
          have F2 := hide (F1.out.alloc F1.out.size (.cells (List.replicate 32 (.int .u8 0)).toArray 26))
          have G2n := hide (Blk.new v1 26 (List.replicate 32 (.int .u8 0)))
          have G2d := hide (G1n.out.alloc (.cells (List.replicate 32 (.int .u8 0)).toArray 26))
          refine HR.out _ _ F2.out ?_
          clear HR
          refine name_plan4 ?_
          intro v2 hk
          have ek : v2 = (v1.alloc (.cells (List.replicate 32 (.int .u8 0)).toArray 26)) := hk.out
          rw [← ek] at F2 G2n G2d
          clear hk ek
          refine plan4_run (o := ?_) (by simp only [List.getElem?_toArray, List.getElem?_cons_succ, List.getElem?_cons_zero]; rfl) ?_
          intro R HR
          go_wp2_with fail
          with_reducible refine (HSX.out _ F2.out).mono ?_
          rintro e v3 ⟨rfl, h5⟩
          have F3 := hide (below_one F2.out h5)
          have G3d := hide (G2d.out.below h5 G2d.out.lt)
          have G3c := hide (G2n.out.below h5 G2n.out.lt)
          clear h5
          go_wp2_with fail
          refine HR.out _ _ F3.out ?_
          clear HR
          refine plan4_run (o := ?_) (by simp only [List.getElem?_toArray, List.getElem?_cons_succ, List.getElem?_cons_zero]; rfl) ?_
          intro R HR
          go_wp2_with fail
          with_reducible refine (HSY.out _ F3.out).mono ?_
          rintro e v4 ⟨rfl, h5⟩
          have F4 := hide (below_one F3.out h5)
          have G4d := hide (G3d.out.below h5 G3d.out.lt)
          have G4c := hide (G3c.out.below h5 G3c.out.lt)
          clear h5
          go_wp2_with fail
          refine HR.out _ _ F4.out ?_
          clear HR
          refine plan4_run (o := ?_) (by simp only [List.getElem?_toArray, List.getElem?_cons_succ, List.getElem?_cons_zero]; rfl) ?_
          intro R HR
          refine wpList_store_row rfl 26 (.tmp 17) (.tmp 29) rfl v1.heap.size (bc dx).toArray rfl rfl 26 _ G4c.out (HZ.out dx H32.out.1) (by rw [dv_size _ H32.out.1]; rfl) (all_oneCell_toArray (bc_one dx)) ?_
          have F5 := hide (below_setRow F4.out (show W.drew.heap.size ≤ v1.heap.size by omega) (bc dx).toArray)
          have G5c := hide ((G4c.out).row (bc dx))
          have G5d := hide (show Blk (v4.setRow v1.heap.size (bc dx).toArray) W.drew.heap.size 26 (List.replicate 32 (.int .u8 0)) from (setRow_other _ _ _ _ (by omega)).trans G4d.out)
          refine HR.out _ _ F5.out ?_
          clear HR
          refine plan4_last (o := ?_) (by simp only [List.getElem?_toArray, List.getElem?_cons_succ, List.getElem?_cons_zero]; rfl) ?_
          intro R HR
          refine wpList_store_row rfl 26 (.tmp 18) (.tmp 32) rfl W.drew.heap.size (bc dy).toArray rfl rfl 26 _ G5d.out (HZ.out dy H32.out.2) (by rw [dv_size _ H32.out.2]; rfl) (all_oneCell_toArray (bc_one dy)) ?_
          have F6 := hide (below_setRow F5.out (show W.drew.heap.size ≤ W.drew.heap.size by omega) (bc dy).toArray)
          have G6d := hide ((G5d.out).row (bc dy))
          have G6c := hide (show Blk ((v4.setRow v1.heap.size (bc dx).toArray).setRow W.drew.heap.size (bc dy).toArray) v1.heap.size 26 (bc dx) from (setRow_other _ _ _ _ (by omega)).trans G5c.out)
          refine HR.out _ _ ?_
          clear HR
          refine plan4_doneC ?_
          exact ⟨v1.heap.size, W.drew.heap.size, rfl, hide ⟨G6c.out, G6d.out, ((Below.refl _ W).drew).trans F6.out, z2, z1⟩⟩
    rintro a' V ⟨cb, db, rfl, HV⟩
    have HM2 := hide (HM.out.below HV.out.2.2.1)
    have HX2 := hide (HHX.out.below HV.out.2.2.1 HHX.out.lt)
    have hYV := HX2.out.lt
    have e1 : V.cell? ⟨Y, 1, none⟩ = some (.bool al) := (HX2.out.cell 1).trans rfl
    have hzW := HM.out.size
    clear HSX HSY HC HTW
    by_cases hdd : dx = dy
    · have hv : true = (dx == dy) := by simp [hdd]
      have HR2 := hide (show FcX w R0 V from ⟨p1, q1, D, by
        have h : commonR sha tagN m1 q' x y p1 q1 = (x, y) := commonR_eq sha tagN (by rw [HDX.out.1, HDX.out.2, hdd])
        rw [h] at HE
        rw [← HE.out.1]; exact HM2.out⟩)
      have HVE := hide hv
      clear hdd hv
      gi_wp2_with (first | (refine wpListIn_load_row' rfl 26 (.tmp 17) rfl cb rfl 26 _ (0, 0) _ HV.out.1 Tryd.underlying26 rfl (HZ.out dx H32.out.1) ?_) | (refine wpListIn_load_row' rfl 26 (.tmp 18) rfl db rfl 26 _ (0, 0) _ HV.out.2.1 Tryd.underlying26 rfl (HZ.out dy H32.out.2) ?_) | (refine wpListIn_eql rfl (.tmp 34) (.tmp 35) 26 rfl dx dy rfl rfl H32.out.1 H32.out.2 _ HVE.out ?_))
      exact ⟨(others_below HV.out.2.2.1).from _, rfl, HR2.out⟩
    · have hv : false = (dx == dy) := by symm; exact beq_eq_false_iff_ne.2 hdd
      have HNE := hide (show sha x ≠ sha y by rw [HDX.out.1, HDX.out.2]; exact hdd)
      have HVE := hide hv
      clear hdd hv
      cases al with
      | true =>
        have HI2 := hide (show FcI w n i R0 (pre ++ [(q', true)]) V from ⟨(m1 + 1) / 2, q' / 2, x, y, p1, q1, D, HWY.out, by omega, by omega, (commonR_alone sha tagN g1 HNE.out HAL.out).symm.trans HE.out.1, by
          have := lenR_more (i := q') g1; rw [HAL.out] at this; rw [HE.out.2.1, this]; simp, by
          have := lenR_more (i := q') g1; rw [HAL.out] at this; rw [HE.out.2.2, this]; simp, h7, h8, HM2.out⟩)
        gi_wp2_with (first | (refine wpListIn_load_row' rfl 26 (.tmp 17) rfl cb rfl 26 _ (0, 0) _ HV.out.1 Tryd.underlying26 rfl (HZ.out dx H32.out.1) ?_) | (refine wpListIn_load_row' rfl 26 (.tmp 18) rfl db rfl 26 _ (0, 0) _ HV.out.2.1 Tryd.underlying26 rfl (HZ.out dy H32.out.2) ?_) | (refine wpListIn_eql rfl (.tmp 34) (.tmp 35) 26 rfl dx dy rfl rfl H32.out.1 H32.out.2 _ HVE.out ?_))
        exact ⟨(others_below HV.out.2.2.1).from _, HI2.out⟩
      | false =>
        have hl := lenR_more (i := q') g1
        rw [HAL.out] at hl
        simp only [Bool.false_eq_true, if_false] at hl
        obtain ⟨hp, ps, rfl⟩ : ∃ y ys, p1 = y :: ys := List.exists_cons_of_length_pos (by rw [HE.out.2.1, hl]; omega)
        obtain ⟨hq, qs, rfl⟩ : ∃ y ys, q1 = y :: ys := List.exists_cons_of_length_pos (by rw [HE.out.2.2, hl]; omega)
        obtain ⟨bp, op, hAp, hrp, hbp, hmp, hp32, hdp⟩ := HM2.out.sp.head
        obtain ⟨bq, oq, hAq, hrq, hbq, hmq, hq32, hdq⟩ := HM2.out.sq.head
        obtain ⟨Ap, mp, cp, Aq, mq, cq, Ax, cx, Ay, cy⟩ := D
        simp only at hAp hAq hmp hmq hdp hdq
        subst hAp hAq
        have HPL := hide (show ps.length = lenR ((m1 + 1) / 2) (q' / 2) ∧ qs.length = lenR ((m1 + 1) / 2) (q' / 2) by
          have e2 := HE.out.2.1
          have e3 := HE.out.2.2
          rw [hl, List.length_cons] at e2 e3
          omega)
        have HCM := hide (show commonR sha tagN ((m1 + 1) / 2) (q' / 2) (stepT tagN q' dx hp) (stepT tagN q' dy hq) ps qs = R0 by
          have h := (commonR_two sha tagN (p := hp :: ps) (q := hq :: qs) g1 HNE.out HAL.out).symm.trans HE.out.1
          rw [HDX.out.1, HDX.out.2] at h
          exact h)
        have HPD := hide (And.intro hdp hdq)
        have H32P := hide (And.intro hp32 hq32)
        have hcp := HM2.out.sp.le
        have hcq := HM2.out.sq.le
        have hcp63 := HM2.out.sp.top
        have hcq63 := HM2.out.sq.top
        simp only at hcp hcq hcp63 hcq63
        have hcb := HV.out.1.lt
        have hdb := HV.out.2.1.lt
        have hwV := HM2.out.bel.size
        have hcb2 : w.heap.size + 4 < cb ∧ w.heap.size + 4 < db := by have := HM.out.size; have := HV.out.2.2.2.1; have := HV.out.2.2.2.2; omega
        have HS0 := hide (show FcS w.heap.size Y cb db bp op bq oq (.slice (some ⟨bp, op, none⟩) mp cp) (.slice (some ⟨bq, oq, none⟩) mq cq) (q' : Nat) dx dy hp hq V.drew from
          ⟨(HX2.out.cell 0).trans rfl, e1, bs_range HV.out.1.bs, bs_range HV.out.2.1.bs, (HM2.out.bp.cell 0).trans rfl, (HM2.out.bq.cell 0).trans rfl, range_below hrp (below_one HM2.out.bel ((Below.refl _ V).drew)) hbp, range_below hrq (below_one HM2.out.bel ((Below.refl _ V).drew)) hbq⟩)
        have HLT := hide (show FcL w.heap.size Y cb db bp bq V.drew from ⟨hYV, hcb, hdb, by have := HM2.out.size; show _ < V.heap.size; omega, Nat.lt_of_lt_of_le hbp hwV, Nat.lt_of_lt_of_le hbq hwV⟩)
        have HST1 := hide (fun (U : World) (h : Below V.drew.heap.size V.drew U) => stepText_any q' false dx hp U ((HT.out.below (below_one HM2.out.bel ((Below.refl _ V).drew))).below h) (by omega) H32.out.1 H32P.out.1)
        have HST2 := hide (fun (U : World) (h : Below V.drew.heap.size V.drew U) => stepText_any q' false dy hq U ((HT.out.below (below_one HM2.out.bel ((Below.refl _ V).drew))).below h) (by omega) H32.out.2 H32P.out.2)
        have HSL := hide (show (stepT tagN q' dx hp).length ≤ 100000000 ∧ (stepT tagN q' dy hq).length ≤ 100000000 by
          constructor <;> (unfold stepT; split <;> (rw [nodeT_len (sha_len _) (by first | exact H32.out.1 | exact H32P.out.1 | exact H32.out.2 | exact H32P.out.2) (by first | exact H32.out.1 | exact H32P.out.1 | exact H32.out.2 | exact H32P.out.2)]; decide)))
        clear hl hrp hrq hdp hdq hp32 hq32 HE HNE HDX
        gi_wp2_with (first | (refine wpListIn_load_row' rfl 26 (.tmp 17) rfl cb rfl 26 _ (0, 0) _ HV.out.1 Tryd.underlying26 rfl (HZ.out dx H32.out.1) ?_) | (refine wpListIn_load_row' rfl 26 (.tmp 18) rfl db rfl 26 _ (0, 0) _ HV.out.2.1 Tryd.underlying26 rfl (HZ.out dy H32.out.2) ?_) | (refine wpListIn_eql rfl (.tmp 34) (.tmp 35) 26 rfl dx dy rfl rfl H32.out.1 H32.out.2 _ HVE.out ?_))
        refine wpIn_region_plan4 (FcS w.heap.size Y cb db bp op bq oq (.slice (some ⟨bp, op, none⟩) mp cp) (.slice (some ⟨bq, oq, none⟩) mq cq) (q' : Nat) dx dy hp hq) (.take 0 (.take 1 (.take 2 (.take 3 (.take 4 (.take 6 (.take 7 (.take 8 (.take 9 (.take 10 (.run 5 (.run 11 (.run 12 (.last 13 .done)))))))))))))) (by kernel_rfl) (by kernel_rfl) HS0.out ?_
        (refine plan4_take (o := ?_) (v := ?_) (by simp only [List.getElem?_toArray, List.getElem?_cons_zero]; rfl) (yields_run (by rfl) ?_) ?_; rotate_left; (focus (intro w' hw'; obtain ⟨s0, s1, -, -, s4, s5, -, -⟩ := hw'; go_simp <;> with_reducible rfl)); (simp only [Act.put, List.setIfInBounds_toArray, List.set_cons_zero, List.set_cons_succ]))
        (refine plan4_take (o := ?_) (by simp only [List.getElem?_toArray, List.getElem?_cons_succ, List.getElem?_cons_zero]; rfl) (yieldsIf_load_mid (by rfl) 26 (.tmp 17) rfl cb 0 rfl (bc dx) _ (fun W' h => FcS.rc h) Tryd.underlying26 rfl (HZ.out _ H32.out.1)) ?_; (simp only [Act.put, List.setIfInBounds_toArray, List.set_cons_zero, List.set_cons_succ]))
        (refine plan4_take (o := ?_) (v := ?_) (by simp only [List.getElem?_toArray, List.getElem?_cons_succ, List.getElem?_cons_zero]; rfl) (yields_run (by rfl) ?_) ?_; rotate_left; (focus (intro w' hw'; obtain ⟨s0, s1, -, -, s4, s5, -, -⟩ := hw'; go_simp <;> with_reducible rfl)); (simp only [Act.put, List.setIfInBounds_toArray, List.set_cons_zero, List.set_cons_succ]))
        (refine plan4_take (o := ?_) (v := ?_) (by simp only [List.getElem?_toArray, List.getElem?_cons_succ, List.getElem?_cons_zero]; rfl) (yields_run (by rfl) ?_) ?_; rotate_left; (focus (intro w' hw'; skip; go_simp <;> with_reducible rfl)); (simp only [Act.put, List.setIfInBounds_toArray, List.set_cons_zero, List.set_cons_succ]))
        (refine plan4_take (o := ?_) (by simp only [List.getElem?_toArray, List.getElem?_cons_succ, List.getElem?_cons_zero]; rfl) (yieldsIf_load_mid (by rfl) 26 (.tmp 43) rfl bp op rfl (bc hp) _ (fun W' h => FcS.rp h) Tryd.underlying26 rfl (HZ.out _ H32P.out.1)) ?_; (simp only [Act.put, List.setIfInBounds_toArray, List.set_cons_zero, List.set_cons_succ]))
        (refine plan4_take (o := ?_) (v := ?_) (by simp only [List.getElem?_toArray, List.getElem?_cons_succ, List.getElem?_cons_zero]; rfl) (yields_run (by rfl) ?_) ?_; rotate_left; (focus (intro w' hw'; obtain ⟨s0, s1, -, -, s4, s5, -, -⟩ := hw'; go_simp <;> with_reducible rfl)); (simp only [Act.put, List.setIfInBounds_toArray, List.set_cons_zero, List.set_cons_succ]))
        (refine plan4_take (o := ?_) (by simp only [List.getElem?_toArray, List.getElem?_cons_succ, List.getElem?_cons_zero]; rfl) (yieldsIf_load_mid (by rfl) 26 (.tmp 18) rfl db 0 rfl (bc dy) _ (fun W' h => FcS.rd h) Tryd.underlying26 rfl (HZ.out _ H32.out.2)) ?_; (simp only [Act.put, List.setIfInBounds_toArray, List.set_cons_zero, List.set_cons_succ]))
        (refine plan4_take (o := ?_) (v := ?_) (by simp only [List.getElem?_toArray, List.getElem?_cons_succ, List.getElem?_cons_zero]; rfl) (yields_run (by rfl) ?_) ?_; rotate_left; (focus (intro w' hw'; obtain ⟨s0, s1, -, -, s4, s5, -, -⟩ := hw'; go_simp <;> with_reducible rfl)); (simp only [Act.put, List.setIfInBounds_toArray, List.set_cons_zero, List.set_cons_succ]))
        (refine plan4_take (o := ?_) (v := ?_) (by simp only [List.getElem?_toArray, List.getElem?_cons_succ, List.getElem?_cons_zero]; rfl) (yields_run (by rfl) ?_) ?_; rotate_left; (focus (intro w' hw'; skip; go_simp <;> with_reducible rfl)); (simp only [Act.put, List.setIfInBounds_toArray, List.set_cons_zero, List.set_cons_succ]))
        (refine plan4_take (o := ?_) (by simp only [List.getElem?_toArray, List.getElem?_cons_succ, List.getElem?_cons_zero]; rfl) (yieldsIf_load_mid (by rfl) 26 (.tmp 49) rfl bq oq rfl (bc hq) _ (fun W' h => FcS.rq h) Tryd.underlying26 rfl (HZ.out _ H32P.out.2)) ?_; (simp only [Act.put, List.setIfInBounds_toArray, List.set_cons_zero, List.set_cons_succ]))
        refine plan4_run (o := ?_) (by simp only [List.getElem?_toArray, List.getElem?_cons_succ, List.getElem?_cons_zero]; rfl) ?_
        intro R HR
        go_wp2_with fail
        with_reducible refine (HST1.out _ (Below.refl _ _)).mono ?_
        rintro e w6 ⟨A6, c6, rfl, a1, a2, a3, a4, a5⟩
        have HX6 := hide (And.intro a1 (And.intro a2 a3))
        have H6 := hide a5
        clear a1 a2 a3 a4 a5 HST1
        go_wp2_with fail
        refine HR.out _ _ (HS0.out.below HLT.out H6.out) ?_
        clear HR
        refine plan4_run (o := ?_) (by simp only [List.getElem?_toArray, List.getElem?_cons_succ, List.getElem?_cons_zero]; rfl) ?_
        intro R HR
        go_wp2_with fail
        with_reducible refine (HST2.out _ H6.out).mono ?_
        rintro e w7 ⟨A7, c7, rfl, a1, a2, a3, a4, a5⟩
        have HX7 := hide (And.intro a1 (And.intro a2 a3))
        have HX6' := hide (HX6.out.1.below a5)
        have H7 := hide (below_one H6.out a5)
        clear a1 a2 a3 a4 a5 HST2
        go_wp2_with fail
        have HS7 := hide (HS0.out.below HLT.out H7.out)
        refine HR.out _ _ HS7.out ?_
        clear HR
        refine plan4_run (o := ?_) (by simp only [List.getElem?_toArray, List.getElem?_cons_succ, List.getElem?_cons_zero]; rfl) ?_
        intro R HR
        have HM7 := hide (HM2.out.below (((Below.refl _ V).drew).trans H7.out))
        have fx := HM7.out.bx.free 0
        have cx7 : w7.cell? ⟨w.heap.size + 3, 0, none⟩ = some (.slice Ax x.length cx) := (HM7.out.bx.cell 0).trans rfl
        go_wp2_with fail
        refine HR.out _ _ (HS7.out.set _ (by omega) (by omega) (by omega) (by omega) (by omega)) ?_
        clear HR
        refine plan4_last (o := ?_) (by simp only [List.getElem?_toArray, List.getElem?_cons_succ, List.getElem?_cons_zero]; rfl) ?_
        intro R HR
        have hz4 : Blk (w7.setCell ⟨w.heap.size + 3, 0, none⟩ (.slice A6 (stepT tagN q' dx hp).length c6)) (w.heap.size + 4) 22 [.slice Ay y.length cy] := HM7.out.bz.apart' (by omega) _
        have fy := hz4.free 0
        have cy7 : (w7.setCell ⟨w.heap.size + 3, 0, none⟩ (.slice A6 (stepT tagN q' dx hp).length c6)).cell? ⟨w.heap.size + 4, 0, none⟩ = some (.slice Ay y.length cy) := (hz4.cell 0).trans rfl
        clear hz4
        go_wp2_with fail
        refine HR.out _ _ ?_
        clear HR
        refine plan4_doneC ?_
        have HM9 := hide (show FcM w ⟨some ⟨bp, op, none⟩, mp, cp, some ⟨bq, oq, none⟩, mq, cq, A6, c6, A7, c7⟩ (stepT tagN q' dx hp) (stepT tagN q' dy hq) (hp :: ps) (hq :: qs) ((w7.setCell ⟨w.heap.size + 1 + 1 + 1, 0, none⟩ (.slice A6 (stepT tagN q' dx hp).length c6)).setCell ⟨w.heap.size + 1 + 1 + 1 + 1, 0, none⟩ (.slice A7 (stepT tagN q' dy hq).length c7)) from HM7.out.texts HX6'.out HX7.out.1 HX6.out.2 HX7.out.2)
        have HKF := hide (show KeepsOthers W ((w7.setCell ⟨w.heap.size + 1 + 1 + 1, 0, none⟩ (.slice A6 (stepT tagN q' dx hp).length c6)).setCell ⟨w.heap.size + 1 + 1 + 1 + 1, 0, none⟩ (.slice A7 (stepT tagN q' dy hq).length c7)) from (((others_below HV.out.2.2.1).trans (others_below (((Below.refl _ V).drew).trans H7.out))).trans (KeepsOthers.setCell _ _ _)).trans (KeepsOthers.setCell _ _ _))
        revert HM9 HKF
        generalize (w7.setCell ⟨w.heap.size + 1 + 1 + 1, 0, none⟩ (.slice A6 (stepT tagN q' dx hp).length c6)).setCell ⟨w.heap.size + 1 + 1 + 1 + 1, 0, none⟩ (.slice A7 (stepT tagN q' dy hq).length c7) = W9
        intro HM9 HKF
        clear HM7 fx cx7 fy cy7 HS7 H7 HX6' HX7 H6 HX6 HS0 HLT
        have p9 : W9.drew.cell? ⟨w.heap.size + 1, 0, none⟩ = some (.slice (some ⟨bp, op, none⟩) mp cp) := (HM9.out.bp.cell 0).trans rfl
        have q9 : W9.drew.cell? ⟨w.heap.size + 1 + 1, 0, none⟩ = some (.slice (some ⟨bq, oq, none⟩) mq cq) := (HM9.out.bq.cell 0).trans rfl
        have fp9 : W9.drew.frozen? ⟨w.heap.size + 1, 0, none⟩ = false := HM9.out.bp.free 0
        have hmp' : 1 ≤ (mp : Int) := by omega
        have hmq' : 1 ≤ (mq : Int) := by omega
        have HSS := hide (And.intro HSL.out.1 HSL.out.2)
        clear HSL
        generalize stepT tagN q' dx hp = sx at *
        generalize stepT tagN q' dy hq = sy at *
        by_cases hc1 : cp = 1
        · subst hc1
          have HP1 := hide (show DSrc w (some ⟨bp, op, none⟩) 0 0 ps from by
            have e : mp - 1 = 0 := by omega
            have := HPD.out.1
            rw [e] at this
            exact this)
          by_cases hc2 : cq = 1
          · subst hc2
            have HP2 := hide (show DSrc w (some ⟨bq, oq, none⟩) 0 0 qs from by
              have e : mq - 1 = 0 := by omega
              have := HPD.out.2
              rw [e] at this
              exact this)
            gi_wp2_with fail
            refine wpIn_region_plan4 (fun U => U.cell? ⟨w.heap.size + 1 + 1, 0, none⟩ = some (.slice (some ⟨bq, oq, none⟩) mq 1)) (.take 2 (.take 3 (.run 0 (.take 1 (.run 4 (.last 5 .done)))))) (by kernel_rfl) (by kernel_rfl) q9 ?_
            have HM9d := hide (HM9.out.below ((Below.refl _ W9).drew))
            have HKFd := hide (HKF.out.trans (others_below ((Below.refl _ W9).drew)))
            generalize W9.drew = W9d at *
            (refine plan4_take (o := ?_) (v := ?_) (by simp only [List.getElem?_toArray, List.getElem?_cons_succ, List.getElem?_cons_zero]; rfl) (yields_run (by rfl) ?_) ?_; rotate_left; (focus (intro w' hw'; have s0 := hw'; go_simp <;> with_reducible rfl)); (simp only [Act.put, List.setIfInBounds_toArray, List.set_cons_zero, List.set_cons_succ]))
            (refine plan4_take (o := ?_) (v := ?_) (by simp only [List.getElem?_toArray, List.getElem?_cons_succ, List.getElem?_cons_zero]; rfl) (yields_run (by rfl) ?_) ?_; rotate_left; (focus (intro w' hw'; skip; go_simp <;> with_reducible rfl)); (simp only [Act.put, List.setIfInBounds_toArray, List.set_cons_zero, List.set_cons_succ]))
            refine plan4_run (o := ?_) (by simp only [List.getElem?_toArray, List.getElem?_cons_zero]; rfl) ?_
            intro R HR
            go_wp2_with fail
            refine HR.out _ _ q9 ?_
            clear HR
            (refine plan4_take (o := ?_) (v := ?_) (by simp only [List.getElem?_toArray, List.getElem?_cons_succ, List.getElem?_cons_zero]; rfl) (yields_run (by rfl) ?_) ?_; rotate_left; (focus (intro w' hw'; skip; go_simp <;> with_reducible rfl)); (simp only [Act.put, List.setIfInBounds_toArray, List.set_cons_zero, List.set_cons_succ]))
            refine plan4_run (o := ?_) (by simp only [List.getElem?_toArray, List.getElem?_cons_succ, List.getElem?_cons_zero]; rfl) ?_
            intro R HR
            go_wp2_with fail
            have q9' : (W9d.setCell ⟨w.heap.size + 1, 0, none⟩ (.slice (some ⟨bp, op, none⟩) 0 0)).cell? ⟨w.heap.size + 1 + 1, 0, none⟩ = some (.slice (some ⟨bq, oq, none⟩) mq 1) := (cell_apart _ _ (by omega)).trans q9
            refine HR.out _ _ q9' ?_
            clear HR
            refine plan4_last (o := ?_) (by simp only [List.getElem?_toArray, List.getElem?_cons_succ, List.getElem?_cons_zero]; rfl) ?_
            intro R HR
            have fq9 : (W9d.setCell ⟨w.heap.size + 1, 0, none⟩ (.slice (some ⟨bp, op, none⟩) 0 0)).frozen? ⟨w.heap.size + 1 + 1, 0, none⟩ = false := Blk.free (show Blk (W9d.setCell ⟨w.heap.size + 1, 0, none⟩ (.slice (some ⟨bp, op, none⟩) 0 0)) (w.heap.size + 1 + 1) 30 [.slice (some ⟨bq, oq, none⟩) mq 1] from Blk.apart' (show Blk W9d (w.heap.size + 1 + 1) 30 [.slice (some ⟨bq, oq, none⟩) mq 1] from HM9d.out.bq) (by omega) _) 0
            go_wp2_with fail
            refine HR.out _ _ ?_
            clear HR
            refine plan4_doneC ?_
            gi_wp2
            refine ⟨((HKFd.out.trans (KeepsOthers.setCell _ _ _)).trans (KeepsOthers.setCell _ _ _)).from _, ?_⟩
            exact ⟨(m1 + 1) / 2, q' / 2, sx, sy, ps, qs, _, HWY.out, by omega, by omega, HCM.out, HPL.out.1, HPL.out.2, HSS.out.1, HSS.out.2, HM9d.out.paths HP1.out HP2.out⟩
          · have hc2n : ¬ (cq : Int) = 1 := by omega
            have HP2 := hide (show DSrc w (some ⟨bq, oq + 32, none⟩) (mq - 1) (cq - 1) qs from by have := HPD.out.2; rw [if_neg hc2] at this; exact this)
            gi_wp2_with fail
            refine wpIn_region_plan4 (fun U => U.cell? ⟨w.heap.size + 1 + 1, 0, none⟩ = some (.slice (some ⟨bq, oq, none⟩) mq cq)) (.take 2 (.take 3 (.run 0 (.take 1 (.run 4 (.last 5 .done)))))) (by kernel_rfl) (by kernel_rfl) q9 ?_
            have HM9d := hide (HM9.out.below ((Below.refl _ W9).drew))
            have HKFd := hide (HKF.out.trans (others_below ((Below.refl _ W9).drew)))
            generalize W9.drew = W9d at *
            (refine plan4_take (o := ?_) (v := ?_) (by simp only [List.getElem?_toArray, List.getElem?_cons_succ, List.getElem?_cons_zero]; rfl) (yields_run (by rfl) ?_) ?_; rotate_left; (focus (intro w' hw'; have s0 := hw'; go_simp <;> with_reducible rfl)); (simp only [Act.put, List.setIfInBounds_toArray, List.set_cons_zero, List.set_cons_succ]))
            (refine plan4_take (o := ?_) (v := ?_) (by simp only [List.getElem?_toArray, List.getElem?_cons_succ, List.getElem?_cons_zero]; rfl) (yields_run (by rfl) ?_) ?_; rotate_left; (focus (intro w' hw'; skip; go_simp <;> with_reducible rfl)); (simp only [Act.put, List.setIfInBounds_toArray, List.set_cons_zero, List.set_cons_succ]))
            refine plan4_run (o := ?_) (by simp only [List.getElem?_toArray, List.getElem?_cons_zero]; rfl) ?_
            intro R HR
            go_wp2_with fail
            refine HR.out _ _ q9 ?_
            clear HR
            (refine plan4_take (o := ?_) (v := ?_) (by simp only [List.getElem?_toArray, List.getElem?_cons_succ, List.getElem?_cons_zero]; rfl) (yields_run (by rfl) ?_) ?_; rotate_left; (focus (intro w' hw'; skip; go_simp <;> with_reducible rfl)); (simp only [Act.put, List.setIfInBounds_toArray, List.set_cons_zero, List.set_cons_succ]))
            refine plan4_run (o := ?_) (by simp only [List.getElem?_toArray, List.getElem?_cons_succ, List.getElem?_cons_zero]; rfl) ?_
            intro R HR
            go_wp2_with fail
            have q9' : (W9d.setCell ⟨w.heap.size + 1, 0, none⟩ (.slice (some ⟨bp, op, none⟩) 0 0)).cell? ⟨w.heap.size + 1 + 1, 0, none⟩ = some (.slice (some ⟨bq, oq, none⟩) mq cq) := (cell_apart _ _ (by omega)).trans q9
            refine HR.out _ _ q9' ?_
            clear HR
            refine plan4_last (o := ?_) (by simp only [List.getElem?_toArray, List.getElem?_cons_succ, List.getElem?_cons_zero]; rfl) ?_
            intro R HR
            have fq9 : (W9d.setCell ⟨w.heap.size + 1, 0, none⟩ (.slice (some ⟨bp, op, none⟩) 0 0)).frozen? ⟨w.heap.size + 1 + 1, 0, none⟩ = false := Blk.free (show Blk (W9d.setCell ⟨w.heap.size + 1, 0, none⟩ (.slice (some ⟨bp, op, none⟩) 0 0)) (w.heap.size + 1 + 1) 30 [.slice (some ⟨bq, oq, none⟩) mq cq] from Blk.apart' (show Blk W9d (w.heap.size + 1 + 1) 30 [.slice (some ⟨bq, oq, none⟩) mq cq] from HM9d.out.bq) (by omega) _) 0
            go_wp2_with fail
            refine HR.out _ _ ?_
            clear HR
            refine plan4_doneC ?_
            gi_wp2
            refine ⟨((HKFd.out.trans (KeepsOthers.setCell _ _ _)).trans (KeepsOthers.setCell _ _ _)).from _, ?_⟩
            exact ⟨(m1 + 1) / 2, q' / 2, sx, sy, ps, qs, _, HWY.out, by omega, by omega, HCM.out, HPL.out.1, HPL.out.2, HSS.out.1, HSS.out.2, HM9d.out.paths HP1.out HP2.out⟩
        · have hc1n : ¬ (cp : Int) = 1 := by omega
          have HP1 := hide (show DSrc w (some ⟨bp, op + 32, none⟩) (mp - 1) (cp - 1) ps from by have := HPD.out.1; rw [if_neg hc1] at this; exact this)
          by_cases hc2 : cq = 1
          · subst hc2
            have HP2 := hide (show DSrc w (some ⟨bq, oq, none⟩) 0 0 qs from by
              have e : mq - 1 = 0 := by omega
              have := HPD.out.2
              rw [e] at this
              exact this)
            gi_wp2_with fail
            refine wpIn_region_plan4 (fun U => U.cell? ⟨w.heap.size + 1 + 1, 0, none⟩ = some (.slice (some ⟨bq, oq, none⟩) mq 1)) (.take 2 (.take 3 (.run 0 (.take 1 (.run 4 (.last 5 .done)))))) (by kernel_rfl) (by kernel_rfl) q9 ?_
            have HM9d := hide (HM9.out.below ((Below.refl _ W9).drew))
            have HKFd := hide (HKF.out.trans (others_below ((Below.refl _ W9).drew)))
            generalize W9.drew = W9d at *
            (refine plan4_take (o := ?_) (v := ?_) (by simp only [List.getElem?_toArray, List.getElem?_cons_succ, List.getElem?_cons_zero]; rfl) (yields_run (by rfl) ?_) ?_; rotate_left; (focus (intro w' hw'; have s0 := hw'; go_simp <;> with_reducible rfl)); (simp only [Act.put, List.setIfInBounds_toArray, List.set_cons_zero, List.set_cons_succ]))
            (refine plan4_take (o := ?_) (v := ?_) (by simp only [List.getElem?_toArray, List.getElem?_cons_succ, List.getElem?_cons_zero]; rfl) (yields_run (by rfl) ?_) ?_; rotate_left; (focus (intro w' hw'; skip; go_simp <;> with_reducible rfl)); (simp only [Act.put, List.setIfInBounds_toArray, List.set_cons_zero, List.set_cons_succ]))
            refine plan4_run (o := ?_) (by simp only [List.getElem?_toArray, List.getElem?_cons_zero]; rfl) ?_
            intro R HR
            go_wp2_with fail
            refine HR.out _ _ q9 ?_
            clear HR
            (refine plan4_take (o := ?_) (v := ?_) (by simp only [List.getElem?_toArray, List.getElem?_cons_succ, List.getElem?_cons_zero]; rfl) (yields_run (by rfl) ?_) ?_; rotate_left; (focus (intro w' hw'; skip; go_simp <;> with_reducible rfl)); (simp only [Act.put, List.setIfInBounds_toArray, List.set_cons_zero, List.set_cons_succ]))
            refine plan4_run (o := ?_) (by simp only [List.getElem?_toArray, List.getElem?_cons_succ, List.getElem?_cons_zero]; rfl) ?_
            intro R HR
            go_wp2_with fail
            have q9' : (W9d.setCell ⟨w.heap.size + 1, 0, none⟩ (.slice (some ⟨bp, op + 32, none⟩) (mp - 1) (cp - 1))).cell? ⟨w.heap.size + 1 + 1, 0, none⟩ = some (.slice (some ⟨bq, oq, none⟩) mq 1) := (cell_apart _ _ (by omega)).trans q9
            refine HR.out _ _ q9' ?_
            clear HR
            refine plan4_last (o := ?_) (by simp only [List.getElem?_toArray, List.getElem?_cons_succ, List.getElem?_cons_zero]; rfl) ?_
            intro R HR
            have fq9 : (W9d.setCell ⟨w.heap.size + 1, 0, none⟩ (.slice (some ⟨bp, op + 32, none⟩) (mp - 1) (cp - 1))).frozen? ⟨w.heap.size + 1 + 1, 0, none⟩ = false := Blk.free (show Blk (W9d.setCell ⟨w.heap.size + 1, 0, none⟩ (.slice (some ⟨bp, op + 32, none⟩) (mp - 1) (cp - 1))) (w.heap.size + 1 + 1) 30 [.slice (some ⟨bq, oq, none⟩) mq 1] from Blk.apart' (show Blk W9d (w.heap.size + 1 + 1) 30 [.slice (some ⟨bq, oq, none⟩) mq 1] from HM9d.out.bq) (by omega) _) 0
            go_wp2_with fail
            refine HR.out _ _ ?_
            clear HR
            refine plan4_doneC ?_
            gi_wp2
            refine ⟨((HKFd.out.trans (KeepsOthers.setCell _ _ _)).trans (KeepsOthers.setCell _ _ _)).from _, ?_⟩
            exact ⟨(m1 + 1) / 2, q' / 2, sx, sy, ps, qs, _, HWY.out, by omega, by omega, HCM.out, HPL.out.1, HPL.out.2, HSS.out.1, HSS.out.2, HM9d.out.paths HP1.out HP2.out⟩
          · have hc2n : ¬ (cq : Int) = 1 := by omega
            have HP2 := hide (show DSrc w (some ⟨bq, oq + 32, none⟩) (mq - 1) (cq - 1) qs from by have := HPD.out.2; rw [if_neg hc2] at this; exact this)
            gi_wp2_with fail
            refine wpIn_region_plan4 (fun U => U.cell? ⟨w.heap.size + 1 + 1, 0, none⟩ = some (.slice (some ⟨bq, oq, none⟩) mq cq)) (.take 2 (.take 3 (.run 0 (.take 1 (.run 4 (.last 5 .done)))))) (by kernel_rfl) (by kernel_rfl) q9 ?_
            have HM9d := hide (HM9.out.below ((Below.refl _ W9).drew))
            have HKFd := hide (HKF.out.trans (others_below ((Below.refl _ W9).drew)))
            generalize W9.drew = W9d at *
            (refine plan4_take (o := ?_) (v := ?_) (by simp only [List.getElem?_toArray, List.getElem?_cons_succ, List.getElem?_cons_zero]; rfl) (yields_run (by rfl) ?_) ?_; rotate_left; (focus (intro w' hw'; have s0 := hw'; go_simp <;> with_reducible rfl)); (simp only [Act.put, List.setIfInBounds_toArray, List.set_cons_zero, List.set_cons_succ]))
            (refine plan4_take (o := ?_) (v := ?_) (by simp only [List.getElem?_toArray, List.getElem?_cons_succ, List.getElem?_cons_zero]; rfl) (yields_run (by rfl) ?_) ?_; rotate_left; (focus (intro w' hw'; skip; go_simp <;> with_reducible rfl)); (simp only [Act.put, List.setIfInBounds_toArray, List.set_cons_zero, List.set_cons_succ]))
            refine plan4_run (o := ?_) (by simp only [List.getElem?_toArray, List.getElem?_cons_zero]; rfl) ?_
            intro R HR
            go_wp2_with fail
            refine HR.out _ _ q9 ?_
            clear HR
            (refine plan4_take (o := ?_) (v := ?_) (by simp only [List.getElem?_toArray, List.getElem?_cons_succ, List.getElem?_cons_zero]; rfl) (yields_run (by rfl) ?_) ?_; rotate_left; (focus (intro w' hw'; skip; go_simp <;> with_reducible rfl)); (simp only [Act.put, List.setIfInBounds_toArray, List.set_cons_zero, List.set_cons_succ]))
            refine plan4_run (o := ?_) (by simp only [List.getElem?_toArray, List.getElem?_cons_succ, List.getElem?_cons_zero]; rfl) ?_
            intro R HR
            go_wp2_with fail
            have q9' : (W9d.setCell ⟨w.heap.size + 1, 0, none⟩ (.slice (some ⟨bp, op + 32, none⟩) (mp - 1) (cp - 1))).cell? ⟨w.heap.size + 1 + 1, 0, none⟩ = some (.slice (some ⟨bq, oq, none⟩) mq cq) := (cell_apart _ _ (by omega)).trans q9
            refine HR.out _ _ q9' ?_
            clear HR
            refine plan4_last (o := ?_) (by simp only [List.getElem?_toArray, List.getElem?_cons_succ, List.getElem?_cons_zero]; rfl) ?_
            intro R HR
            have fq9 : (W9d.setCell ⟨w.heap.size + 1, 0, none⟩ (.slice (some ⟨bp, op + 32, none⟩) (mp - 1) (cp - 1))).frozen? ⟨w.heap.size + 1 + 1, 0, none⟩ = false := Blk.free (show Blk (W9d.setCell ⟨w.heap.size + 1, 0, none⟩ (.slice (some ⟨bp, op + 32, none⟩) (mp - 1) (cp - 1))) (w.heap.size + 1 + 1) 30 [.slice (some ⟨bq, oq, none⟩) mq cq] from Blk.apart' (show Blk W9d (w.heap.size + 1 + 1) 30 [.slice (some ⟨bq, oq, none⟩) mq cq] from HM9d.out.bq) (by omega) _) 0
            go_wp2_with fail
            refine HR.out _ _ ?_
            clear HR
            refine plan4_doneC ?_
            gi_wp2
            refine ⟨((HKFd.out.trans (KeepsOthers.setCell _ _ _)).trans (KeepsOthers.setCell _ _ _)).from _, ?_⟩
            exact ⟨(m1 + 1) / 2, q' / 2, sx, sy, ps, qs, _, HWY.out, by omega, by omega, HCM.out, HPL.out.1, HPL.out.2, HSS.out.1, HSS.out.2, HM9d.out.paths HP1.out HP2.out⟩
  case done =>
    rintro D ys W hD rfl ⟨m1, j, x, y, p, q, D0, h1, h2, h3, h4, h5, h6, h7, h8, h9⟩ hK
    have hF : FcX w R0 W := by
      have h10 : wayL m1 j = [] := by
        have := congrArg List.length h1
        rw [List.length_append] at this
        exact List.length_eq_zero_iff.1 (by omega)
      have h11 : m1 ≤ 1 := by
        by_cases h : m1 ≤ 1
        · exact h
        · rw [wayL_more (by omega)] at h10; cases h10
      rw [commonR_one sha tagN h11] at h4
      exact ⟨p, q, D0, by rw [← h4]; exact h9⟩
    clear h1 h2 h3 h4 h5 h6 h7 h8 h9
    obtain ⟨p1, q1, D1, hM⟩ := hF
    have hz : w.heap.size + 4 < D := by have := HW.out.2.1; omega
    have HM := hide (And.intro hM hK)
    clear hM hK hD
    obtain ⟨Ap, mp, cp, Aq, mq, cq, Ax, cx, Ay, cy⟩ := D1
    obtain ⟨rx, ry⟩ := R0
    simp only at HM
    gi_wp2
    refine wpIn_wide.2 ?_
    have y0 : W.drew.cell? ⟨w.heap.size + 1 + 1 + 1 + 1, 0, none⟩ = some (.slice Ay ry.length cy) := (HM.out.1.bz.cell 0).trans rfl
    have x0 : W.drew.cell? ⟨w.heap.size + 1 + 1 + 1, 0, none⟩ = some (.slice Ax rx.length cx) := (HM.out.1.bx.cell 0).trans rfl
    have fx0 : W.drew.frozen? ⟨w.heap.size + 1 + 1 + 1, 0, none⟩ = false := HM.out.1.bx.free 0
    refine wp_region_plan4 (fun U => U.cell? ⟨w.heap.size + 1 + 1 + 1 + 1, 0, none⟩ = some (.slice Ay ry.length cy)) (.take 1 (.run 0 (.run 2 (.last 3 .done)))) (by kernel_rfl) (by kernel_rfl) y0 ?_
    have HMd := hide (show FcM w ⟨Ap, mp, cp, Aq, mq, cq, Ax, cx, Ay, cy⟩ rx ry p1 q1 W.drew ∧ W.drew.heap[D]? = some (.deferred (some [])) from ⟨HM.out.1.below ((Below.refl _ W).drew), HM.out.2⟩)
    generalize W.drew = Wd at *
    (refine plan4_take (o := ?_) (v := ?_) (by simp only [List.getElem?_toArray, List.getElem?_cons_succ, List.getElem?_cons_zero]; rfl) (yields_run (by rfl) ?_) ?_; rotate_left; (focus (intro w' hw'; have s0 := hw'; go_simp <;> with_reducible rfl)); (simp only [Act.put, List.setIfInBounds_toArray, List.set_cons_zero, List.set_cons_succ]))
    refine plan4_run (o := ?_) (by simp only [List.getElem?_toArray, List.getElem?_cons_zero]; rfl) ?_
    intro R HR
    go_wp2_with fail
    refine HR.out _ _ y0 ?_
    clear HR
    refine plan4_run (o := ?_) (by simp only [List.getElem?_toArray, List.getElem?_cons_succ, List.getElem?_cons_zero]; rfl) ?_
    intro R HR
    go_wp2_with fail
    have y1 : (Wd.setCell ⟨w.heap.size + 1 + 1 + 1, 0, none⟩ (.slice Ax rx.length cx)).cell? ⟨w.heap.size + 1 + 1 + 1 + 1, 0, none⟩ = some (.slice Ay ry.length cy) := (cell_apart _ _ (by omega)).trans y0
    refine HR.out _ _ y1 ?_
    clear HR
    refine plan4_last (o := ?_) (by simp only [List.getElem?_toArray, List.getElem?_cons_succ, List.getElem?_cons_zero]; rfl) ?_
    intro R HR
    have fy1 : (Wd.setCell ⟨w.heap.size + 1 + 1 + 1, 0, none⟩ (.slice Ax rx.length cx)).frozen? ⟨w.heap.size + 1 + 1 + 1 + 1, 0, none⟩ = false := Blk.free (Blk.apart' (show Blk Wd (w.heap.size + 1 + 1 + 1 + 1) 22 [.slice Ay ry.length cy] from HMd.out.1.bz) (by omega) _) 0
    go_wp2_with fail
    refine HR.out _ _ ?_
    clear HR
    refine plan4_done ?_
    have HE := hide (HMd.out.1.texts HMd.out.1.sx HMd.out.1.sy HMd.out.1.lx HMd.out.1.ly)
    have hK2 : ((Wd.setCell ⟨w.heap.size + 3, 0, none⟩ (.slice Ax rx.length cx)).setCell ⟨w.heap.size + 4, 0, none⟩ (.slice Ay ry.length cy)).heap[D]? = some (.deferred (some [])) := ((heap_setCell_other _ ⟨w.heap.size + 4, 0, none⟩ D _ (by simp only; omega)).trans (heap_setCell_other _ ⟨w.heap.size + 3, 0, none⟩ D _ (by simp only; omega))).trans HMd.out.2
    have HKK := hide hK2
    have HEE := hide (fcM_put HE.out hK2 (by omega))
    clear hK2
    gi_wp2
    exact leaves_one _ D _ (.tuple #[.slice Ax rx.length cx, .slice Ay ry.length cy]) HKK.out (results_two rfl _ _ (w.heap.size + 3) (w.heap.size + 4) 22 22 _ _ rfl rfl HEE.out.bx HEE.out.bz Tryd.underlying22 rfl Tryd.underlying22 rfl) ⟨Ax, Ay, cx, cy, rfl, HEE.out.sx, HEE.out.sy, HEE.out.lx.1, HEE.out.lx.2, HEE.out.ly.1, HEE.out.ly.2, HEE.out.bel⟩
  case stop =>
    rintro D _ pre W hD _ ⟨rfl, hF⟩ hK
    obtain ⟨p1, q1, D1, hM⟩ := hF
    have hz : w.heap.size + 4 < D := by have := HW.out.2.1; omega
    have HM := hide (And.intro hM hK)
    clear hM hK hD
    obtain ⟨Ap, mp, cp, Aq, mq, cq, Ax, cx, Ay, cy⟩ := D1
    obtain ⟨rx, ry⟩ := R0
    simp only at HM
    gi_wp2
    refine wpIn_wide.2 ?_
    have y0 : W.drew.cell? ⟨w.heap.size + 1 + 1 + 1 + 1, 0, none⟩ = some (.slice Ay ry.length cy) := (HM.out.1.bz.cell 0).trans rfl
    have x0 : W.drew.cell? ⟨w.heap.size + 1 + 1 + 1, 0, none⟩ = some (.slice Ax rx.length cx) := (HM.out.1.bx.cell 0).trans rfl
    have fx0 : W.drew.frozen? ⟨w.heap.size + 1 + 1 + 1, 0, none⟩ = false := HM.out.1.bx.free 0
    refine wp_region_plan4 (fun U => U.cell? ⟨w.heap.size + 1 + 1 + 1 + 1, 0, none⟩ = some (.slice Ay ry.length cy)) (.take 1 (.run 0 (.run 2 (.last 3 .done)))) (by kernel_rfl) (by kernel_rfl) y0 ?_
    have HMd := hide (show FcM w ⟨Ap, mp, cp, Aq, mq, cq, Ax, cx, Ay, cy⟩ rx ry p1 q1 W.drew ∧ W.drew.heap[D]? = some (.deferred (some [])) from ⟨HM.out.1.below ((Below.refl _ W).drew), HM.out.2⟩)
    generalize W.drew = Wd at *
    (refine plan4_take (o := ?_) (v := ?_) (by simp only [List.getElem?_toArray, List.getElem?_cons_succ, List.getElem?_cons_zero]; rfl) (yields_run (by rfl) ?_) ?_; rotate_left; (focus (intro w' hw'; have s0 := hw'; go_simp <;> with_reducible rfl)); (simp only [Act.put, List.setIfInBounds_toArray, List.set_cons_zero, List.set_cons_succ]))
    refine plan4_run (o := ?_) (by simp only [List.getElem?_toArray, List.getElem?_cons_zero]; rfl) ?_
    intro R HR
    go_wp2_with fail
    refine HR.out _ _ y0 ?_
    clear HR
    refine plan4_run (o := ?_) (by simp only [List.getElem?_toArray, List.getElem?_cons_succ, List.getElem?_cons_zero]; rfl) ?_
    intro R HR
    go_wp2_with fail
    have y1 : (Wd.setCell ⟨w.heap.size + 1 + 1 + 1, 0, none⟩ (.slice Ax rx.length cx)).cell? ⟨w.heap.size + 1 + 1 + 1 + 1, 0, none⟩ = some (.slice Ay ry.length cy) := (cell_apart _ _ (by omega)).trans y0
    refine HR.out _ _ y1 ?_
    clear HR
    refine plan4_last (o := ?_) (by simp only [List.getElem?_toArray, List.getElem?_cons_succ, List.getElem?_cons_zero]; rfl) ?_
    intro R HR
    have fy1 : (Wd.setCell ⟨w.heap.size + 1 + 1 + 1, 0, none⟩ (.slice Ax rx.length cx)).frozen? ⟨w.heap.size + 1 + 1 + 1 + 1, 0, none⟩ = false := Blk.free (Blk.apart' (show Blk Wd (w.heap.size + 1 + 1 + 1 + 1) 22 [.slice Ay ry.length cy] from HMd.out.1.bz) (by omega) _) 0
    go_wp2_with fail
    refine HR.out _ _ ?_
    clear HR
    refine plan4_done ?_
    have HE := hide (HMd.out.1.texts HMd.out.1.sx HMd.out.1.sy HMd.out.1.lx HMd.out.1.ly)
    have hK2 : ((Wd.setCell ⟨w.heap.size + 3, 0, none⟩ (.slice Ax rx.length cx)).setCell ⟨w.heap.size + 4, 0, none⟩ (.slice Ay ry.length cy)).heap[D]? = some (.deferred (some [])) := ((heap_setCell_other _ ⟨w.heap.size + 4, 0, none⟩ D _ (by simp only; omega)).trans (heap_setCell_other _ ⟨w.heap.size + 3, 0, none⟩ D _ (by simp only; omega))).trans HMd.out.2
    have HKK := hide hK2
    have HEE := hide (fcM_put HE.out hK2 (by omega))
    clear hK2
    gi_wp2
    exact leaves_one _ D _ (.tuple #[.slice Ax rx.length cx, .slice Ay ry.length cy]) HKK.out (results_two rfl _ _ (w.heap.size + 3) (w.heap.size + 4) 22 22 _ _ rfl rfl HEE.out.bx HEE.out.bz Tryd.underlying22 rfl Tryd.underlying22 rfl) ⟨Ax, Ay, cx, cy, rfl, HEE.out.sx, HEE.out.sy, HEE.out.lx.1, HEE.out.lx.2, HEE.out.ly.1, HEE.out.ly.2, HEE.out.bel⟩
end Go.Proofs.YthjfeodclphgaaaDoor
