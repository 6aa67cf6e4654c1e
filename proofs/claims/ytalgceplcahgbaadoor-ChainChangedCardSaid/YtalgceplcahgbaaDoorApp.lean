/- append onto a row of the call's own, whatever slice comes behind. -/
import Derived.Test.YtalgceplcahgbaaDoorEql
import Derived.Test.YtalgceplcahgbaaDoorPlan
import Derived.Laws.OwnMore
namespace Go.Proofs.YtalgceplcahgbaaDoor
open Go.RowKit

theorem wpList_of_wp {P : Program} {ops : Array Oper} {Q : Exit → Act → World → Prop} {o : Oper} {rest : List Oper} {a : Act} {w : World} (hw : Region.wanted o (yielded ops a.tmps) = true) (h : o.wp P a w (wpList P ops Q rest) Q) : wpList P ops Q (o :: rest) a w := by
  unfold wpList
  rw [if_pos hw]
  exact .inl h
theorem step_of_wp {P : Program} {ops : Array Oper} {Q : Exit → Act → World → Prop} {K : Act → World → Prop} {E : Prop} {o : Oper} {a : Act} {w : World} (hw : Region.wanted o (yielded ops a.tmps) = true) (h : o.wp P a w K Q) :
    if Region.wanted o (yielded ops a.tmps) = true then Oper.wp P o a w K Q else E := by
  rw [if_pos hw]
  exact h

section
variable {P : Program} {w : World} {o : Oper} {a : Act} {K : Act → World → Prop} {Q : Exit → Act → World → Prop}
/-- What 'append' leaves: the row with the news behind it. -/
theorem wp_app (s x : Operand) (t : TypeId) (ho : o.op = .call { callee := .builtin .append, args := #[s, x], argTypes := #[t, t] })
    (base : Nat) (e : TypeId) (i : TypeInfo) (z : Value) (size bytes : Nat) (ht : P.underlying t = some (.slice e)) (hi : P.info? e = some i ∧ i.zero = some z ∧ i.size = size ∧ i.bytes = bytes) (hzs : z.cells.size = size) (hsz : 0 < size)
    (v : Value) (n : Nat) (xs : List Value) (hs : a.eval s = v) (hown : w.ownsRow base e size v n xs)
    (A : Option Addr) (m c : Nat) (news : List Value) (hx : a.eval x = .slice A m c) (hA : A = none → m = 0 ∧ c = 0) (hl : news.length = m * size) (hnews : ∀ ad, A = some ad → ∀ j u, news[j]? = some u → w.cell? (ad.add j) = some u) (h1 : ∀ u ∈ news, u.oneCell' = true)
    (h63 : n + m ≤ maxLen) (hbytes : (n + m) * bytes ≤ 140737488355328) (hbase : base ≤ w.heap.size)
    (h : ∀ v' w', w'.ownsRow base e size v' (n + m) (xs ++ news) → w.grownBy w' v.ownBlock → K (a.put o.dst v') w') : o.wp P a w K Q := by
  cases A with
  | none =>
    obtain ⟨rfl, rfl⟩ := hA rfl
    have hn : news = [] := List.length_eq_zero_iff.1 (by simpa using hl)
    subst hn
    have hr := run_append_owned_none (P := P) (w := w) base t o.type e i size ht hi.1 v n xs hown
    have h' := h v w (by simpa using hown) ⟨rfl, rfl, rfl, Nat.le_refl _, fun _ _ _ => rfl⟩
    unfold Oper.wp execOp
    simp only [ho, resolve, invoke, builtin, Sem.run_bind, Sem.run_pure, Result.andThen_ok, List.map_toArray, List.map_cons, List.map_nil, hs, hx, hr]
    exact h'
  | some ad => exact wp_append_own w s x t ho base e i z size bytes ht hi.1 hi.2.1 hi.2.2.1 hi.2.2.2 hzs hsz v n xs hs hown ad m c news hx hl (hnews ad rfl) h1 h63 hbytes hbase fun v' w' h2 h3 _ => h v' w' h2 h3
end

theorem hinfo5 : ∃ i0, Tryd.prog.info? 5 = some i0 ∧ i0.zero = some (Value.int .u8 0) ∧ i0.size = 1 ∧ i0.bytes = 1 := by
  obtain ⟨i0, hi, hz0, hz1, hz2⟩ := info_parts Tryd.info5
  exact ⟨i0, hi, hz0, hz1, hz2⟩
theorem hinfo26 : ∃ i0, Tryd.prog.info? 26 = some i0 ∧ i0.zero = some (Value.agg (List.replicate 32 (Value.int .u8 0)).toArray) ∧ i0.size = 32 ∧ i0.bytes = 32 := by
  obtain ⟨i0, hi, hz0, hz1, hz2⟩ := info_parts Tryd.info26
  exact ⟨i0, hi, hz0, hz1, hz2⟩

/-- Bytes that a slice names; nil is empty. -/
structure Src (w : World) (A : Option Addr) (m c : Nat) (l : List UInt8) : Prop where
  len : m = l.length
  sb : Sb w A l
  nil : A = none → c = 0
theorem Src.below {w w' : World} {A : Option Addr} {m c : Nat} {l : List UInt8} (h : Src w A m c l) (hb : Below w.heap.size w w') : Src w' A m c l := ⟨h.len, h.sb.below hb, h.nil⟩
theorem Src.of {w : World} {b o c : Nat} {l : List UInt8} (h : Bs w b o l) : Src w (some ⟨b, o, none⟩) l.length c l := ⟨rfl, Sb.of h, fun h => by cases h⟩
theorem Src.none' {w : World} {A : Option Addr} {m c : Nat} {l : List UInt8} (h : Src w A m c l) (hA : A = none) : m = 0 ∧ c = 0 := by
  refine ⟨?_, h.nil hA⟩
  rw [h.len]
  by_cases hl : l = []
  · rw [hl]; rfl
  · obtain ⟨b, o, e, _⟩ := h.sb hl
    rw [hA] at e; cases e
theorem Src.news {w : World} {A : Option Addr} {m c : Nat} {l : List UInt8} (h : Src w A m c l) : ∀ ad, A = some ad → ∀ j u, (bc l)[j]? = some u → w.cell? (ad.add j) = some u := by
  intro ad ea j u hu
  have hj : j < l.length := by rw [← bc_len l]; exact (List.getElem?_eq_some_iff.1 hu).1
  obtain ⟨b, o, e', hB⟩ := h.sb (by intro e; rw [e] at hj; simp at hj)
  rw [ea] at e'
  cases e'
  rw [Addr.add_mid, hB j hj, ← hu, bc_get hj]

/-- 'append' of bytes. -/
theorem wp_app5 {w : World} {o : Oper} {a : Act} {K : Act → World → Prop} {Q : Exit → Act → World → Prop} (s x : Operand) (ho : o.op = .call { callee := .builtin .append, args := #[s, x], argTypes := #[22, 22] })
    (base : Nat) (v : Value) (n : Nat) (xs : List UInt8) (hs : a.eval s = v) (hown : w.ownsRow base 5 1 v n (bc xs)) (A : Option Addr) (m c : Nat) (l : List UInt8) (hx : a.eval x = .slice A m c) (hS : Src w A m c l)
    (hb : n + m ≤ 1000000000) (hbase : base ≤ w.heap.size) (N : Nat) (L : List UInt8) (hN : N = n + m) (hL : L = xs ++ l)
    (h : ∀ v' w', w'.ownsRow base 5 1 v' N (bc L) → w.grownBy w' v.ownBlock → K (a.put o.dst v') w') : o.wp Tryd.prog a w K Q := by
  obtain ⟨i0, hi⟩ := hinfo5
  refine wp_app s x 22 ho base 5 i0 _ 1 1 Tryd.underlying22 hi rfl (by decide) v n (bc xs) hs hown A m c (bc l) hx hS.none' (by rw [bc_len, hS.len, Nat.mul_one]) hS.news (bc_one l) (by unfold maxLen; omega) (by omega) hbase ?_
  intro v' w' h2 h3
  rw [← bc_append, ← hL, ← hN] at h2
  exact h v' w' h2 h3
/-- A row of bytes that is not empty. -/
def Row5 (w : World) (base : Nat) (v : Value) (n : Nat) (l : List UInt8) : Prop := ∃ g cap, v = .slice (some ⟨g, 0, none⟩) n cap ∧ w.ownsRow base 5 1 (.slice (some ⟨g, 0, none⟩) n cap) n (bc l) ∧ Bs w g 0 l ∧ base ≤ g ∧ n ≤ cap ∧ cap ≤ 9223372036854775807
theorem own_form {w : World} {base n : Nat} {v : Value} {l : List UInt8} (h : w.ownsRow base 5 1 v n (bc l)) (hn : 0 < n) : Row5 w base v n l := by
  rcases h.2 with ⟨rfl, hn⟩ | ⟨g, cap, cur, rfl, hg, _, hc, hm, _⟩
  · omega
  · exact ⟨g, cap, rfl, h, row_bytes h, hg, hc, by unfold maxLen at hm; omega⟩
theorem own_empty (w : World) (base T : Nat) (e size : Nat) (hT : T = e) (hb : base ≤ w.heap.size) : (w.alloc (.cells #[] T)).ownsRow base e size (.slice (some ⟨w.heap.size, 0, none⟩) 0 0) 0 [] := by
  subst hT
  exact ⟨by simp, .inr ⟨w.heap.size, 0, #[], rfl, hb, heap_alloc_new w _, Nat.le_refl _, by decide, by simp, by simp⟩⟩

theorem yields_eql {ops : Array Oper} {S : World → Prop} {o : Oper} {a : Act} (hw : Region.wanted o (yielded ops a.tmps) = true) (x y : Operand) (T : TypeId) (ho : o.op = .binOp .eql 26 x y T) (X Y : List UInt8) (hx : a.eval x = dv X) (hy : a.eval y = dv Y)
    (h1 : X.length = 32) (h2 : Y.length = 32) (v : Bool) (hv : v = (X == Y)) : YieldsIf Tryd.prog ops S o (.bool v) a := by
  refine .inl ⟨hw, fun w _ => ?_⟩
  unfold execOp
  simp only [ho, hx, hy, Sem.run_bind, run_eqGuard_agg w .eql 26 x y _ _ Tryd.eqGuardType26, Result.andThen_ok, eql_dv X Y h1 h2 w, Sem.run_pure, hv]
theorem yields_neq {ops : Array Oper} {S : World → Prop} {o : Oper} {a : Act} (hw : Region.wanted o (yielded ops a.tmps) = true) (x y : Operand) (T : TypeId) (ho : o.op = .binOp .neq 26 x y T) (X Y : List UInt8) (hx : a.eval x = dv X) (hy : a.eval y = dv Y)
    (h1 : X.length = 32) (h2 : Y.length = 32) (v : Bool) (hv : v = !(X == Y)) : YieldsIf Tryd.prog ops S o (.bool v) a := by
  refine .inl ⟨hw, fun w _ => ?_⟩
  unfold execOp
  simp only [ho, hx, hy, Sem.run_bind, run_eqGuard_agg w .neq 26 x y _ _ Tryd.eqGuardType26, Result.andThen_ok, neq_dv X Y h1 h2 w, Sem.run_pure, hv]

/-- What every walk of a law ends in. -/
abbrev LawPost (w : World) (e : Ending) (w' : World) : Prop := e = .returned (.bool true) ∧ Below w.heap.size w w'

/-- The block of a digest at X, and what is new. -/
abbrev RS (w : World) (X : Nat) (D : List UInt8) (W : World) : Prop := Hid (Blk W X 26 (bc D) ∧ Below w.heap.size w W ∧ w.heap.size ≤ X)
theorem RS.keep {w W W' : World} {X : Nat} {D : List UInt8} (hb : Below W.heap.size W W') (h : RS w X D W) : RS w X D W' := hide ⟨h.1.below hb h.1.lt, below_one h.2.1 hb, h.2.2⟩
theorem RS.grow {w W W' : World} {X e size n : Nat} {D : List UInt8} {v : Value} {xs : List Value} (hg : W.grownBy W' v.ownBlock) (ho : W.ownsRow (X + 1) e size v n xs) (h : RS w X D W) : RS w X D W' := by
  have hr : ∀ k, v.ownBlock = some k → X + 1 ≤ k := fun k hk => (ho.lt k hk).1
  exact hide ⟨(hg.block X h.1.lt (by intro e; have := hr X e.symm; omega)).trans h.1, h.2.1.grown hg h.2.1.size fun k hk => by have := hr k hk; have := h.2.2; omega, h.2.2⟩
theorem RS.bel {w W : World} {X : Nat} {D : List UInt8} (h : RS w X D W) : Below w.heap.size w W := h.2.1
theorem RS.size {w W : World} {X : Nat} {D : List UInt8} (h : RS w X D W) : X + 1 ≤ W.heap.size := h.1.lt
theorem RS.src {w W : World} {X : Nat} {D : List UInt8} (h : RS w X D W) (hD : D.length = 32) : Src W (some ⟨X, 0, none⟩) 32 32 D := ⟨hD.symm, Sb.of h.1.bs, fun h => by cases h⟩
end Go.Proofs.YtalgceplcahgbaaDoor
