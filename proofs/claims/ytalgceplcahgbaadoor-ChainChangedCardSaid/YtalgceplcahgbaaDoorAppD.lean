/- append of digests; slices of digests. -/
import Derived.Test.YtalgceplcahgbaaDoorApp
namespace Go.Proofs.YtalgceplcahgbaaDoor
open Go.RowKit

theorem DSrc.none' {w : World} {A : Option Addr} {m c : Nat} {l : List (List UInt8)} (h : DSrc w A m c l) (hA : A = none) : m = 0 ∧ c = 0 := by
  have := h.nil hA
  have := h.le
  omega
theorem DSrc.news {w : World} {A : Option Addr} {m c : Nat} {l : List (List UInt8)} (h : DSrc w A m c l) : ∀ ad, A = some ad → ∀ j u, (bc l.flatten)[j]? = some u → w.cell? (ad.add j) = some u := by
  intro ad ea j u hu
  have hj : j < l.flatten.length := by rw [← bc_len l.flatten]; exact (List.getElem?_eq_some_iff.1 hu).1
  have hl : 1 ≤ l.length := by
    rw [h.d32.flat] at hj
    omega
  obtain ⟨b, o, e', hB⟩ := h.ds.at h.d32 hl
  rw [ea] at e'
  cases e'
  rw [Addr.add_mid, hB j hj, ← hu, bc_get hj]
theorem DSrc.take {w : World} {A : Option Addr} {m c : Nat} {l : List (List UInt8)} (h : DSrc w A m c l) (k : Nat) (hk : k ≤ m) : DSrc w A k c (l.take k) := by
  refine ⟨by rw [List.length_take, ← h.len]; omega, ?_, h.d32.take _, Nat.le_trans hk h.le, h.top, h.nil⟩
  by_cases h0 : 1 ≤ l.length
  · obtain ⟨b, o, e', hB⟩ := h.ds.at h.d32 h0
    rw [e']
    exact Ds.of (bs_take h.d32 hB k)
  · have : l = [] := List.length_eq_zero_iff.1 (by omega)
    subst this
    simpa using h.ds
/-- A digest in a block of its own, as a list. -/
theorem DSrc.one_of {w : World} {X T : Nat} {d : List UInt8} (h : Blk w X T (bc d)) (hd : d.length = 32) : DSrc w (some ⟨X, 0, none⟩) 1 1 [d] :=
  ⟨rfl, Ds.of (by simpa using Bs.blk h), D32.one hd, Nat.le_refl _, by decide, fun h => by cases h⟩

/-- 'append' of digests. -/
theorem wp_app26 {w : World} {o : Oper} {a : Act} {K : Act → World → Prop} {Q : Exit → Act → World → Prop} (s x : Operand) (ho : o.op = .call { callee := .builtin .append, args := #[s, x], argTypes := #[30, 30] })
    (base : Nat) (v : Value) (n : Nat) (xs : List (List UInt8)) (hs : a.eval s = v) (hown : w.ownsRow base 26 32 v n (bc xs.flatten)) (A : Option Addr) (m c : Nat) (l : List (List UInt8)) (hx : a.eval x = .slice A m c) (hS : DSrc w A m c l)
    (hb : n + m ≤ 1000000) (hbase : base ≤ w.heap.size) (N : Nat) (L : List (List UInt8)) (hN : N = n + m) (hL : L = xs ++ l)
    (h : ∀ v' w', w'.ownsRow base 26 32 v' N (bc L.flatten) → w.grownBy w' v.ownBlock → K (a.put o.dst v') w') : o.wp Tryd.prog a w K Q := by
  obtain ⟨i0, hi⟩ := hinfo26
  refine wp_app s x 30 ho base 26 i0 _ 32 32 Tryd.underlying30 hi rfl (by decide) v n (bc xs.flatten) hs hown A m c (bc l.flatten) hx hS.none' (by rw [bc_len, hS.d32.flat, ← hS.len]; omega) hS.news (bc_one _) (by unfold maxLen; omega) (by omega) hbase ?_
  intro v' w' h2 h3
  rw [← bc_append, ← List.flatten_append, ← hL, ← hN] at h2
  exact h v' w' h2 h3

/-- A list's beginning. -/
theorem yields_upto {ops : Array Oper} {S : World → Prop} {o : Oper} {a : Act} (hw : Region.wanted o (yielded ops a.tmps) = true) (x y : Operand) (ho : o.op = .slice 30 x none (some y) none) (A : Option Addr) (m c : Nat) (h : Int) (k : Nat) (hx : a.eval x = .slice A m c) (hy : a.eval y = .int .i64 h)
    (hk : h = (k : Int)) (h1 : k ≤ c) (hA : A = none → c = 0) : YieldsIf Tryd.prog ops S o (.slice A k c) a := by
  subst hk
  refine .inl ⟨hw, fun w _ => ?_⟩
  unfold execOp
  have i1 : (0 : Int) ≤ (k : Int) := by omega
  have i2 : (k : Int) ≤ (c : Int) := by omega
  simp only [ho, hx, Option.map_none, Option.map_some, hy]
  cases A with
  | none =>
    have h0 : c = 0 := hA rfl
    subst h0
    have h2 : k = 0 := by omega
    subst h2
    go_simp
  | some ad =>
    go_simp

theorem run_neqD {o : Oper} {a : Act} (x y : Operand) (T : TypeId) (ho : o.op = .binOp .neq 26 x y T) (X Y : List UInt8) (hx : a.eval x = dv X) (hy : a.eval y = dv Y) (h1 : X.length = 32) (h2 : Y.length = 32) (v : Bool) (hv : v = !(X == Y)) (w : World) : (execOp a.eval o).run Tryd.prog w = .ok (.value (.bool v)) w := by
  unfold execOp
  simp only [ho, hx, hy, Sem.run_bind, run_eqGuard_agg w .neq 26 x y _ _ Tryd.eqGuardType26, Result.andThen_ok, neq_dv X Y h1 h2 w, Sem.run_pure, hv]
/-- Two digests that are one are not unequal. -/
theorem wpList_neqD {ops : Array Oper} {Q : Exit → Act → World → Prop} {o : Oper} {rest : List Oper} {a : Act} {w : World} (hw : Region.wanted o (yielded ops a.tmps) = true) (x y : Operand) (T : TypeId) (ho : o.op = .binOp .neq 26 x y T) (X : List UInt8) (hx : a.eval x = dv X) (hy : a.eval y = dv X)
    (h1 : X.length = 32) (h : wpList Tryd.prog ops Q rest (a.put o.dst (.bool false)) w) : wpList Tryd.prog ops Q (o :: rest) a w :=
  wpList_of_wp hw (by unfold Oper.wp; rw [run_neqD x y T ho X X hx hy h1 h1 false (by simp) w]; exact h)
/-- A cut behind a piece of code. -/
theorem wp_cutD {P : Program} {c : Code} {Q : Exit → Act → World → Prop} {a : Act} {w : World} (R : Act → World → Prop) (h : c.wp P (Exit.then R Q) a w) (hr : ∀ a w, R a w → Q .normal a w) : c.wp P Q a w :=
  Code.wp_mono (fun e a w h => by cases e <;> first | exact hr _ _ h | exact h) h
end Go.Proofs.YtalgceplcahgbaaDoor
