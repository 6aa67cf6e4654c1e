/- append of digests, and where its answer lies. -/
import Derived.Test.YtalgceplcahgbaaDoorAppD
import Derived.Deep.DeepAppendRoom
namespace Go.Proofs.YtalgceplcahgbaaDoor
open Go.RowKit

theorem wp_app26f {w : World} {o : Oper} {a : Act} {K : Act → World → Prop} {Q : Exit → Act → World → Prop} (s x : Operand) (ho : o.op = .call { callee := .builtin .append, args := #[s, x], argTypes := #[30, 30] })
    (base g n cap : Nat) (xs : List (List UInt8)) (hs : a.eval s = .slice (some ⟨g, 0, none⟩) n cap) (hown : w.ownsRow base 26 32 (.slice (some ⟨g, 0, none⟩) n cap) n (bc xs.flatten)) (A : Option Addr) (m c : Nat) (l : List (List UInt8)) (hx : a.eval x = .slice A m c) (hS : DSrc w A m c l)
    (hb : n + m ≤ 1000000) (hbase : base ≤ w.heap.size) (N : Nat) (L : List (List UInt8)) (hN : N = n + m) (hL : L = xs ++ l)
    (h : ∀ g' cap' w', w'.ownsRow base 26 32 (.slice (some ⟨g', 0, none⟩) N cap') N (bc L.flatten) → w.grownBy w' (some g) → (g' = g ∨ g' = w.heap.size) → K (a.put o.dst (.slice (some ⟨g', 0, none⟩) N cap')) w') : o.wp Tryd.prog a w K Q := by
  obtain ⟨i0, hi⟩ := hinfo26
  subst hN
  subst hL
  cases A with
  | none =>
    obtain ⟨rfl, rfl⟩ := hS.none' rfl
    have hl : l = [] := List.length_eq_zero_iff.1 hS.len.symm
    subst hl
    have hr := run_append_owned_none (P := Tryd.prog) (w := w) base 30 o.type 26 i0 32 Tryd.underlying30 hi.1 _ n (bc xs.flatten) hown
    have h' := h g cap w (by simpa using hown) ⟨rfl, rfl, rfl, Nat.le_refl _, fun _ _ _ => rfl⟩ (.inl rfl)
    unfold Oper.wp execOp
    simp only [ho, resolve, invoke, builtin, Sem.run_bind, Sem.run_pure, Result.andThen_ok, List.map_toArray, List.map_cons, List.map_nil, hs, hx, hr]
    exact h'
  | some ad =>
    have hl : (bc l.flatten).length = m * 32 := by rw [bc_len, hS.d32.flat, ← hS.len]; omega
    by_cases hroom : n + m ≤ cap
    · refine wp_append_own_spare w s x 30 ho base 26 i0 32 Tryd.underlying30 hi.1 hi.2.2.1 g n cap (bc xs.flatten) hs hown ad m c (bc l.flatten) hx hl (hS.news ad rfl) (bc_one _) hroom ?_
      intro w' h2 h3
      rw [← bc_append, ← List.flatten_append] at h2
      exact h g cap w' h2 h3 (.inl rfl)
    · obtain ⟨v', w', hr, h2, h3, _⟩ := run_append_own (P := Tryd.prog) w base 30 o.type 26 i0 _ 32 32 Tryd.underlying30 hi.1 hi.2.1 hi.2.2.1 hi.2.2.2 rfl (by decide) _ n (bc xs.flatten) hown ad m c (bc l.flatten) hl (hS.news ad rfl) (bc_one _) (by unfold maxLen; omega) (by omega) hbase
      have hi3 := hi.2.2.1
      have hi4 := hi.2.2.2
      have hr2 := run_append_grow (P := Tryd.prog) w 30 o.type 26 i0 _ Tryd.underlying30 hi.1 hi.2.1 ⟨g, 0, none⟩ n cap (bc xs.flatten) (by rw [hi3]; exact hown.1) (hown.cells (g := g) rfl) ad m c (bc l.flatten) (by rw [hi3]; exact hl) (hS.news ad rfl) (by omega) (by omega) (growslice_fits (by omega) (by rw [hi4]; omega))
      have e := hr.symm.trans hr2
      injection e with e1 e2
      subst e1
      rw [← bc_append, ← List.flatten_append] at h2
      have h' := h _ _ w' h2 h3 (.inr rfl)
      unfold Oper.wp execOp
      simp only [ho, resolve, invoke, builtin, Sem.run_bind, Sem.run_pure, Result.andThen_ok, List.map_toArray, List.map_cons, List.map_nil, hs, hx, hr]
      exact h'

end Go.Proofs.YtalgceplcahgbaaDoor
