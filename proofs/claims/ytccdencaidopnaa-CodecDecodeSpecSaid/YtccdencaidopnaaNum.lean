/- Numerals to the base 128: how many digits they have, and the unsigned form of an integer. Plain mathematics. -/
import Derived.Lib.BitFns
namespace Go.Proofs.Ytccdencaidopnaa

def uns (n : Int) : Nat := if n < 0 then 2 * (-(n + 1)).toNat + 1 else 2 * n.toNat

def digs : Nat → Nat → List UInt8
  | 0, u => [UInt8.ofNat u]
  | f + 1, u => if u < 128 then [UInt8.ofNat u] else UInt8.ofNat (u % 128 + 128) :: digs f (u / 128)

def numeral (u : Nat) : List UInt8 := digs 9 u

theorem uns_lt {n : Int} (h0 : -9223372036854775808 ≤ n) (h1 : n ≤ 9223372036854775807) : uns n < 18446744073709551616 := by
  unfold uns; split <;> omega

theorem digs_len (f : Nat) : ∀ u, u < 128 ^ (f + 1) → 1 ≤ (digs f u).length ∧ (digs f u).length ≤ f + 1 ∧ u < 128 ^ (digs f u).length ∧ ((digs f u).length = 1 ∨ 128 ^ ((digs f u).length - 1) ≤ u) := by
  induction f with
  | zero => intro u h; simp [digs] at *; omega
  | succ f ih =>
    intro u h
    by_cases hu : u < 128
    · simp [digs, hu]
    · have h2 : u / 128 < 128 ^ (f + 1) := by rw [Nat.div_lt_iff_lt_mul (by omega)]; rw [Nat.pow_succ] at h; exact h
      obtain ⟨a, b, c, d⟩ := ih _ h2
      simp only [digs, if_neg hu, List.length_cons]
      refine ⟨by omega, by omega, ?_, .inr ?_⟩
      · rw [Nat.pow_succ]
        exact (Nat.div_lt_iff_lt_mul (by omega)).1 c
      · rcases d with d | d
        · rw [d]; simp; omega
        · obtain ⟨m, hm⟩ : ∃ m, (digs f (u / 128)).length = m + 1 := ⟨(digs f (u / 128)).length - 1, by omega⟩
          rw [hm] at d ⊢
          simp only [Nat.add_sub_cancel] at d ⊢
          rw [Nat.pow_succ]
          exact (Nat.le_div_iff_mul_le (by omega)).1 d

theorem bitLenAux_le (f : Nat) : ∀ (m x : Nat), x < 2 ^ f → (Lib.bitLenAux f x ≤ m ↔ x < 2 ^ m) := by
  induction f with
  | zero => intro m x h; simp [Lib.bitLenAux] at *; subst h; exact Nat.pow_pos (by omega)
  | succ f ih =>
    intro m x h
    by_cases hx : x = 0
    · subst hx; simp [Lib.bitLenAux, Nat.pow_pos]
    · simp only [Lib.bitLenAux, if_neg hx]
      cases m with
      | zero => simp; omega
      | succ m =>
        have h2 : x / 2 < 2 ^ f := by rw [Nat.div_lt_iff_lt_mul (by omega)]; rw [Nat.pow_succ] at h; exact h
        have := ih m (x / 2) h2
        rw [Nat.div_lt_iff_lt_mul (by omega)] at this
        rw [Nat.pow_succ, ← this]
        omega

theorem numeral_len {u : Nat} (h : u < 18446744073709551616) : (numeral u).length = max 1 ((Lib.bitLen u + 6) / 7) ∧ (numeral u).length ≤ 10 ∧ 1 ≤ (numeral u).length := by
  obtain ⟨a, b, c, d⟩ := digs_len 9 u (by omega)
  have hb := fun m => bitLenAux_le 64 m u (by omega)
  unfold numeral Lib.bitLen
  refine ⟨?_, by omega, a⟩
  generalize digs 9 u = D at *
  generalize Lib.bitLenAux 64 u = bl at *
  have h1 : bl ≤ 7 * D.length := by rw [hb, Nat.pow_mul]; exact c
  rcases d with d | d
  · omega
  · have h2 : ¬ bl ≤ 7 * (D.length - 1) := by rw [hb, Nat.pow_mul]; exact Nat.not_lt.2 d
    omega

theorem bitLen_le {u : Nat} (h : u < 18446744073709551616) : Lib.bitLen u ≤ 64 := by
  unfold Lib.bitLen
  rw [bitLenAux_le 64 64 u (by omega)]
  omega
end Go.Proofs.Ytccdencaidopnaa
