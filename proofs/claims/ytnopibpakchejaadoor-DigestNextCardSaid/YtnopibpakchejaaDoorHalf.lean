/- The first part of a list; the program's and the reference's. -/
import Derived.Test.YtnopibpakchejaaDoorNode
import Derived.Test.YtnopibpakchejaaDoorShelf
namespace Go.Proofs.YtnopibpakchejaaDoor
open Go.RowKit

/-- The greatest power of 2 that is less than n. -/
def hp (n : Nat) : Nat := 2 ^ (n - 1).log2
theorem hp_lt {n : Nat} (h : 2 ≤ n) : hp n < n := by
  have := Nat.log2_self_le (n := n - 1) (by omega)
  unfold hp; omega
theorem hp_pos (n : Nat) : 1 ≤ hp n := Nat.two_pow_pos _
theorem lt_hp {n : Nat} (_h : 2 ≤ n) : n ≤ 2 * hp n := by
  have := Nat.lt_log2_self (n := n - 1)
  unfold hp
  rw [Nat.pow_succ] at this
  omega
theorem bitLen_log (n : Nat) (h : 1 ≤ n) (h' : n < 2 ^ 63) : Lib.bitLen n = n.log2 + 1 := by
  have key : ∀ (f x : Nat), 1 ≤ x → x < 2 ^ f → Lib.bitLenAux f x = x.log2 + 1 := by
    intro f
    induction f with
    | zero => intro x h1 h2; omega
    | succ f ih =>
      intro x h1 h2
      unfold Lib.bitLenAux
      rw [if_neg (by omega)]
      by_cases hx : x = 1
      · subst hx
        have : ∀ g, Lib.bitLenAux g 0 = 0 := by intro g; cases g <;> simp [Lib.bitLenAux]
        rw [this]; rfl
      · rw [ih (x / 2) (by omega) (by rw [Nat.pow_succ] at h2; omega), Nat.log2_def x, if_pos (by omega)]
        omega
  exact key 64 n h (by omega)

theorem hp_le_of {n k : Nat} (h : n ≤ 2 ^ k) (h2 : 2 ≤ n) : (n - 1).log2 < k := by
  have := Nat.log2_self_le (n := n - 1) (by omega)
  have h3 : 2 ^ (n - 1).log2 < 2 ^ k := by omega
  exact (Nat.pow_lt_pow_iff_right (by omega)).1 h3

set_option maxHeartbeats 400000 in
theorem firstPart_any (n : Nat) (w : World) (h : 2 ≤ n) (h' : n ≤ 1099511627776) :
    Calls Tryd.prog 36 #[.int .i64 (n : Nat)] w fun e w' => e = .returned (.int .i64 (hp n : Nat)) ∧ w = w' := by
  have hl : (n - 1).log2 < 40 := hp_le_of (by omega) h
  have HL := hide (bitLen_log (n - 1) (by omega) (by omega))
  have HE := hide (show ((n : Int) - 1).toNat = n - 1 by omega)
  go_enter Tryd.func36, Tryd.ntmps36
  go_wp2_with (go_at_call 53; refine (Tryd.bits_Len _ _ (by omega) (by omega)).mono ?_; rintro e w' ⟨rfl, rfl⟩; rw [HE.out, HL.out])
  go_ret
  refine ⟨ret_num ?_, rfl⟩
  have hk : ((2 : Int) ^ (n - 1).log2) = ((hp n : Nat) : Int) := by unfold hp; simp
  have hlt := hp_lt h
  rw [hk]
  unfold wrap64; omega
attribute [irreducible] hp
end Go.Proofs.YtnopibpakchejaaDoor
