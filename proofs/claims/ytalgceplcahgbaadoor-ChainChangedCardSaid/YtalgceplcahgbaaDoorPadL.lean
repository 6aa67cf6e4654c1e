/- The padded end of a text, as lists. -/
import Derived.Test.YtalgceplcahgbaaDoorOut
namespace Go.Proofs.YtalgceplcahgbaaDoor

def pend (r : Nat) : Nat := 64 * ((r + 8) / 64 + 1)
theorem tail8_len (rest : List UInt8) (n : Nat) : (tail8 rest n).length = pend rest.length := by
  unfold tail8 zeros pend
  simp [bits8_len]; omega

/-- The block: all but the last 8 - k bytes of the length. -/
def pl (rest : List UInt8) (n k : Nat) : List UInt8 := (List.range 128).map fun j => if pend rest.length - 8 ≤ j ∧ j < pend rest.length - k then 0 else (tail8 rest n).getD j 0
theorem pl_len (rest : List UInt8) (n k : Nat) : (pl rest n k).length = 128 := by simp [pl]

theorem tail8_getD (rest : List UInt8) (n j : Nat) (h : rest.length < 64) : (tail8 rest n).getD j 0 =
    if j < rest.length then rest.getD j 0 else if j = rest.length then 0x80 else if j < pend rest.length - 8 then 0 else (bits8 n).getD (j - (pend rest.length - 8)) 0 := by
  unfold tail8
  have hz : rest.length + 1 + (zeros rest.length).length = pend rest.length - 8 := by unfold zeros pend; simp; omega
  have hzz : ∀ i, (zeros rest.length).getD i 0 = 0 := by intro i; unfold zeros; simp [List.getD_eq_getElem?_getD, List.getElem?_replicate]; split <;> rfl
  simp only [List.getD_eq_getElem?_getD] at hzz ⊢
  by_cases h1 : j < rest.length
  · rw [if_pos h1, List.getElem?_append_left h1]
  · rw [if_neg h1, List.getElem?_append_right (by omega)]
    by_cases h2 : j = rest.length
    · rw [if_pos h2, h2]; simp
    · rw [if_neg h2]
      obtain ⟨i, rfl⟩ : ∃ i, j = rest.length + 1 + i := ⟨j - rest.length - 1, by omega⟩
      rw [show rest.length + 1 + i - rest.length = i + 1 by omega, List.getElem?_cons_succ]
      by_cases h3 : rest.length + 1 + i < pend rest.length - 8
      · rw [if_pos h3, List.getElem?_append_left (by omega)]
        exact hzz i
      · rw [if_neg h3, List.getElem?_append_right (by omega)]
        congr 2
        omega

theorem bits8_get (n i : Nat) (h : i < 8) (hn : n ≤ 1000000000) : ((bits8 n).getD (7 - i) 0).toNat = 8 * n / 2 ^ (8 * i) % 256 := by
  unfold bits8
  rw [List.getD_eq_getElem?_getD, List.getElem?_map, List.getElem?_range (by omega)]
  simp only [Option.map_some, Option.getD_some, UInt8.toNat_ofNat']
  rw [Nat.mod_eq_of_lt (show 8 * n < 18446744073709551616 by omega), show 7 - (7 - i) = i by omega]

theorem pl_get (rest : List UInt8) (n k j : Nat) (h : j < 128) : (pl rest n k)[j]? = some (if pend rest.length - 8 ≤ j ∧ j < pend rest.length - k then 0 else (tail8 rest n).getD j 0) := by
  simp [pl, h]

/-- Where the next byte goes, and what it is. -/
theorem pl_set (rest : List UInt8) (n k : Nat) (h : rest.length < 64) (hk : k < 8) : (pl rest n k).set (pend rest.length - 1 - k) ((bits8 n).getD (7 - k) 0) = pl rest n (k + 1) := by
  have hp : pend rest.length = 64 ∨ pend rest.length = 128 := by unfold pend; omega
  apply List.ext_getElem
  · simp [pl]
  · intro j h1 h2
    have hj : j < 128 := by simpa [pl] using h2
    rw [List.getElem_set]
    simp only [pl, List.getElem_map, List.getElem_range]
    split
    · rename_i e
      subst e
      rw [if_neg (by omega), tail8_getD rest n _ h, if_neg (by unfold pend; omega), if_neg (by unfold pend; omega), if_neg (by omega)]
      congr 1
      omega
    · rename_i e
      by_cases hi : pend rest.length - 8 ≤ j ∧ j < pend rest.length - k
      · rw [if_pos hi, if_pos (by omega)]
      · rw [if_neg hi, if_neg (by omega)]

theorem pl_first (rest : List UInt8) (n : Nat) (h : rest.length < 64) : ((rest ++ List.replicate (128 - rest.length) 0).set rest.length 0x80) = pl rest n 0 := by
  have hp : pend rest.length = 64 ∨ pend rest.length = 128 := by unfold pend; omega
  have hpr : rest.length + 9 ≤ pend rest.length := by unfold pend; omega
  apply List.ext_getElem
  · simp [pl]; omega
  · intro j h1 h2
    have hj : j < 128 := by simpa [pl] using h2
    rw [List.getElem_set]
    simp only [pl, List.getElem_map, List.getElem_range]
    rw [tail8_getD rest n _ h]
    by_cases h1 : rest.length = j
    · subst h1
      simp only [if_true]
      rw [if_neg (by omega), if_neg (by omega)]
    · rw [if_neg h1, List.getElem_append]
      by_cases h2 : j < rest.length
      · rw [dif_pos h2, if_neg (by omega), if_pos h2]; simp [List.getD_eq_getElem?_getD, h2]
      · rw [dif_neg h2]
        simp only [List.getElem_replicate]
        by_cases h3 : pend rest.length - 8 ≤ j ∧ j < pend rest.length - 0
        · rw [if_pos h3]
        · rw [if_neg h3, if_neg h2, if_neg (by omega)]
          by_cases h4 : j < pend rest.length - 8
          · rw [if_pos h4]
          · rw [if_neg h4, List.getD_eq_getElem?_getD, List.getElem?_eq_none (by rw [bits8_len]; omega)]
            rfl

theorem pl_last (rest : List UInt8) (n : Nat) (h : rest.length < 64) : (pl rest n 8).take (pend rest.length) = tail8 rest n := by
  have hp : pend rest.length = 64 ∨ pend rest.length = 128 := by unfold pend; omega
  apply List.ext_getElem
  · rw [List.length_take, pl_len, tail8_len rest n]; omega
  · intro j h1 h2
    rw [List.getElem_take]
    have hj : j < 128 := by rw [List.length_take, pl_len] at h1; omega
    simp only [pl, List.getElem_map, List.getElem_range]
    rw [if_neg (by omega), List.getD_eq_getElem?_getD, List.getElem?_eq_getElem h2]
    rfl
attribute [irreducible] pl
end Go.Proofs.YtalgceplcahgbaaDoor
