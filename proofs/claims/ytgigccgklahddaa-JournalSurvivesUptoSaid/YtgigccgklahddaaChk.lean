
/- Check of the program. -/
import Derived.Test.YtgigccgklahddaaDsk
namespace Go.Proofs.Ytgigccgklahddaa
open Go.RowKit
variable {n0 : Nat}

theorem validSec_iff {l : List (List UInt8)} : validSec l = true ↔ (1 ≤ l.length ∧ l.length ≤ 4096) ∧ ∀ i (h : i < l.length), (l[i]).length = 128 := by
  simp only [validSec, Bool.and_eq_true, decide_eq_true_eq, List.all_eq_true]
  constructor
  · rintro ⟨h1, h2⟩; exact ⟨h1, fun i h => h2 _ (List.getElem_mem h)⟩
  · rintro ⟨h1, h2⟩
    refine ⟨h1, fun s hs => ?_⟩
    obtain ⟨i, h, rfl⟩ := List.getElem_of_mem hs
    exact h2 i h
theorem validPen_iff {n : Nat} {l : List (Int × List UInt8)} : validPen n l = true ↔ l.length ≤ 4096 ∧ ∀ i (h : i < l.length), 0 ≤ (l[i]).1 ∧ (l[i]).1 < n ∧ (l[i]).2.length = 128 := by
  simp only [validPen, Bool.and_eq_true, decide_eq_true_eq, List.all_eq_true]
  constructor
  · rintro ⟨h1, h2⟩; exact ⟨h1, fun i h => h2 _ (List.getElem_mem h)⟩
  · rintro ⟨h1, h2⟩
    refine ⟨h1, fun s hs => ?_⟩
    obtain ⟨i, h, rfl⟩ := List.getElem_of_mem hs
    exact h2 i h
theorem bool_false {b : Bool} (h : b = true → False) : b = false := by cases b; rfl; exact absurd rfl h

set_option maxRecDepth 10000 in
set_option maxHeartbeats 800000 in
theorem validSectors_any (A : Option Addr) (l : List Sec) (cap : Nat) (w : World) (hi : SecsIn n0 A l cap w) :
    Calls Try.prog 69 #[.slice A l.length cap] w fun e w' => e = .returned (.bool (validSec (secD l))) ∧ w = w' := by
  have HI := hide hi
  have hle := hi.le
  have hcap := hi.top
  clear hi
  have hlen := secD_len l
  by_cases h1 : l.length < 1
  · have HF := hide (show validSec (secD l) = false from bool_false fun h => by have := (validSec_iff.1 h).1; omega)
    clear hlen
    have h1' : (l.length : Int) < 1 := by omega
    go_enter Try.func69, Try.ntmps69
    go_wp2_with fail
    go_ret
    exact ⟨by rw [HF.out]; rfl, rfl⟩
  · by_cases h2 : 4096 < l.length
    · have HF := hide (show validSec (secD l) = false from bool_false fun h => by have := (validSec_iff.1 h).1; omega)
      clear hlen
      have h1' : ¬ (l.length : Int) < 1 := by omega
      have h2' : (4096 : Int) < l.length := by omega
      go_enter Try.func69, Try.ntmps69
      go_wp2_with fail
      go_ret
      exact ⟨by rw [HF.out]; rfl, rfl⟩
    · have h1' : ¬ (l.length : Int) < 1 := by omega
      have h2' : ¬ (4096 : Int) < l.length := by omega
      have HL := hide hlen
      clear hlen
      go_enter Try.func69, Try.ntmps69
      go_wp2_with fail
      go_loop [15, 4] (fun i _ => ∃ k : Nat, k ≤ l.length ∧ i = .int .i64 k ∧ Hid (∀ j (h : j < l.length), j < k → (l[j]).l.length = 128)) (fun i _ => l.length - (intOf i).toNat)
      case atStart => exact ⟨0, Nat.zero_le _, rfl, hide (by intros; omega)⟩
      case round =>
        obtain ⟨k, hk, rfl, hw⟩ := hrel
        by_cases hlt : k < l.length
        · obtain ⟨b, o, rfl, hb, hc⟩ := HI.out.at hlt
          by_cases h3 : (l[k]).l.length = 128
          · have HW := hide (show ∀ j (h : j < l.length), j < k + 1 → (l[j]).l.length = 128 from fun j h hj => by
              by_cases e : j = k
              · subst e; exact h3
              · exact hw.out j h (by omega))
            have h3' : (((l[k]).l.length : Int) != 128) = false := by simp; omega
            clear h3
            generalize l[k] = s at *
            go_wp2_with fail
            go_round
            case rel => exact ⟨k + 1, by omega, by go_num, HW⟩
            case measure => simp [intOf]; omega
          · have HF := hide (show validSec (secD l) = false from bool_false fun h => by
              have := (validSec_iff.1 h).2 k (by rw [HL.out]; exact hlt)
              rw [secD_get] at this
              exact h3 this)
            have h3' : (((l[k]).l.length : Int) != 128) = true := by simp; omega
            clear h3
            generalize l[k] = s at *
            go_wp2_with fail
            go_ret
            exact ⟨by rw [HF.out]; rfl, rfl⟩
        · obtain rfl : k = l.length := by omega
          have HT := hide (show validSec (secD l) = true from validSec_iff.2 ⟨by rw [HL.out]; omega, fun i h => by rw [secD_get]; exact hw.out i (by rw [HL.out] at h; exact h) (by rw [HL.out] at h; exact h)⟩)
          go_wp2_with fail
          go_ret
          exact ⟨by rw [HT.out]; rfl, rfl⟩

def hasB (n : Nat) (i : Int) : Bool := decide (0 ≤ i ∧ i < n)
set_option maxRecDepth 10000 in
set_option maxHeartbeats 800000 in
theorem has_gen (sa : Option Addr) (n sc : Nat) (x1 x2 x3 : Value) (i : Int) (w : World) :
    Calls Try.prog 52 #[.agg #[.slice sa n sc, x1, x2, x3], .int .i64 i] w fun e w' => e = .returned (.bool (hasB n i)) ∧ Below w.heap.size w w' := by
  have HD := hide (show hasB n i = decide (0 ≤ i ∧ i < n) from rfl)
  have HB := hide (below_new w (.cells #[.slice sa n sc, x1, x2, x3] 25))
  by_cases h1 : 0 ≤ i
  · by_cases h2 : i < n
    · have HF := hide (show hasB n i = true by rw [HD.out]; simp [h1, h2])
      go_enter Try.func52, Try.ntmps52
      go_wp2_with fail
      go_ret
      exact ⟨by rw [HF.out]; rfl, HB.out⟩
    · have HF := hide (show hasB n i = false by rw [HD.out]; simp [h1, h2])
      have h2' : decide (i < (n : Int)) = false := by simp; omega
      go_enter Try.func52, Try.ntmps52
      go_wp2_with fail
      go_ret
      exact ⟨by rw [HF.out]; rfl, HB.out⟩
  · have HF := hide (show hasB n i = false by rw [HD.out]; simp [h1])
    have h1' : i < 0 := by omega
    go_enter Try.func52, Try.ntmps52
    go_wp2_with fail
    go_ret
    exact ⟨by rw [HF.out]; rfl, HB.out⟩
theorem has_eq (d : Dsk) (i : Int) : d.d.has i = hasB d.ss.length i := by simp [Dk.has, hasB, Dsk.d, secD_len]
theorem hasB_iff {n : Nat} {i : Int} : hasB n i = true ↔ 0 ≤ i ∧ i < n := by simp [hasB]
theorem has_is (sa : Option Addr) (n sc : Nat) (pa : Option Addr) (m pc : Nat) (left : Int) (stp : Bool) (i : Int) {b : Bool} (h : hasB n i = b) (w : World) :
    Calls Try.prog 52 #[.agg #[.slice sa n sc, .slice pa m pc, .int .i64 left, .bool stp], .int .i64 i] w fun e w' => e = .returned (.bool b) ∧ Below w.heap.size w w' := h ▸ has_gen sa n sc _ _ _ i w
end Go.Proofs.Ytgigccgklahddaa
