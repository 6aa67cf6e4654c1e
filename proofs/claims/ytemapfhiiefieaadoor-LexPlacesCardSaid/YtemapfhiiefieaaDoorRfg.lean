/- Letters, figures, white space of the reference. -/
import Derived.Test.YtemapfhiiefieaaDoorNam
namespace Go.Proofs.YtemapfhiiefieaaDoor
open Go.RowKit

theorem ret_bool {a b : Bool} (h : a = true ↔ b = true) : Ending.returned (.bool a) = .returned (.bool b) := by rw [Bool.eq_iff_iff.2 h]
set_option maxRecDepth 100000 in
theorem fin_digit : ∀ n : Fin 256, (clsN n.1 == 3) = (decide (48 ≤ n.1) && decide (n.1 ≤ 57)) := by decide
theorem isDg_dec (b : UInt8) : isDg b = (decide (48 ≤ b.toNat) && decide (b.toNat ≤ 57)) := fin_digit ⟨b.toNat, b.toNat_lt⟩
set_option maxRecDepth 100000 in
theorem fin_letter : ∀ n : Fin 256, (clsN n.1 == 4) = ((decide (97 ≤ n.1) && decide (n.1 ≤ 122)) || (decide (65 ≤ n.1) && decide (n.1 ≤ 90))) := by decide
theorem isLt_range (b : UInt8) : isLt b = ((decide (97 ≤ b.toNat) && decide (b.toNat ≤ 122)) || (decide (65 ≤ b.toNat) && decide (b.toNat ≤ 90))) := fin_letter ⟨b.toNat, b.toNat_lt⟩
def isWh (b : UInt8) : Bool := cls b == 1
set_option maxRecDepth 100000 in
theorem fin_white : ∀ n : Fin 256, (clsN n.1 == 1) = (decide (n.1 = 32) || decide (n.1 = 9) || decide (n.1 = 10) || decide (n.1 = 13)) := by decide
theorem isWh_range (b : UInt8) : isWh b = (decide (b.toNat = 32) || decide (b.toNat = 9) || decide (b.toNat = 10) || decide (b.toNat = 13)) := fin_white ⟨b.toNat, b.toNat_lt⟩
set_option maxRecDepth 100000 in
theorem fin_under : ∀ n : Fin 256, (clsN n.1 == 5) = decide (n.1 = 95) := by decide
theorem isUn_range (b : UInt8) : (cls b == 5) = decide (b.toNat = 95) := fin_under ⟨b.toNat, b.toNat_lt⟩

set_option maxHeartbeats 400000 in
theorem rfigure_any (b : UInt8) (w : World) : Calls Tryd.prog 29 #[.int .u8 (b.toNat : Nat)] w fun e w' => e = .returned (.bool (isDg b)) ∧ w = w' := by
  have HR := hide (isDg_dec b)
  have hlt := b.toNat_lt
  generalize isDg b = z at *
  by_cases h1 : 48 ≤ b.toNat
  · have d1 : decide ((48 : Int) ≤ (b.toNat : Int)) = true := by simp; omega
    go_enter Tryd.func29, Tryd.ntmps29
    go_wp2_with fail
    go_ret
    exact ⟨by rw [HR.out]; simp [h1]; omega, rfl⟩
  · have d1 : decide ((48 : Int) ≤ (b.toNat : Int)) = false := by simp; omega
    go_enter Tryd.func29, Tryd.ntmps29
    go_wp2_with fail
    go_ret
    exact ⟨by rw [HR.out]; simp [h1], rfl⟩

set_option maxHeartbeats 800000 in
theorem rletter_any (b : UInt8) (w : World) : Calls Tryd.prog 27 #[.int .u8 (b.toNat : Nat)] w fun e w' => e = .returned (.bool (isLt b)) ∧ w = w' := by
  have HR := hide (isLt_range b)
  have hlt := b.toNat_lt
  generalize isLt b = z at *
  by_cases h1 : 97 ≤ b.toNat
  · have d1 : decide ((97 : Int) ≤ (b.toNat : Int)) = true := by simp; omega
    by_cases h2 : b.toNat ≤ 122
    · have d2 : decide ((b.toNat : Int) ≤ 122) = true := by simp; omega
      go_enter Tryd.func27, Tryd.ntmps27
      go_wp2_with fail
      go_ret
      exact ⟨by rw [HR.out]; simp [h1, h2], rfl⟩
    · have d2 : decide ((b.toNat : Int) ≤ 122) = false := by simp; omega
      have d3 : decide ((65 : Int) ≤ (b.toNat : Int)) = true := by simp; omega
      go_enter Tryd.func27, Tryd.ntmps27
      go_wp2_with fail
      go_ret
      exact ⟨by rw [HR.out]; exact ret_bool (a := decide ((b.toNat : Int) ≤ 90)) (by simp; omega), rfl⟩
  · have d1 : decide ((97 : Int) ≤ (b.toNat : Int)) = false := by simp; omega
    by_cases h2 : 65 ≤ b.toNat
    · have d3 : decide ((65 : Int) ≤ (b.toNat : Int)) = true := by simp; omega
      go_enter Tryd.func27, Tryd.ntmps27
      go_wp2_with fail
      go_ret
      exact ⟨by rw [HR.out]; simp [h1, h2]; omega, rfl⟩
    · have d3 : decide ((65 : Int) ≤ (b.toNat : Int)) = false := by simp; omega
      go_enter Tryd.func27, Tryd.ntmps27
      go_wp2_with fail
      go_ret
      exact ⟨by rw [HR.out]; simp [h1, h2], rfl⟩

set_option maxHeartbeats 800000 in
theorem rspace_any (b : UInt8) (w : World) : Calls Tryd.prog 22 #[.int .u8 (b.toNat : Nat)] w fun e w' => e = .returned (.bool (isWh b)) ∧ w = w' := by
  have HR := hide (isWh_range b)
  have hlt := b.toNat_lt
  generalize isWh b = z at *
  cases h1 : ((b.toNat : Int) == 32) with
  | true =>
    go_enter Tryd.func22, Tryd.ntmps22
    go_wp2_with fail
    go_ret
    exact ⟨by rw [HR.out]; simp at h1; have : b.toNat = 32 := by omega
              simp [this], rfl⟩
  | false =>
    cases h2 : ((b.toNat : Int) == 9) with
    | true =>
      go_enter Tryd.func22, Tryd.ntmps22
      go_wp2_with fail
      go_ret
      exact ⟨by rw [HR.out]; simp at h2; have : b.toNat = 9 := by omega
                simp [this], rfl⟩
    | false =>
      cases h3 : ((b.toNat : Int) == 10) with
      | true =>
        go_enter Tryd.func22, Tryd.ntmps22
        go_wp2_with fail
        go_ret
        exact ⟨by rw [HR.out]; simp at h3; have : b.toNat = 10 := by omega
                  simp [this], rfl⟩
      | false =>
        go_enter Tryd.func22, Tryd.ntmps22
        go_wp2_with fail
        go_ret
        exact ⟨by
          rw [HR.out]
          simp at h1 h2 h3
          have e1 : ¬ b.toNat = 32 := by omega
          have e2 : ¬ b.toNat = 9 := by omega
          have e3 : ¬ b.toNat = 10 := by omega
          exact ret_bool (a := ((b.toNat : Int) == 13)) (by simp [e1, e2, e3]; omega), rfl⟩

set_option maxHeartbeats 800000 in
theorem rpart_any (b : UInt8) (w : World) : Calls Tryd.prog 28 #[.int .u8 (b.toNat : Nat)] w fun e w' => e = .returned (.bool (isNm b)) ∧ w = w' := by
  have HL := hide (rletter_any b w)
  have HF := hide (rfigure_any b w)
  have HU := hide (isUn_range b)
  have HN := hide (show isNm b = (isLt b || isDg b || cls b == 5) from rfl)
  have hlt := b.toNat_lt
  go_enter Tryd.func28, Tryd.ntmps28
  go_wp2_with fail
  refine HL.out.mono ?_
  rintro e w' ⟨rfl, rfl⟩
  cases hl : isLt b with
  | true =>
    go_wp2_with fail
    go_ret
    exact ⟨by rw [HN.out, hl]; rfl, rfl⟩
  | false =>
    go_wp2_with fail
    refine HF.out.mono ?_
    rintro e w' ⟨rfl, rfl⟩
    cases hd : isDg b with
    | true =>
      go_wp2_with fail
      go_ret
      exact ⟨by rw [HN.out, hl, hd]; rfl, rfl⟩
    | false =>
      go_wp2_with fail
      go_ret
      exact ⟨by rw [HN.out, hl, hd, HU.out]; exact ret_bool (a := ((b.toNat : Int) == 95)) (by simp; omega), rfl⟩
end Go.Proofs.YtemapfhiiefieaaDoor
