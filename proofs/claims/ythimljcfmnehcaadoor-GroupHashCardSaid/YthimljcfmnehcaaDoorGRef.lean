/- The reference's power, exponent and Valid. -/
import Derived.Test.YthimljcfmnehcaaDoorGBas
namespace Go.Proofs.YthimljcfmnehcaaDoor.Gp
open Go.RowKit

theorem prod_facts (a b : Int) (ha : 0 ≤ a) (ha2 : a < 2147483579) (hb : 0 ≤ b) (hb2 : b < 2147483579) : IntKind.i64.wrap (a * b) = a * b ∧ (a * b).tmod 2147483579 = mp (a * b) ∧ IntKind.i64.wrap ((a * b).tmod 2147483579) = mp (a * b) := by
  have h1 := Int.mul_nonneg ha hb
  have h2 : a * b ≤ 2147483579 * 2147483579 := Int.mul_le_mul (by omega) (by omega) hb (by omega)
  have hn : (a * b).tmod 2147483579 = mp (a * b) := Int.tmod_eq_emod_of_nonneg h1
  refine ⟨IntWalk.i64_in _ (by omega), hn, ?_⟩
  have h5 := mp_lo (a * b)
  have h6 := mp_hi (a * b)
  rw [hn]
  exact IntWalk.i64_in _ (by omega)

set_option maxHeartbeats 1600000 in
theorem rpower_any (a : Int) (n : Nat) (w : World) (ha : 0 ≤ a) (ha2 : a < 2147483579) (hn : n ≤ 9223372036854775807) : Calls Tryd.prog 71 #[.int .i64 a, .int .i64 (n : Nat)] w fun e w' => e = .returned (.int .i64 (mp (a ^ n))) ∧ w = w' := by
  have HA := hide (And.intro ha ha2)
  clear ha ha2
  go_enter Tryd.func71, Tryd.ntmps71
  go_wp2_with fail
  go_loopw [0, 1, 5] (fun x i y wr => ∃ (m : Nat) (xi yi : Int), i = .int .i64 (m : Nat) ∧ m ≤ 9223372036854775807 ∧ x = .int .i64 xi ∧ y = .int .i64 yi ∧ Hid (mp (yi * xi ^ m) = mp (a ^ n)) ∧ Hid ((0 ≤ xi ∧ xi < 2147483579) ∧ (0 ≤ yi ∧ yi < 2147483579)) ∧ wr = w) (fun _ i _ _ => (intOf i).toNat)
  case atStart => exact ⟨n, a, 1, rfl, hn, rfl, rfl, hide (by rw [Int.one_mul]), hide ⟨HA.out, by omega, by omega⟩, rfl⟩
  case round =>
    obtain ⟨m, xi, yi, rfl, hm, rfl, rfl, HP, HR, rfl⟩ := hrel
    by_cases h0 : m = 0
    · subst h0
      have he : mp (a ^ n) = yi := by
        have h := HP.out
        rw [Int.pow_zero, Int.mul_one, mp_id HR.out.2.1 HR.out.2.2] at h
        exact h.symm
      have HE := hide he
      clear he
      go_wp2_with fail
      go_ret
      exact ⟨by rw [HE.out]; rfl, rfl⟩
    · have h0' : (0 : Int) < (m : Int) := by omega
      have hsz : IntKind.i64.wrap ((m : Int).tdiv 2) = ((m / 2 : Nat) : Int) := by rw [IntWalk.i64_quo _ _ (by omega)]; omega
      have hsz' : (m : Int).tdiv 2 = ((m / 2 : Nat) : Int) := IntWalk.up_tdiv rfl rfl
      have hb : (m : Int).tmod 2 = ((m % 2 : Nat) : Int) := IntWalk.up_tmod rfl rfl
      obtain ⟨p1, p2, p3⟩ := prod_facts yi xi HR.out.2.1 HR.out.2.2 HR.out.1.1 HR.out.1.2
      obtain ⟨r1, r2, r3⟩ := prod_facts xi xi HR.out.1.1 HR.out.1.2 HR.out.1.1 HR.out.1.2
      by_cases h1 : m % 2 = 1
      · rw [h1] at hb
        have hb' : (m : Int).tmod 2 = 1 := hb
        have HR2 := hide (show (0 ≤ mp (xi * xi) ∧ mp (xi * xi) < 2147483579) ∧ (0 ≤ mp (yi * xi) ∧ mp (yi * xi) < 2147483579) from ⟨⟨mp_lo _, mp_hi _⟩, mp_lo _, mp_hi _⟩)
        have HP2 := hide (show mp (mp (yi * xi) * mp (xi * xi) ^ (m / 2)) = mp (a ^ n) from by rw [mpow_odd _ _ _ h1]; exact HP.out)
        clear hb
        go_wp2_with fail
        go_roundw
        case rel => exact ⟨m / 2, mp (xi * xi), mp (yi * xi), rfl, by omega, rfl, rfl, HP2, HR2, trivial⟩
        case measure => simp [intOf]; omega
      · have h2 : m % 2 = 0 := by omega
        have HR2 := hide (show (0 ≤ mp (xi * xi) ∧ mp (xi * xi) < 2147483579) ∧ (0 ≤ yi ∧ yi < 2147483579) from ⟨⟨mp_lo _, mp_hi _⟩, HR.out.2⟩)
        have HP2 := hide (show mp (yi * mp (xi * xi) ^ (m / 2)) = mp (a ^ n) from by rw [mpow_even _ _ _ h2]; exact HP.out)
        rw [h2] at hb
        have hb' : (m : Int).tmod 2 = 0 := hb
        clear hb p1 p2 p3
        go_wp2_with fail
        go_roundw
        case rel => exact ⟨m / 2, mp (xi * xi), yi, rfl, by omega, rfl, rfl, HP2, HR2, trivial⟩
        case measure => simp [intOf]; omega

theorem rvalid_any (x : Int) (w : World) : Calls Tryd.prog 58 #[.int .i64 x] w fun e w' => e = .returned (.bool (vd x)) ∧ w = w' := by
  by_cases h1 : 1 ≤ x
  · by_cases h2 : x < 2147483579
    · have HI := hide (rpower_any x 1073741789 w (by omega) h2 (by omega))
      have HQ := hide (show (1073741789 : Nat) = qn from qn_eq.symm)
      rw [HQ.out] at HI
      have e0 : ((qn : Nat) : Int) = 1073741789 := by rw [qn_eq]; rfl
      rw [e0] at HI
      have HV := hide (show vd x = (mp (x ^ qn) == 1) from by
        by_cases h : mp (x ^ qn) = 1
        · rw [h, vd_iff.2 ⟨h1, h2, h⟩]; rfl
        · rw [vd_no.2 fun k => h k.2.2]; simp [h])
      clear e0 HQ
      generalize mp (x ^ qn) = y at *
      go_enter Tryd.func58, Tryd.ntmps58
      go_wp2_with fail
      refine HI.out.mono ?_
      rintro e w' ⟨rfl, rfl⟩
      go_wp2_with fail
      go_ret
      exact ⟨by rw [HV.out]; rfl, rfl⟩
    · have HV := hide (vd_no.2 fun h => h2 h.2.1)
      go_enter Tryd.func58, Tryd.ntmps58
      go_wp2_with fail
      go_ret
      exact ⟨by rw [HV.out]; rfl, rfl⟩
  · have HV := hide (vd_no.2 fun h => h1 h.1)
    go_enter Tryd.func58, Tryd.ntmps58
    go_wp2_with fail
    go_ret
    exact ⟨by rw [HV.out]; rfl, rfl⟩
end Go.Proofs.YthimljcfmnehcaaDoor.Gp
