/- Powers and inverses: what they answer, for all integers. -/
import Derived.Test.YtcafjncilflanaaBas
import Derived.WalkMore
namespace Go.Proofs.Ytcafjncilflanaa
open Go.RowKit

theorem pow_odd (y x : Int) (m : Nat) (h : m % 2 = 1) : md (md (y * x) * md (x * x) ^ (m / 2)) = md (y * x ^ m) := by
  rw [md_mull, ← md_mulr, md_pow (md_md (x * x)), md_mulr]
  congr 1
  obtain ⟨k, hk⟩ : ∃ k, m = 2 * k + 1 := ⟨m / 2, by omega⟩
  have : m / 2 = k := by omega
  rw [this, hk, Int.pow_succ, Int.pow_mul, Int.pow_succ x 1, Int.pow_succ, Int.pow_zero, Int.one_mul]
  grind
theorem pow_even (y x : Int) (m : Nat) (h : m % 2 = 0) : md (y * md (x * x) ^ (m / 2)) = md (y * x ^ m) := by
  rw [← md_mulr, md_pow (md_md (x * x)), md_mulr]
  congr 1
  obtain ⟨k, hk⟩ : ∃ k, m = 2 * k := ⟨m / 2, by omega⟩
  have : m / 2 = k := by omega
  rw [this, hk, Int.pow_mul, Int.pow_succ x 1, Int.pow_succ, Int.pow_zero, Int.one_mul]

set_option maxHeartbeats 1600000 in
theorem power_any (a : Int) (n : Nat) (w : World) (hn : n < 18446744073709551616) : Calls Try.prog 20 #[.int .i64 a, .int .u64 (n : Nat)] w fun e w' => e = .returned (.int .i64 (md (a ^ n))) ∧ w = w' := by
  go_enter Try.func20, Try.ntmps20
  go_wp2_with fail
  go_step3
  go_wp2_with fail
  go_step3
  go_wp2_with fail
  go_loopw [0, 1, 4, 7, 10] (fun x i y _ _ wr => ∃ (m : Nat) (xi yi : Int), i = .int .u64 (m : Nat) ∧ m < 18446744073709551616 ∧ x = .int .i64 xi ∧ y = .int .i64 yi ∧ Hid (md (yi * xi ^ m) = md (a ^ n)) ∧ Hid (md yi = yi) ∧ wr = w) (fun _ i _ _ _ _ => (intOf i).toNat)
  case atStart => exact ⟨n, a, 1, rfl, hn, rfl, rfl, hide (by rw [Int.one_mul]), hide rfl, rfl⟩
  case round =>
    obtain ⟨m, xi, yi, rfl, hm, rfl, rfl, HP, HY, rfl⟩ := hrel
    by_cases h0 : m = 0
    · subst h0
      have he : md (a ^ n) = yi := by
        have h := HP.out
        rw [Int.pow_zero, Int.mul_one, HY.out] at h
        exact h.symm
      have HE := hide he
      clear he
      go_wp2_with fail
      rw [Exit.noGoto_ret]
      go_ret
      exact ⟨by rw [HE.out]; rfl, rfl⟩
    · have h0' : ¬ (m : Int) = 0 := by omega
      have hsz : IntKind.u64.wrap ((m : Int) / 2) = ((m / 2 : Nat) : Int) := by rw [IntWalk.u64_in _ (by omega)]; omega
      have hb := u64_and_nat m 1 hm (by omega)
      rw [Nat.and_one_is_mod] at hb
      by_cases h1 : m % 2 = 1
      · rw [h1] at hb
        have hb' : bits .and .u64 (m : Int) 1 = 1 := hb
        clear hb
        go_wp2_with fail
        refine (mul_any _ _ _).mono ?_
        rintro e w' ⟨rfl, rfl⟩
        go_wp2_with fail
        refine (mul_any _ _ _).mono ?_
        rintro e w' ⟨rfl, rfl⟩
        go_wp2_with fail
        go_roundw
        case rel => exact ⟨m / 2, md (xi * xi), md (yi * xi), by go_num, by omega, rfl, rfl, hide (by rw [pow_odd _ _ _ h1]; exact HP.out), hide (md_md _), trivial⟩
        case measure => simp [intOf]; omega
      · have h2 : m % 2 = 0 := by omega
        rw [h2] at hb
        have hb' : bits .and .u64 (m : Int) 1 = 0 := hb
        clear hb
        go_wp2_with fail
        refine (mul_any _ _ _).mono ?_
        rintro e w' ⟨rfl, rfl⟩
        go_wp2_with fail
        go_roundw
        case rel => exact ⟨m / 2, md (xi * xi), yi, by go_num, by omega, rfl, rfl, hide (by rw [pow_even _ _ _ h2]; exact HP.out), HY, trivial⟩
        case measure => simp [intOf]; omega

theorem rpow_odd (x y : Int) (m : Nat) (h : m % 2 = 1) : md (md (x * y) * md (y * y) ^ (m / 2)) = md (x * y ^ m) := pow_odd x y m h
set_option maxHeartbeats 1600000 in
theorem rpower_any (a : Int) (n : Nat) (w : World) (hn : n ≤ 9223372036854775807) : Calls Try.prog 21 #[.int .i64 a, .int .i64 (n : Nat)] w fun e w' => e = .returned (.int .i64 (md (a ^ n))) ∧ w = w' := by
  go_enter Try.func21, Try.ntmps21
  go_wp2_with fail
  go_loopw [0, 1, 5] (fun x i y wr => ∃ (m : Nat) (xi yi : Int), i = .int .i64 (m : Nat) ∧ m ≤ 9223372036854775807 ∧ x = .int .i64 xi ∧ y = .int .i64 yi ∧ Hid (md (yi * xi ^ m) = md (a ^ n)) ∧ Hid (md yi = yi) ∧ wr = w) (fun _ i _ _ => (intOf i).toNat)
  case atStart => exact ⟨n, a, 1, rfl, hn, rfl, rfl, hide (by rw [Int.one_mul]), hide rfl, rfl⟩
  case round =>
    obtain ⟨m, xi, yi, rfl, hm, rfl, rfl, HP, HY, rfl⟩ := hrel
    by_cases h0 : m = 0
    · subst h0
      have he : md (a ^ n) = yi := by
        have h := HP.out
        rw [Int.pow_zero, Int.mul_one, HY.out] at h
        exact h.symm
      have HE := hide he
      clear he
      go_wp2_with fail
      go_ret
      exact ⟨by rw [HE.out]; rfl, rfl⟩
    · have h0' : (0 : Int) < (m : Int) := by omega
      have hsz : IntKind.i64.wrap ((m : Int).tdiv 2) = ((m / 2 : Nat) : Int) := by rw [IntWalk.i64_quo _ _ (by omega)]; omega
      have hsz' : (m : Int).tdiv 2 = ((m / 2 : Nat) : Int) := IntWalk.up_tdiv rfl rfl
      have hb : (m : Int).tmod 2 = ((m % 2 : Nat) : Int) := IntWalk.up_tmod rfl rfl
      by_cases h1 : m % 2 = 1
      · rw [h1] at hb
        have hb' : (m : Int).tmod 2 = 1 := hb
        clear hb
        go_wp2_with fail
        refine (rmul_any _ _ _).mono ?_
        rintro e w' ⟨rfl, rfl⟩
        go_wp2_with fail
        refine (rmul_any _ _ _).mono ?_
        rintro e w' ⟨rfl, rfl⟩
        go_wp2_with fail
        go_roundw
        case rel => exact ⟨m / 2, md (xi * xi), md (yi * xi), by go_num, by omega, rfl, rfl, hide (by rw [pow_odd _ _ _ h1]; exact HP.out), hide (md_md _), trivial⟩
        case measure => simp [intOf]; omega
      · have h2 : m % 2 = 0 := by omega
        rw [h2] at hb
        have hb' : (m : Int).tmod 2 = 0 := hb
        clear hb
        go_wp2_with fail
        refine (rmul_any _ _ _).mono ?_
        rintro e w' ⟨rfl, rfl⟩
        go_wp2_with fail
        go_roundw
        case rel => exact ⟨m / 2, md (xi * xi), yi, by go_num, by omega, rfl, rfl, hide (by rw [pow_even _ _ _ h2]; exact HP.out), HY, trivial⟩
        case measure => simp [intOf]; omega

/-- What Inverse answers. -/
def invV (n : Int) : Value := .tuple #[.int .i64 (if md n = 0 then 0 else inv n), .int .i64 (if md n = 0 then 90 else 0)]
theorem inv_is (n : Int) : md (n ^ 1073741787) = inv n := by
  unfold inv
  exact md_pow (md_md n).symm _
theorem inverse_any (n : Int) (w : World) : Calls Try.prog 8 #[.int .i64 n] w fun e w' => e = .returned (invV n) ∧ w = w' := by
  have HP := hide (power_any n 1073741787 w (by omega))
  have HI := hide (inv_is n)
  by_cases h : md n = 0
  · have HV := hide (show invV n = .tuple #[.int .i64 0, .int .i64 90] by unfold invV; rw [if_pos h, if_pos h])
    go_enter Try.func8, Try.ntmps8
    go_wp2_with fail
    refine (mod_any _ _).mono ?_
    rintro e w' ⟨rfl, rfl⟩
    go_wp2_with fail
    refine bodyPost_ret (results_tmp2 rfl _ _ _) rfl ?_
    exact ⟨by rw [HV.out]; rfl, rfl⟩
  · have HV := hide (show invV n = .tuple #[.int .i64 (inv n), .int .i64 0] by unfold invV; rw [if_neg h, if_neg h])
    go_enter Try.func8, Try.ntmps8
    go_wp2_with fail
    refine (mod_any _ _).mono ?_
    rintro e w' ⟨rfl, rfl⟩
    go_wp2_with fail
    refine HP.out.mono ?_
    rintro e w' ⟨rfl, rfl⟩
    rw [HI.out]
    go_wp2_with fail
    refine bodyPost_ret (results_tmp2 rfl _ _ _) rfl ?_
    exact ⟨by rw [HV.out]; rfl, rfl⟩
theorem rinverse_any (n : Int) (w : World) : Calls Try.prog 9 #[.int .i64 n] w fun e w' => e = .returned (invV n) ∧ w = w' := by
  have HP := hide (rpower_any n 1073741787 w (by omega))
  have HI := hide (inv_is n)
  by_cases h : md n = 0
  · have HV := hide (show invV n = .tuple #[.int .i64 0, .int .i64 90] by unfold invV; rw [if_pos h, if_pos h])
    go_enter Try.func9, Try.ntmps9
    go_wp2_with fail
    refine (rmod_any _ _).mono ?_
    rintro e w' ⟨rfl, rfl⟩
    go_wp2_with fail
    refine bodyPost_ret (results_tmp2 rfl _ _ _) rfl ?_
    exact ⟨by rw [HV.out]; rfl, rfl⟩
  · have HV := hide (show invV n = .tuple #[.int .i64 (inv n), .int .i64 0] by unfold invV; rw [if_neg h, if_neg h])
    go_enter Try.func9, Try.ntmps9
    go_wp2_with fail
    refine (rmod_any _ _).mono ?_
    rintro e w' ⟨rfl, rfl⟩
    go_wp2_with fail
    refine HP.out.mono ?_
    rintro e w' ⟨rfl, rfl⟩
    rw [HI.out]
    go_wp2_with fail
    refine bodyPost_ret (results_tmp2 rfl _ _ _) rfl ?_
    exact ⟨by rw [HV.out]; rfl, rfl⟩
end Go.Proofs.Ytcafjncilflanaa
