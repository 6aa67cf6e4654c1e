/- Mul, Pow, Element, Number: what they answer. -/
import Derived.Test.YthimljcfmnehcaaDoorGPwr
import Derived.Test.YthimljcfmnehcaaDoorGRef
namespace Go.Proofs.YthimljcfmnehcaaDoor.Gp
open Go.RowKit

noncomputable def mulV (a b : Int) : Value := .tuple #[.int .i64 (if (vd a && vd b) = true then mp (a * b) else 0), .int .i64 (if (vd a && vd b) = true then 0 else 100)]
noncomputable def powV (a n : Int) : Value := .tuple #[.int .i64 (if vd a = true then pw a n else 0), .int .i64 (if vd a = true then 0 else 100)]
noncomputable def elV (n : Int) : Value := .tuple #[.int .i64 (if 1 ≤ n ∧ n ≤ 1073741789 then el n else 0), .int .i64 (if 1 ≤ n ∧ n ≤ 1073741789 then 0 else 1)]
noncomputable def nmV (x : Int) : Value := .tuple #[.int .i64 (if vd x = true then nm x else 0), .int .i64 (if vd x = true then 0 else 100)]

theorem mulV_yes {a b : Int} (ha : vd a = true) (hb : vd b = true) : mulV a b = .tuple #[.int .i64 (mp (a * b)), .int .i64 0] := by simp [mulV, ha, hb]
theorem mulV_nol {a b : Int} (ha : vd a = false) : mulV a b = .tuple #[.int .i64 0, .int .i64 100] := by simp [mulV, ha]
theorem mulV_nor {a b : Int} (hb : vd b = false) : mulV a b = .tuple #[.int .i64 0, .int .i64 100] := by simp [mulV, hb]
theorem powV_yes {a n : Int} (ha : vd a = true) : powV a n = .tuple #[.int .i64 (pw a n), .int .i64 0] := by simp [powV, ha]
theorem powV_no {a n : Int} (ha : vd a = false) : powV a n = .tuple #[.int .i64 0, .int .i64 100] := by simp [powV, ha]
theorem elV_yes {n : Int} (h1 : 1 ≤ n) (h2 : n ≤ 1073741789) : elV n = .tuple #[.int .i64 (el n), .int .i64 0] := by simp [elV, h1, h2]
theorem elV_no {n : Int} (h : ¬ (1 ≤ n ∧ n ≤ 1073741789)) : elV n = .tuple #[.int .i64 0, .int .i64 1] := by unfold elV; rw [if_neg h, if_neg h]
theorem nmV_yes {x : Int} (h : vd x = true) : nmV x = .tuple #[.int .i64 (nm x), .int .i64 0] := by simp [nmV, h]
theorem nmV_no {x : Int} (h : vd x = false) : nmV x = .tuple #[.int .i64 0, .int .i64 100] := by simp [nmV, h]

theorem mul_any (a b : Int) (w : World) : Calls Tryd.prog 56 #[.int .i64 a, .int .i64 b] w fun e w' => e = .returned (mulV a b) ∧ w = w' := by
  have HVA := hide (fun W => valid_any a W)
  have HVB := hide (fun W => valid_any b W)
  cases ha : vd a with
  | true =>
    cases hb : vd b with
    | true =>
      have HM := hide (mulV_yes ha hb)
      have hva := vd_iff.1 ha
      have hvb := vd_iff.1 hb
      have HP := hide (fun W => product_any a b W (by have := hva.1; omega) hva.2.1 (by have := hvb.1; omega) hvb.2.1)
      rw [ha] at HVA
      rw [hb] at HVB
      clear ha hb hva hvb
      go_enter Tryd.func56, Tryd.ntmps56
      go_wp2_with fail
      refine (HVA.out _).mono ?_
      rintro e w' ⟨rfl, rfl⟩
      go_wp2_with fail
      refine (HVB.out _).mono ?_
      rintro e w' ⟨rfl, rfl⟩
      go_wp2_with fail
      refine (HP.out _).mono ?_
      rintro e w' ⟨rfl, rfl⟩
      go_wp2_with fail
      refine bodyPost_ret (results_tmp2 rfl _ _ _) rfl ?_
      exact ⟨by rw [HM.out]; rfl, rfl⟩
    | false =>
      have HM := hide (mulV_nor (a := a) hb)
      rw [ha] at HVA
      rw [hb] at HVB
      clear ha hb
      go_enter Tryd.func56, Tryd.ntmps56
      go_wp2_with fail
      refine (HVA.out _).mono ?_
      rintro e w' ⟨rfl, rfl⟩
      go_wp2_with fail
      refine (HVB.out _).mono ?_
      rintro e w' ⟨rfl, rfl⟩
      go_wp2_with fail
      refine bodyPost_ret (results_tmp2 rfl _ _ _) rfl ?_
      exact ⟨by rw [HM.out]; rfl, rfl⟩
  | false =>
    have HM := hide (mulV_nol (b := b) ha)
    rw [ha] at HVA
    clear ha
    go_enter Tryd.func56, Tryd.ntmps56
    go_wp2_with fail
    refine (HVA.out _).mono ?_
    rintro e w' ⟨rfl, rfl⟩
    go_wp2_with fail
    refine bodyPost_ret (results_tmp2 rfl _ _ _) rfl ?_
    exact ⟨by rw [HM.out]; rfl, rfl⟩

set_option maxHeartbeats 800000 in
theorem pow_any (a n : Int) (w : World) : Calls Tryd.prog 55 #[.int .i64 a, .int .i64 n] w fun e w' => e = .returned (powV a n) ∧ Below w.heap.size w w' := by
  have HVA := hide (fun W => valid_any a W)
  cases ha : vd a with
  | true =>
    have HM := hide (powV_yes (n := n) ha)
    have hva := vd_iff.1 ha
    have HE := hide (exponent_any n _ w.heap.size (Blk.new w 3 [.int .i64 n]))
    have HB := hide (below_new w (.cells #[.int .i64 n] 3))
    obtain ⟨k, hk⟩ : ∃ k : Nat, md n = (k : Int) := ⟨(md n).toNat, by have := md_lo n; omega⟩
    have HP := hide (fun W => power_any a k W (by have := hva.1; omega) hva.2.1 (by have := md_hi n; omega))
    have HK := hide (show mp (a ^ k) = pw a n from by
      have e : (n % 1073741789).toNat = k := by
        have : n % 1073741789 = (k : Int) := hk
        omega
      unfold pw
      rw [e])
    rw [hk] at HE
    rw [ha] at HVA
    clear ha hva hk
    go_enter Tryd.func55, Tryd.ntmps55
    go_wp2_with fail
    refine (HVA.out _).mono ?_
    rintro e w' ⟨rfl, rfl⟩
    go_wp2_with fail
    refine HE.out.mono ?_
    rintro e w1 ⟨rfl, hb⟩
    have HB1 := hide (below_one HB.out hb)
    clear hb HE HB
    go_wp2_with fail
    refine (HP.out _).mono ?_
    rintro e w2 ⟨rfl, hb⟩
    have HB2 := hide (below_one HB1.out hb)
    clear hb
    rw [HK.out]
    go_wp2_with fail
    refine bodyPost_ret (results_tmp2 rfl _ _ _) rfl ?_
    exact ⟨by rw [HM.out]; rfl, HB2.out⟩
  | false =>
    have HM := hide (powV_no (n := n) ha)
    rw [ha] at HVA
    clear ha
    go_enter Tryd.func55, Tryd.ntmps55
    go_wp2_with fail
    refine (HVA.out _).mono ?_
    rintro e w' ⟨rfl, rfl⟩
    go_wp2_with fail
    refine bodyPost_ret (results_tmp2 rfl _ _ _) rfl ?_
    exact ⟨by rw [HM.out]; rfl, Below.refl _ _⟩

theorem element_any (n : Int) (w : World) : Calls Tryd.prog 30 #[.int .i64 n] w fun e w' => e = .returned (elV n) ∧ w = w' := by
  by_cases h1 : 1 ≤ n
  · by_cases h2 : n ≤ 1073741789
    · have HM := hide (elV_yes h1 h2)
      have HV := hide (fun W => valid_any n W)
      have g1 : ¬ n < 1 := by omega
      have g2 : ¬ 1073741789 < n := by omega
      have hw : IntKind.i64.wrap (2147483579 - n) = 2147483579 - n := IntWalk.i64_in _ (by omega)
      cases hv : vd n with
      | true =>
        have HE := hide (show el n = n by unfold el; rw [if_pos hv])
        rw [hv] at HV
        clear hv
        go_enter Tryd.func30, Tryd.ntmps30
        go_wp2_with fail
        refine (HV.out _).mono ?_
        rintro e w' ⟨rfl, rfl⟩
        go_wp2_with fail
        refine bodyPost_ret (results_tmp2 rfl _ _ _) rfl ?_
        exact ⟨by rw [HM.out, HE.out]; rfl, rfl⟩
      | false =>
        have HE := hide (show el n = 2147483579 - n by unfold el; rw [if_neg (by rw [hv]; simp)])
        rw [hv] at HV
        clear hv
        go_enter Tryd.func30, Tryd.ntmps30
        go_wp2_with fail
        refine (HV.out _).mono ?_
        rintro e w' ⟨rfl, rfl⟩
        go_wp2_with fail
        refine bodyPost_ret (results_tmp2 rfl _ _ _) rfl ?_
        exact ⟨by rw [HM.out, HE.out]; rfl, rfl⟩
    · have HM := hide (elV_no (n := n) (by omega))
      have g1 : ¬ n < 1 := by omega
      have g2 : 1073741789 < n := by omega
      clear h1 h2
      go_enter Tryd.func30, Tryd.ntmps30
      go_wp2_with fail
      refine bodyPost_ret (results_tmp2 rfl _ _ _) rfl ?_
      exact ⟨by rw [HM.out]; rfl, rfl⟩
  · have HM := hide (elV_no (n := n) (by omega))
    have g1 : n < 1 := by omega
    clear h1
    go_enter Tryd.func30, Tryd.ntmps30
    go_wp2_with fail
    refine bodyPost_ret (results_tmp2 rfl _ _ _) rfl ?_
    exact ⟨by rw [HM.out]; rfl, rfl⟩

theorem number_any (x : Int) (w : World) : Calls Tryd.prog 32 #[.int .i64 x] w fun e w' => e = .returned (nmV x) ∧ w = w' := by
  have HV := hide (fun W => valid_any x W)
  cases hv : vd x with
  | true =>
    have HM := hide (nmV_yes hv)
    have hvx := vd_iff.1 hv
    have g1 := hvx.1
    have g2 := hvx.2.1
    have hw : IntKind.i64.wrap (2147483579 - x) = 2147483579 - x := IntWalk.i64_in _ (by omega)
    rw [hv] at HV
    clear hv hvx
    by_cases h2 : x ≤ 1073741789
    · have HE := hide (show nm x = x by unfold nm; rw [if_pos h2])
      go_enter Tryd.func32, Tryd.ntmps32
      go_wp2_with fail
      refine (HV.out _).mono ?_
      rintro e w' ⟨rfl, rfl⟩
      go_wp2_with fail
      refine bodyPost_ret (results_tmp2 rfl _ _ _) rfl ?_
      exact ⟨by rw [HM.out, HE.out]; rfl, rfl⟩
    · have HE := hide (show nm x = 2147483579 - x by unfold nm; rw [if_neg h2])
      go_enter Tryd.func32, Tryd.ntmps32
      go_wp2_with fail
      refine (HV.out _).mono ?_
      rintro e w' ⟨rfl, rfl⟩
      go_wp2_with fail
      refine bodyPost_ret (results_tmp2 rfl _ _ _) rfl ?_
      exact ⟨by rw [HM.out, HE.out]; rfl, rfl⟩
  | false =>
    have HM := hide (nmV_no hv)
    rw [hv] at HV
    clear hv
    go_enter Tryd.func32, Tryd.ntmps32
    go_wp2_with fail
    refine (HV.out _).mono ?_
    rintro e w' ⟨rfl, rfl⟩
    go_wp2_with fail
    refine bodyPost_ret (results_tmp2 rfl _ _ _) rfl ?_
    exact ⟨by rw [HM.out]; rfl, rfl⟩
end Go.Proofs.YthimljcfmnehcaaDoor.Gp
