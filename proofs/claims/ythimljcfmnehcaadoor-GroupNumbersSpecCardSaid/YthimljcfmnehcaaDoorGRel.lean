/- The reference's Element and Number. -/
import Derived.Test.YthimljcfmnehcaaDoorGElm
namespace Go.Proofs.YthimljcfmnehcaaDoor.Gp
open Go.RowKit

theorem relement_any (n : Int) (w : World) : Calls Tryd.prog 31 #[.int .i64 n] w fun e w' => e = .returned (elV n) ∧ w = w' := by
  by_cases h1 : 1 ≤ n
  · by_cases h2 : n ≤ 1073741789
    · have HM := hide (elV_yes h1 h2)
      have HV := hide (fun W => rvalid_any n W)
      have g1 : ¬ n < 1 := by omega
      have g2 : ¬ 1073741789 < n := by omega
      have hw : IntKind.i64.wrap (2147483579 - n) = 2147483579 - n := IntWalk.i64_in _ (by omega)
      cases hv : vd n with
      | true =>
        have HE := hide (show el n = n by unfold el; rw [if_pos hv])
        rw [hv] at HV
        clear hv
        go_enter Tryd.func31, Tryd.ntmps31
        go_wp2_with fail
        refine (HV.out _).mono ?_
        rintro e w' ⟨rfl, rfl⟩
        go_wp2_with fail
        refine bodyPost_ret (results_tmp2 rfl _ _ _) rfl ?_
        exact ⟨by rw [HM.out, HE.out]; rfl, rfl⟩
      | false =>
        have HE := hide (show el n = 2147483579 - n by unfold el; rw [if_neg (by rw [hv]; simp)])
        rw [hv] at HV
        clear hv
        go_enter Tryd.func31, Tryd.ntmps31
        go_wp2_with fail
        refine (HV.out _).mono ?_
        rintro e w' ⟨rfl, rfl⟩
        go_wp2_with fail
        refine bodyPost_ret (results_tmp2 rfl _ _ _) rfl ?_
        exact ⟨by rw [HM.out, HE.out]; rfl, rfl⟩
    · have HM := hide (elV_no (n := n) (by omega))
      have g1 : ¬ n < 1 := by omega
      have g2 : 1073741789 < n := by omega
      clear h1 h2
      go_enter Tryd.func31, Tryd.ntmps31
      go_wp2_with fail
      refine bodyPost_ret (results_tmp2 rfl _ _ _) rfl ?_
      exact ⟨by rw [HM.out]; rfl, rfl⟩
  · have HM := hide (elV_no (n := n) (by omega))
    have g1 : n < 1 := by omega
    clear h1
    go_enter Tryd.func31, Tryd.ntmps31
    go_wp2_with fail
    refine bodyPost_ret (results_tmp2 rfl _ _ _) rfl ?_
    exact ⟨by rw [HM.out]; rfl, rfl⟩

theorem rnumber_any (x : Int) (w : World) : Calls Tryd.prog 33 #[.int .i64 x] w fun e w' => e = .returned (nmV x) ∧ w = w' := by
  have HV := hide (fun W => rvalid_any x W)
  cases hv : vd x with
  | true =>
    have HM := hide (nmV_yes hv)
    have hvx := vd_iff.1 hv
    have g1 := hvx.1
    have g2 := hvx.2.1
    have hw : IntKind.i64.wrap (2147483579 - x) = 2147483579 - x := IntWalk.i64_in _ (by omega)
    rw [hv] at HV
    clear hv hvx
    by_cases h2 : x ≤ 1073741789
    · have HE := hide (show nm x = x by unfold nm; rw [if_pos h2])
      go_enter Tryd.func33, Tryd.ntmps33
      go_wp2_with fail
      refine (HV.out _).mono ?_
      rintro e w' ⟨rfl, rfl⟩
      go_wp2_with fail
      refine bodyPost_ret (results_tmp2 rfl _ _ _) rfl ?_
      exact ⟨by rw [HM.out, HE.out]; rfl, rfl⟩
    · have HE := hide (show nm x = 2147483579 - x by unfold nm; rw [if_neg h2])
      go_enter Tryd.func33, Tryd.ntmps33
      go_wp2_with fail
      refine (HV.out _).mono ?_
      rintro e w' ⟨rfl, rfl⟩
      go_wp2_with fail
      refine bodyPost_ret (results_tmp2 rfl _ _ _) rfl ?_
      exact ⟨by rw [HM.out, HE.out]; rfl, rfl⟩
  | false =>
    have HM := hide (nmV_no hv)
    rw [hv] at HV
    clear hv
    go_enter Tryd.func33, Tryd.ntmps33
    go_wp2_with fail
    refine (HV.out _).mono ?_
    rintro e w' ⟨rfl, rfl⟩
    go_wp2_with fail
    refine bodyPost_ret (results_tmp2 rfl _ _ _) rfl ?_
    exact ⟨by rw [HM.out]; rfl, rfl⟩
end Go.Proofs.YthimljcfmnehcaaDoor.Gp
