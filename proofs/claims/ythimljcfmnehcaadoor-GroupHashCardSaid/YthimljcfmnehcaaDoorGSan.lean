/- The examples of the chapter. -/
import Derived.Test.YthimljcfmnehcaaDoorGElm
namespace Go.Proofs.YthimljcfmnehcaaDoor.Gp
open Go.RowKit

theorem s_P1 : powV 4 2 = .tuple #[.int .i64 16, .int .i64 0] := (powV_yes vd_4).trans (by rw [pw_4_2])
theorem s_P2 : powV 4 1073741789 = .tuple #[.int .i64 1, .int .i64 0] := (powV_yes vd_4).trans (by rw [pw_4_q])
theorem s_P3 : powV 4 (-1) = .tuple #[.int .i64 536870895, .int .i64 0] := (powV_yes vd_4).trans (by rw [pw_4_inv])
theorem s_P4 : powV 0 1 = .tuple #[.int .i64 0, .int .i64 100] := powV_no vd_0
theorem s_M1 : mulV 4 4 = .tuple #[.int .i64 16, .int .i64 0] := mulV_yes vd_4 vd_4
theorem s_M2 : mulV 4 2 = .tuple #[.int .i64 0, .int .i64 100] := mulV_nor vd_2
theorem s_E1 : elV 2 = .tuple #[.int .i64 2147483577, .int .i64 0] := (elV_yes (by omega) (by omega)).trans (by unfold el; rw [if_neg (by rw [vd_2]; simp)]; rfl)
theorem s_E2 : elV 0 = .tuple #[.int .i64 0, .int .i64 1] := elV_no (by omega)
theorem s_E3 : elV 1073741790 = .tuple #[.int .i64 0, .int .i64 1] := elV_no (by omega)
theorem s_N1 : nmV 2147483577 = .tuple #[.int .i64 2, .int .i64 0] := nmV_yes vd_p2
theorem s_N2 : nmV 2 = .tuple #[.int .i64 0, .int .i64 100] := nmV_no vd_2

set_option maxRecDepth 20000 in
set_option maxHeartbeats 6400000 in
theorem sane_any (w : World) : Calls Tryd.prog 29 #[] w fun e w' => e = .returned (.bool true) ∧ Below w.heap.size w w' := by
  have HP1 := hide (fun W => s_P1 ▸ pow_any 4 2 W)
  have HP2 := hide (fun W => s_P2 ▸ pow_any 4 1073741789 W)
  have HP3 := hide (fun W => s_P3 ▸ pow_any 4 (-1) W)
  have HP4 := hide (fun W => s_P4 ▸ pow_any 0 1 W)
  have HM1 := hide (fun W => s_M1 ▸ mul_any 4 4 W)
  have HM2 := hide (fun W => s_M2 ▸ mul_any 4 2 W)
  have HE1 := hide (fun W => s_E1 ▸ element_any 2 W)
  have HE2 := hide (fun W => s_E2 ▸ element_any 0 W)
  have HE3 := hide (fun W => s_E3 ▸ element_any 1073741790 W)
  have HN1 := hide (fun W => s_N1 ▸ number_any 2147483577 W)
  have HN2 := hide (fun W => s_N2 ▸ number_any 2 W)
  have HV1 := hide (fun W => vd_0 ▸ valid_any 0 W)
  have HV2 := hide (fun W => vd_p ▸ valid_any 2147483579 W)
  have HV3 := hide (fun W => vd_2 ▸ valid_any 2 W)
  have HV4 := hide (fun W => vd_1 ▸ valid_any 1 W)
  have HV5 := hide (fun W => vd_4 ▸ valid_any 4 W)
  have HV6 := hide (fun W => vd_p1 ▸ valid_any 2147483578 W)
  have HB0 := hide (Below.refl w.heap.size w)
  go_enter Tryd.func29, Tryd.ntmps29
  go_wp2_with fail
  refine (HP1.out _).mono ?_
  rintro e wb2 ⟨rfl, hb⟩
  have HB1 := hide (below_one HB0.out hb)
  clear hb
  go_wp2_with fail
  refine (HP2.out _).mono ?_
  rintro e wb3 ⟨rfl, hb⟩
  have HB2 := hide (below_one HB1.out hb)
  clear hb
  go_wp2_with fail
  refine (HP3.out _).mono ?_
  rintro e wb4 ⟨rfl, hb⟩
  have HB3 := hide (below_one HB2.out hb)
  clear hb
  go_wp2_with fail
  refine (HP4.out _).mono ?_
  rintro e wb5 ⟨rfl, hb⟩
  have HB4 := hide (below_one HB3.out hb)
  clear hb
  go_wp2_with fail
  refine (HM1.out _).mono ?_
  rintro e w' ⟨rfl, rfl⟩
  go_wp2_with fail
  refine (HM2.out _).mono ?_
  rintro e w' ⟨rfl, rfl⟩
  go_wp2_with fail
  refine (HE1.out _).mono ?_
  rintro e w' ⟨rfl, rfl⟩
  go_wp2_with fail
  refine (HE2.out _).mono ?_
  rintro e w' ⟨rfl, rfl⟩
  go_wp2_with fail
  refine (HE3.out _).mono ?_
  rintro e w' ⟨rfl, rfl⟩
  go_wp2_with fail
  refine (HN1.out _).mono ?_
  rintro e w' ⟨rfl, rfl⟩
  go_wp2_with fail
  refine (HN2.out _).mono ?_
  rintro e w' ⟨rfl, rfl⟩
  go_wp2_with fail
  refine (HV1.out _).mono ?_
  rintro e w' ⟨rfl, rfl⟩
  go_wp2_with fail
  refine (HV2.out _).mono ?_
  rintro e w' ⟨rfl, rfl⟩
  go_wp2_with fail
  refine (HV3.out _).mono ?_
  rintro e w' ⟨rfl, rfl⟩
  go_wp2_with fail
  refine (HV4.out _).mono ?_
  rintro e w' ⟨rfl, rfl⟩
  go_wp2_with fail
  refine (HV5.out _).mono ?_
  rintro e w' ⟨rfl, rfl⟩
  go_wp2_with fail
  refine (HV6.out _).mono ?_
  rintro e w' ⟨rfl, rfl⟩
  go_wp2_with fail
  go_ret
  exact ⟨rfl, HB4.out⟩
end Go.Proofs.YthimljcfmnehcaaDoor.Gp
