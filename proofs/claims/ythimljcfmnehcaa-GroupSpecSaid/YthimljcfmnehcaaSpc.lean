/- GroupSpec answers true. -/
import Derived.Test.YthimljcfmnehcaaSan
import Derived.Test.YthimljcfmnehcaaFun
namespace Go.Proofs.Ythimljcfmnehcaa
open Go.RowKit

set_option maxRecDepth 20000 in
set_option maxHeartbeats 3200000 in
theorem spec_walk (a b n : Int) (w : World) : Calls Try.prog 3 #[.int .i64 a, .int .i64 b, .int .i64 n] w fun e w' => e = .returned (.bool true) ∧ Below w.heap.size w w' := by
  have HS := hide (fun W => sane_any W)
  obtain ⟨x, e, hx⟩ : ∃ x e, mulV a b = .tuple #[.int .i64 x, .int .i64 e] := ⟨_, _, rfl⟩
  obtain ⟨y, f, hy⟩ : ∃ x e, powV a n = .tuple #[.int .i64 x, .int .i64 e] := ⟨_, _, rfl⟩
  have HM := hide (fun W => hx ▸ mul_any a b W)
  have HR := hide (fun W => hx ▸ rmul_any a b W)
  have HP := hide (fun W => hy ▸ pow_any a n W)
  have HQ := hide (fun W => hy ▸ rpow_any a n W)
  have HV := hide (fun W => valid_any a W)
  have HW := hide (fun W => rvalid_any a W)
  clear hx hy
  generalize vd a = v at *
  have HB0 := hide (Below.refl w.heap.size w)
  go_enter Try.func3, Try.ntmps3
  go_wp2_with fail
  refine (HS.out _).mono ?_
  rintro e wb2 ⟨rfl, hb⟩
  have HB1 := hide (below_one HB0.out hb)
  clear hb
  go_wp2_with fail
  refine (HM.out _).mono ?_
  rintro e w' ⟨rfl, rfl⟩
  go_wp2_with fail
  refine (HR.out _).mono ?_
  rintro e w' ⟨rfl, rfl⟩
  go_wp2_with fail
  refine (HP.out _).mono ?_
  rintro e wb3 ⟨rfl, hb⟩
  have HB2 := hide (below_one HB1.out hb)
  clear hb
  go_wp2_with fail
  refine (HQ.out _).mono ?_
  rintro e w' ⟨rfl, rfl⟩
  go_wp2_with fail
  refine (HV.out _).mono ?_
  rintro e w' ⟨rfl, rfl⟩
  go_wp2_with fail
  refine (HW.out _).mono ?_
  rintro e w' ⟨rfl, rfl⟩
  go_wp2_with fail
  go_ret
  exact ⟨by simp, HB2.out⟩
end Go.Proofs.Ythimljcfmnehcaa
