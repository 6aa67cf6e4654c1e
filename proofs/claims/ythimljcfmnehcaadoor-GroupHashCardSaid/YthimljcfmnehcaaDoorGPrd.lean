/- product, Valid, exponent: what they answer. -/
import Derived.Test.YthimljcfmnehcaaDoorGSym
namespace Go.Proofs.YthimljcfmnehcaaDoor.Gp
open Go.RowKit

theorem product_any (a b : Int) (w : World) (ha : 0 ≤ a) (ha2 : a < 2147483579) (hb : 0 ≤ b) (hb2 : b < 2147483579) : Calls Tryd.prog 69 #[.int .i64 a, .int .i64 b] w fun e w' => e = .returned (.int .i64 (mp (a * b))) ∧ w = w' := by
  have h1 := Int.mul_nonneg ha hb
  have h2 : a * b ≤ 2147483579 * 2147483579 := Int.mul_le_mul (by omega) (by omega) hb (by omega)
  have hw : IntKind.i64.wrap (a * b) = a * b := IntWalk.i64_in _ (by omega)
  have hn : (a * b).tmod 2147483579 = mp (a * b) := Int.tmod_eq_emod_of_nonneg h1
  have hm : IntKind.i64.wrap ((a * b).tmod 2147483579) = mp (a * b) := by
    have h5 := mp_lo (a * b)
    have h6 := mp_hi (a * b)
    rw [hn]
    exact IntWalk.i64_in _ (by omega)
  clear ha ha2 hb hb2 h1 h2
  go_enter Tryd.func69, Tryd.ntmps69
  go_wp2_with fail
  go_ret
  exact ⟨by simp, rfl⟩

theorem valid_any (x : Int) (w : World) : Calls Tryd.prog 57 #[.int .i64 x] w fun e w' => e = .returned (.bool (vd x)) ∧ w = w' := by
  by_cases h1 : 1 ≤ x
  · by_cases h2 : x < 2147483579
    · obtain ⟨n, rfl⟩ : ∃ n : Nat, x = (n : Int) := ⟨x.toNat, by omega⟩
      have HI := hide (isSquare_any n w (by omega) (by omega))
      go_enter Tryd.func57, Tryd.ntmps57
      go_wp2_with fail
      refine HI.out.mono ?_
      rintro e w' ⟨rfl, rfl⟩
      go_wp2_with fail
      go_ret
      exact ⟨rfl, rfl⟩
    · have HV := hide (vd_no.2 fun h => h2 h.2.1)
      go_enter Tryd.func57, Tryd.ntmps57
      go_wp2_with fail
      go_ret
      exact ⟨by rw [HV.out]; rfl, rfl⟩
  · have HV := hide (vd_no.2 fun h => h1 h.1)
    go_enter Tryd.func57, Tryd.ntmps57
    go_wp2_with fail
    go_ret
    exact ⟨by rw [HV.out]; rfl, rfl⟩

set_option maxHeartbeats 1600000 in
/-- exponent of one number -/
theorem exponent_any (n : Int) (w : World) (X : Nat) (hB : Blk w X 3 [.int .i64 n]) : Calls Tryd.prog 59 #[.slice (some ⟨X, 0, none⟩) 1 1] w fun e w' => e = .returned (.int .i64 (md n)) ∧ Below w.heap.size w w' := by
  have hc0 := hB.cell 0
  simp only [List.getElem?_cons_zero] at hc0
  clear hB
  go_enter Tryd.func59, Tryd.ntmps59
  go_wp2_with fail
  refine wp_loop_rounds 2 ?_
  rw [rounds_succ]
  go_wp2_with fail
  refine (add_any 0 n w).mono ?_
  rintro e w1 ⟨rfl, hb⟩
  have HB1 := hide hb
  clear hb hc0
  go_wp2_with fail
  rw [rounds_succ]
  go_wp2_with fail
  go_ret
  exact ⟨rfl, HB1.out⟩
end Go.Proofs.YthimljcfmnehcaaDoor.Gp
