/- GroupInverse answers true. -/
import Derived.Test.YthimljcfmnehcaaSan
namespace Go.Proofs.Ythimljcfmnehcaa
open Go.RowKit

set_option maxRecDepth 20000 in
set_option maxHeartbeats 3200000 in
theorem inv_true_same (n : Int) (w : World) (h1 : 1 ≤ n) (h2 : n ≤ 1073741789) (hv : vd n = true) : Calls Try.prog 7 #[.int .i64 n, .int .i64 n] w fun e w' => e = .returned (.bool true) ∧ Below w.heap.size w w' := by
  have HS := hide (fun W => sane_any W)
  have HB0 := hide (Below.refl w.heap.size w)
  have hp : 1 ≤ n ∧ n ≤ 1073741789 := ⟨h1, h2⟩
  have hel : el n = n := by unfold el; rw [if_pos hv]
  have hvx : vd n = true := hv
  have hnm : nm n = n := by unfold nm; rw [if_pos h2]
  have HE1 := hide (fun W => (element_any (n) W).mono fun e w' h => (show e = .returned (.tuple #[.int .i64 (n), .int .i64 0]) ∧ W = w' from ⟨by rw [h.1, elV_yes h1 h2, hel], h.2⟩))
  have HN1 := hide (fun W => (number_any (n) W).mono fun e w' h => (show e = .returned (.tuple #[.int .i64 (n), .int .i64 0]) ∧ W = w' from ⟨by rw [h.1, nmV_yes hvx, hnm], h.2⟩))
  have HV1 := hide (fun W => (valid_any (n) W).mono fun e w' h => (show e = .returned (.bool true) ∧ W = w' from ⟨by rw [h.1, hvx], h.2⟩))
  have HE2 := hide (fun W => (element_any (n) W).mono fun e w' h => (show e = .returned (.tuple #[.int .i64 (n), .int .i64 0]) ∧ W = w' from ⟨by rw [h.1, elV_yes h1 h2, hel], h.2⟩))
  clear hp hel hvx hnm hv
  go_enter Try.func7, Try.ntmps7
  go_wp2_with fail
  refine (HS.out _).mono ?_
  rintro e wb2 ⟨rfl, hb⟩
  have HB1 := hide (below_one HB0.out hb)
  clear hb
  go_wp2_with fail
  refine (HE1.out _).mono ?_
  rintro e w' ⟨rfl, rfl⟩
  go_wp2_with fail
  refine (HN1.out _).mono ?_
  rintro e w' ⟨rfl, rfl⟩
  go_wp2_with fail
  refine (HV1.out _).mono ?_
  rintro e w' ⟨rfl, rfl⟩
  go_wp2_with fail
  refine (HE1.out _).mono ?_
  rintro e w' ⟨rfl, rfl⟩
  go_wp2_with fail
  refine (HN1.out _).mono ?_
  rintro e w' ⟨rfl, rfl⟩
  go_wp2_with fail
  refine (HV1.out _).mono ?_
  rintro e w' ⟨rfl, rfl⟩
  go_wp2_with fail
  refine (HE2.out _).mono ?_
  rintro e w' ⟨rfl, rfl⟩
  go_wp2_with fail
  go_ret
  exact ⟨by simp, HB1.out⟩
set_option maxRecDepth 20000 in
set_option maxHeartbeats 3200000 in
theorem inv_true_other (n m : Int) (w : World) (h1 : 1 ≤ n) (h2 : n ≤ 1073741789) (hv : vd n = true) (h3 : 1 ≤ m) (h4 : m ≤ 1073741789) (h5 : n ≠ m) : Calls Try.prog 7 #[.int .i64 n, .int .i64 m] w fun e w' => e = .returned (.bool true) ∧ Below w.heap.size w w' := by
  have HS := hide (fun W => sane_any W)
  have HB0 := hide (Below.refl w.heap.size w)
  have hp : 1 ≤ n ∧ n ≤ 1073741789 := ⟨h1, h2⟩
  have hel : el n = n := by unfold el; rw [if_pos hv]
  have hvx : vd n = true := hv
  have hnm : nm n = n := by unfold nm; rw [if_pos h2]
  have HE1 := hide (fun W => (element_any (n) W).mono fun e w' h => (show e = .returned (.tuple #[.int .i64 (n), .int .i64 0]) ∧ W = w' from ⟨by rw [h.1, elV_yes h1 h2, hel], h.2⟩))
  have HN1 := hide (fun W => (number_any (n) W).mono fun e w' h => (show e = .returned (.tuple #[.int .i64 (n), .int .i64 0]) ∧ W = w' from ⟨by rw [h.1, nmV_yes hvx, hnm], h.2⟩))
  have HV1 := hide (fun W => (valid_any (n) W).mono fun e w' h => (show e = .returned (.bool true) ∧ W = w' from ⟨by rw [h.1, hvx], h.2⟩))
  have hne : el n ≠ el m := fun h => h5 ((el_inj h1 h2 h3 h4).1 h)
  have HEM := hide (fun W => (element_any (m) W).mono fun e w' h => (show e = .returned (.tuple #[.int .i64 (el m), .int .i64 0]) ∧ W = w' from ⟨by rw [h.1, elV_yes h3 h4], h.2⟩))
  rw [hel] at hne
  generalize el m = y at *
  have q3 : (n == y) = false := by simpa using hne
  have q4 : (n == m) = false := by simpa using h5
  have HE2 := hide (fun W => (element_any (n) W).mono fun e w' h => (show e = .returned (.tuple #[.int .i64 (n), .int .i64 0]) ∧ W = w' from ⟨by rw [h.1, elV_yes h1 h2, hel], h.2⟩))
  clear hp hel hvx hnm hv hne h5
  go_enter Try.func7, Try.ntmps7
  go_wp2_with fail
  refine (HS.out _).mono ?_
  rintro e wb2 ⟨rfl, hb⟩
  have HB1 := hide (below_one HB0.out hb)
  clear hb
  go_wp2_with fail
  refine (HE1.out _).mono ?_
  rintro e w' ⟨rfl, rfl⟩
  go_wp2_with fail
  refine (HN1.out _).mono ?_
  rintro e w' ⟨rfl, rfl⟩
  go_wp2_with fail
  refine (HV1.out _).mono ?_
  rintro e w' ⟨rfl, rfl⟩
  go_wp2_with fail
  refine (HEM.out _).mono ?_
  rintro e w' ⟨rfl, rfl⟩
  go_wp2_with fail
  refine (HN1.out _).mono ?_
  rintro e w' ⟨rfl, rfl⟩
  go_wp2_with fail
  refine (HV1.out _).mono ?_
  rintro e w' ⟨rfl, rfl⟩
  go_wp2_with fail
  refine (HE2.out _).mono ?_
  rintro e w' ⟨rfl, rfl⟩
  go_wp2_with fail
  go_ret
  exact ⟨by simp, HB1.out⟩
set_option maxRecDepth 20000 in
set_option maxHeartbeats 3200000 in
theorem inv_true_out (n m : Int) (w : World) (h1 : 1 ≤ n) (h2 : n ≤ 1073741789) (hv : vd n = true) (h3 : ¬ (1 ≤ m ∧ m ≤ 1073741789)) : Calls Try.prog 7 #[.int .i64 n, .int .i64 m] w fun e w' => e = .returned (.bool true) ∧ Below w.heap.size w w' := by
  have HS := hide (fun W => sane_any W)
  have HB0 := hide (Below.refl w.heap.size w)
  have hp : 1 ≤ n ∧ n ≤ 1073741789 := ⟨h1, h2⟩
  have hel : el n = n := by unfold el; rw [if_pos hv]
  have hvx : vd n = true := hv
  have hnm : nm n = n := by unfold nm; rw [if_pos h2]
  have HE1 := hide (fun W => (element_any (n) W).mono fun e w' h => (show e = .returned (.tuple #[.int .i64 (n), .int .i64 0]) ∧ W = w' from ⟨by rw [h.1, elV_yes h1 h2, hel], h.2⟩))
  have HN1 := hide (fun W => (number_any (n) W).mono fun e w' h => (show e = .returned (.tuple #[.int .i64 (n), .int .i64 0]) ∧ W = w' from ⟨by rw [h.1, nmV_yes hvx, hnm], h.2⟩))
  have HV1 := hide (fun W => (valid_any (n) W).mono fun e w' h => (show e = .returned (.bool true) ∧ W = w' from ⟨by rw [h.1, hvx], h.2⟩))
  have HEM := hide (fun W => (element_any (m) W).mono fun e w' h => (show e = .returned (.tuple #[.int .i64 (0), .int .i64 1]) ∧ W = w' from ⟨by rw [h.1, elV_no h3], h.2⟩))
  have HE2 := hide (fun W => (element_any (n) W).mono fun e w' h => (show e = .returned (.tuple #[.int .i64 (n), .int .i64 0]) ∧ W = w' from ⟨by rw [h.1, elV_yes h1 h2, hel], h.2⟩))
  clear hp hel hvx hnm hv h3
  go_enter Try.func7, Try.ntmps7
  go_wp2_with fail
  refine (HS.out _).mono ?_
  rintro e wb2 ⟨rfl, hb⟩
  have HB1 := hide (below_one HB0.out hb)
  clear hb
  go_wp2_with fail
  refine (HE1.out _).mono ?_
  rintro e w' ⟨rfl, rfl⟩
  go_wp2_with fail
  refine (HN1.out _).mono ?_
  rintro e w' ⟨rfl, rfl⟩
  go_wp2_with fail
  refine (HV1.out _).mono ?_
  rintro e w' ⟨rfl, rfl⟩
  go_wp2_with fail
  refine (HEM.out _).mono ?_
  rintro e w' ⟨rfl, rfl⟩
  go_wp2_with fail
  refine (HN1.out _).mono ?_
  rintro e w' ⟨rfl, rfl⟩
  go_wp2_with fail
  refine (HV1.out _).mono ?_
  rintro e w' ⟨rfl, rfl⟩
  go_wp2_with fail
  refine (HE2.out _).mono ?_
  rintro e w' ⟨rfl, rfl⟩
  go_wp2_with fail
  go_ret
  exact ⟨by simp, HB1.out⟩
set_option maxRecDepth 20000 in
set_option maxHeartbeats 3200000 in
theorem inv_false_same (n : Int) (w : World) (h1 : 1 ≤ n) (h2 : n ≤ 1073741789) (hv : vd n = false) : Calls Try.prog 7 #[.int .i64 n, .int .i64 n] w fun e w' => e = .returned (.bool true) ∧ Below w.heap.size w w' := by
  have HS := hide (fun W => sane_any W)
  have HB0 := hide (Below.refl w.heap.size w)
  have hp : 1 ≤ n ∧ n ≤ 1073741789 := ⟨h1, h2⟩
  have hel : el n = 2147483579 - n := by unfold el; rw [if_neg (by rw [hv]; simp)]
  have hvx : vd (2147483579 - n) = true := vd_iff.2 (hel ▸ el_vd h1 h2)
  have hnm : nm (2147483579 - n) = n := by unfold nm; rw [if_neg (by omega)]; omega
  have hw : IntKind.i64.wrap (2147483579 - n) = 2147483579 - n := IntWalk.i64_in _ (by omega)
  have q1 : (2147483579 - n == n) = false := by simp; omega
  have q2 : (2147483579 - n != n) = true := by simp; omega
  have HE1 := hide (fun W => (element_any (n) W).mono fun e w' h => (show e = .returned (.tuple #[.int .i64 (2147483579 - n), .int .i64 0]) ∧ W = w' from ⟨by rw [h.1, elV_yes h1 h2, hel], h.2⟩))
  have HN1 := hide (fun W => (number_any (2147483579 - n) W).mono fun e w' h => (show e = .returned (.tuple #[.int .i64 (n), .int .i64 0]) ∧ W = w' from ⟨by rw [h.1, nmV_yes hvx, hnm], h.2⟩))
  have HV1 := hide (fun W => (valid_any (2147483579 - n) W).mono fun e w' h => (show e = .returned (.bool true) ∧ W = w' from ⟨by rw [h.1, hvx], h.2⟩))
  have HN2 := hide (fun W => (number_any (n) W).mono fun e w' h => (show e = .returned (.tuple #[.int .i64 (0), .int .i64 100]) ∧ W = w' from ⟨by rw [h.1, nmV_no hv], h.2⟩))
  have HV2 := hide (fun W => (valid_any (n) W).mono fun e w' h => (show e = .returned (.bool false) ∧ W = w' from ⟨by rw [h.1, hv], h.2⟩))
  clear hp hel hvx hnm hv
  go_enter Try.func7, Try.ntmps7
  go_wp2_with fail
  refine (HS.out _).mono ?_
  rintro e wb2 ⟨rfl, hb⟩
  have HB1 := hide (below_one HB0.out hb)
  clear hb
  go_wp2_with fail
  refine (HE1.out _).mono ?_
  rintro e w' ⟨rfl, rfl⟩
  go_wp2_with fail
  refine (HN1.out _).mono ?_
  rintro e w' ⟨rfl, rfl⟩
  go_wp2_with fail
  refine (HV1.out _).mono ?_
  rintro e w' ⟨rfl, rfl⟩
  go_wp2_with fail
  refine (HE1.out _).mono ?_
  rintro e w' ⟨rfl, rfl⟩
  go_wp2_with fail
  refine (HN2.out _).mono ?_
  rintro e w' ⟨rfl, rfl⟩
  go_wp2_with fail
  refine (HV2.out _).mono ?_
  rintro e w' ⟨rfl, rfl⟩
  go_wp2_with fail
  go_ret
  exact ⟨by simp, HB1.out⟩
set_option maxRecDepth 20000 in
set_option maxHeartbeats 3200000 in
theorem inv_false_other (n m : Int) (w : World) (h1 : 1 ≤ n) (h2 : n ≤ 1073741789) (hv : vd n = false) (h3 : 1 ≤ m) (h4 : m ≤ 1073741789) (h5 : n ≠ m) : Calls Try.prog 7 #[.int .i64 n, .int .i64 m] w fun e w' => e = .returned (.bool true) ∧ Below w.heap.size w w' := by
  have HS := hide (fun W => sane_any W)
  have HB0 := hide (Below.refl w.heap.size w)
  have hp : 1 ≤ n ∧ n ≤ 1073741789 := ⟨h1, h2⟩
  have hel : el n = 2147483579 - n := by unfold el; rw [if_neg (by rw [hv]; simp)]
  have hvx : vd (2147483579 - n) = true := vd_iff.2 (hel ▸ el_vd h1 h2)
  have hnm : nm (2147483579 - n) = n := by unfold nm; rw [if_neg (by omega)]; omega
  have hw : IntKind.i64.wrap (2147483579 - n) = 2147483579 - n := IntWalk.i64_in _ (by omega)
  have q1 : (2147483579 - n == n) = false := by simp; omega
  have q2 : (2147483579 - n != n) = true := by simp; omega
  have HE1 := hide (fun W => (element_any (n) W).mono fun e w' h => (show e = .returned (.tuple #[.int .i64 (2147483579 - n), .int .i64 0]) ∧ W = w' from ⟨by rw [h.1, elV_yes h1 h2, hel], h.2⟩))
  have HN1 := hide (fun W => (number_any (2147483579 - n) W).mono fun e w' h => (show e = .returned (.tuple #[.int .i64 (n), .int .i64 0]) ∧ W = w' from ⟨by rw [h.1, nmV_yes hvx, hnm], h.2⟩))
  have HV1 := hide (fun W => (valid_any (2147483579 - n) W).mono fun e w' h => (show e = .returned (.bool true) ∧ W = w' from ⟨by rw [h.1, hvx], h.2⟩))
  have hne : el n ≠ el m := fun h => h5 ((el_inj h1 h2 h3 h4).1 h)
  have HEM := hide (fun W => (element_any (m) W).mono fun e w' h => (show e = .returned (.tuple #[.int .i64 (el m), .int .i64 0]) ∧ W = w' from ⟨by rw [h.1, elV_yes h3 h4], h.2⟩))
  rw [hel] at hne
  generalize el m = y at *
  have q3 : (2147483579 - n == y) = false := by simpa using hne
  have q4 : (n == m) = false := by simpa using h5
  have HN2 := hide (fun W => (number_any (n) W).mono fun e w' h => (show e = .returned (.tuple #[.int .i64 (0), .int .i64 100]) ∧ W = w' from ⟨by rw [h.1, nmV_no hv], h.2⟩))
  have HV2 := hide (fun W => (valid_any (n) W).mono fun e w' h => (show e = .returned (.bool false) ∧ W = w' from ⟨by rw [h.1, hv], h.2⟩))
  clear hp hel hvx hnm hv hne h5
  go_enter Try.func7, Try.ntmps7
  go_wp2_with fail
  refine (HS.out _).mono ?_
  rintro e wb2 ⟨rfl, hb⟩
  have HB1 := hide (below_one HB0.out hb)
  clear hb
  go_wp2_with fail
  refine (HE1.out _).mono ?_
  rintro e w' ⟨rfl, rfl⟩
  go_wp2_with fail
  refine (HN1.out _).mono ?_
  rintro e w' ⟨rfl, rfl⟩
  go_wp2_with fail
  refine (HV1.out _).mono ?_
  rintro e w' ⟨rfl, rfl⟩
  go_wp2_with fail
  refine (HEM.out _).mono ?_
  rintro e w' ⟨rfl, rfl⟩
  go_wp2_with fail
  refine (HN2.out _).mono ?_
  rintro e w' ⟨rfl, rfl⟩
  go_wp2_with fail
  refine (HV2.out _).mono ?_
  rintro e w' ⟨rfl, rfl⟩
  go_wp2_with fail
  go_ret
  exact ⟨by simp, HB1.out⟩
set_option maxRecDepth 20000 in
set_option maxHeartbeats 3200000 in
theorem inv_false_out (n m : Int) (w : World) (h1 : 1 ≤ n) (h2 : n ≤ 1073741789) (hv : vd n = false) (h3 : ¬ (1 ≤ m ∧ m ≤ 1073741789)) : Calls Try.prog 7 #[.int .i64 n, .int .i64 m] w fun e w' => e = .returned (.bool true) ∧ Below w.heap.size w w' := by
  have HS := hide (fun W => sane_any W)
  have HB0 := hide (Below.refl w.heap.size w)
  have hp : 1 ≤ n ∧ n ≤ 1073741789 := ⟨h1, h2⟩
  have hel : el n = 2147483579 - n := by unfold el; rw [if_neg (by rw [hv]; simp)]
  have hvx : vd (2147483579 - n) = true := vd_iff.2 (hel ▸ el_vd h1 h2)
  have hnm : nm (2147483579 - n) = n := by unfold nm; rw [if_neg (by omega)]; omega
  have hw : IntKind.i64.wrap (2147483579 - n) = 2147483579 - n := IntWalk.i64_in _ (by omega)
  have q1 : (2147483579 - n == n) = false := by simp; omega
  have q2 : (2147483579 - n != n) = true := by simp; omega
  have HE1 := hide (fun W => (element_any (n) W).mono fun e w' h => (show e = .returned (.tuple #[.int .i64 (2147483579 - n), .int .i64 0]) ∧ W = w' from ⟨by rw [h.1, elV_yes h1 h2, hel], h.2⟩))
  have HN1 := hide (fun W => (number_any (2147483579 - n) W).mono fun e w' h => (show e = .returned (.tuple #[.int .i64 (n), .int .i64 0]) ∧ W = w' from ⟨by rw [h.1, nmV_yes hvx, hnm], h.2⟩))
  have HV1 := hide (fun W => (valid_any (2147483579 - n) W).mono fun e w' h => (show e = .returned (.bool true) ∧ W = w' from ⟨by rw [h.1, hvx], h.2⟩))
  have HEM := hide (fun W => (element_any (m) W).mono fun e w' h => (show e = .returned (.tuple #[.int .i64 (0), .int .i64 1]) ∧ W = w' from ⟨by rw [h.1, elV_no h3], h.2⟩))
  have HN2 := hide (fun W => (number_any (n) W).mono fun e w' h => (show e = .returned (.tuple #[.int .i64 (0), .int .i64 100]) ∧ W = w' from ⟨by rw [h.1, nmV_no hv], h.2⟩))
  have HV2 := hide (fun W => (valid_any (n) W).mono fun e w' h => (show e = .returned (.bool false) ∧ W = w' from ⟨by rw [h.1, hv], h.2⟩))
  clear hp hel hvx hnm hv h3
  go_enter Try.func7, Try.ntmps7
  go_wp2_with fail
  refine (HS.out _).mono ?_
  rintro e wb2 ⟨rfl, hb⟩
  have HB1 := hide (below_one HB0.out hb)
  clear hb
  go_wp2_with fail
  refine (HE1.out _).mono ?_
  rintro e w' ⟨rfl, rfl⟩
  go_wp2_with fail
  refine (HN1.out _).mono ?_
  rintro e w' ⟨rfl, rfl⟩
  go_wp2_with fail
  refine (HV1.out _).mono ?_
  rintro e w' ⟨rfl, rfl⟩
  go_wp2_with fail
  refine (HEM.out _).mono ?_
  rintro e w' ⟨rfl, rfl⟩
  go_wp2_with fail
  refine (HN2.out _).mono ?_
  rintro e w' ⟨rfl, rfl⟩
  go_wp2_with fail
  refine (HV2.out _).mono ?_
  rintro e w' ⟨rfl, rfl⟩
  go_wp2_with fail
  go_ret
  exact ⟨by simp, HB1.out⟩
set_option maxRecDepth 20000 in
set_option maxHeartbeats 3200000 in
theorem inv_low (n m : Int) (w : World) (h1 : n < 1) : Calls Try.prog 7 #[.int .i64 n, .int .i64 m] w fun e w' => e = .returned (.bool true) ∧ Below w.heap.size w w' := by
  have HS := hide (fun W => sane_any W)
  have HB0 := hide (Below.refl w.heap.size w)
  have hv : vd n = false := vd_no.2 fun h => by have := h.1; omega
  have g1 : ¬ 1 ≤ n := by omega
  have HE1 := hide (fun W => (element_any (n) W).mono fun e w' h => (show e = .returned (.tuple #[.int .i64 (0), .int .i64 1]) ∧ W = w' from ⟨by rw [h.1, elV_no (by omega)], h.2⟩))
  have HN2 := hide (fun W => (number_any (n) W).mono fun e w' h => (show e = .returned (.tuple #[.int .i64 (0), .int .i64 100]) ∧ W = w' from ⟨by rw [h.1, nmV_no hv], h.2⟩))
  have HV2 := hide (fun W => (valid_any (n) W).mono fun e w' h => (show e = .returned (.bool false) ∧ W = w' from ⟨by rw [h.1, hv], h.2⟩))
  clear hv
  go_enter Try.func7, Try.ntmps7
  go_wp2_with fail
  refine (HS.out _).mono ?_
  rintro e wb2 ⟨rfl, hb⟩
  have HB1 := hide (below_one HB0.out hb)
  clear hb
  go_wp2_with fail
  refine (HE1.out _).mono ?_
  rintro e w' ⟨rfl, rfl⟩
  go_wp2_with fail
  refine (HN2.out _).mono ?_
  rintro e w' ⟨rfl, rfl⟩
  go_wp2_with fail
  refine (HV2.out _).mono ?_
  rintro e w' ⟨rfl, rfl⟩
  go_wp2_with fail
  go_ret
  exact ⟨by simp, HB1.out⟩
set_option maxRecDepth 20000 in
set_option maxHeartbeats 3200000 in
theorem inv_high_no (n m : Int) (w : World) (h1 : 1073741789 < n) (hv : vd n = false) : Calls Try.prog 7 #[.int .i64 n, .int .i64 m] w fun e w' => e = .returned (.bool true) ∧ Below w.heap.size w w' := by
  have HS := hide (fun W => sane_any W)
  have HB0 := hide (Below.refl w.heap.size w)
  have g1 : 1 ≤ n := by omega
  have g2 : ¬ n ≤ 1073741789 := by omega
  have HE1 := hide (fun W => (element_any (n) W).mono fun e w' h => (show e = .returned (.tuple #[.int .i64 (0), .int .i64 1]) ∧ W = w' from ⟨by rw [h.1, elV_no (by omega)], h.2⟩))
  have HN2 := hide (fun W => (number_any (n) W).mono fun e w' h => (show e = .returned (.tuple #[.int .i64 (0), .int .i64 100]) ∧ W = w' from ⟨by rw [h.1, nmV_no hv], h.2⟩))
  have HV2 := hide (fun W => (valid_any (n) W).mono fun e w' h => (show e = .returned (.bool false) ∧ W = w' from ⟨by rw [h.1, hv], h.2⟩))
  clear hv
  go_enter Try.func7, Try.ntmps7
  go_wp2_with fail
  refine (HS.out _).mono ?_
  rintro e wb2 ⟨rfl, hb⟩
  have HB1 := hide (below_one HB0.out hb)
  clear hb
  go_wp2_with fail
  refine (HE1.out _).mono ?_
  rintro e w' ⟨rfl, rfl⟩
  go_wp2_with fail
  refine (HN2.out _).mono ?_
  rintro e w' ⟨rfl, rfl⟩
  go_wp2_with fail
  refine (HV2.out _).mono ?_
  rintro e w' ⟨rfl, rfl⟩
  go_wp2_with fail
  go_ret
  exact ⟨by simp, HB1.out⟩
set_option maxRecDepth 20000 in
set_option maxHeartbeats 3200000 in
theorem inv_high_yes (n m : Int) (w : World) (h1 : 1073741789 < n) (hv : vd n = true) : Calls Try.prog 7 #[.int .i64 n, .int .i64 m] w fun e w' => e = .returned (.bool true) ∧ Below w.heap.size w w' := by
  have HS := hide (fun W => sane_any W)
  have HB0 := hide (Below.refl w.heap.size w)
  have g1 : 1 ≤ n := by omega
  have g2 : ¬ n ≤ 1073741789 := by omega
  have hlt := (vd_iff.1 hv).2.1
  have hnm : nm n = 2147483579 - n := by unfold nm; rw [if_neg (by omega)]
  have hel : el (2147483579 - n) = n := by rw [← hnm]; exact el_nm (vd_iff.1 hv)
  have HE1 := hide (fun W => (element_any (n) W).mono fun e w' h => (show e = .returned (.tuple #[.int .i64 (0), .int .i64 1]) ∧ W = w' from ⟨by rw [h.1, elV_no (by omega)], h.2⟩))
  have HN2 := hide (fun W => (number_any (n) W).mono fun e w' h => (show e = .returned (.tuple #[.int .i64 (2147483579 - n), .int .i64 0]) ∧ W = w' from ⟨by rw [h.1, nmV_yes hv, hnm], h.2⟩))
  have HV2 := hide (fun W => (valid_any (n) W).mono fun e w' h => (show e = .returned (.bool true) ∧ W = w' from ⟨by rw [h.1, hv], h.2⟩))
  have HE2 := hide (fun W => (element_any (2147483579 - n) W).mono fun e w' h => (show e = .returned (.tuple #[.int .i64 (n), .int .i64 0]) ∧ W = w' from ⟨by rw [h.1, elV_yes (by omega) (by omega), hel], h.2⟩))
  have g3 : 1 ≤ 2147483579 - n := by omega
  have g4 : 2147483579 - n ≤ 1073741789 := by omega
  clear hv hnm hel
  go_enter Try.func7, Try.ntmps7
  go_wp2_with fail
  refine (HS.out _).mono ?_
  rintro e wb2 ⟨rfl, hb⟩
  have HB1 := hide (below_one HB0.out hb)
  clear hb
  go_wp2_with fail
  refine (HE1.out _).mono ?_
  rintro e w' ⟨rfl, rfl⟩
  go_wp2_with fail
  refine (HN2.out _).mono ?_
  rintro e w' ⟨rfl, rfl⟩
  go_wp2_with fail
  refine (HV2.out _).mono ?_
  rintro e w' ⟨rfl, rfl⟩
  go_wp2_with fail
  refine (HE2.out _).mono ?_
  rintro e w' ⟨rfl, rfl⟩
  go_wp2_with fail
  go_ret
  exact ⟨by simp, HB1.out⟩
theorem inverse_walk (n m : Int) (w : World) : Calls Try.prog 7 #[.int .i64 n, .int .i64 m] w fun e w' => e = .returned (.bool true) ∧ Below w.heap.size w w' := by
  by_cases h1 : 1 ≤ n
  · by_cases h2 : n ≤ 1073741789
    · cases hv : vd n with
      | true =>
        by_cases h3 : 1 ≤ m ∧ m ≤ 1073741789
        · by_cases h4 : n = m
          · subst h4; exact inv_true_same n w h1 h2 hv
          · exact inv_true_other n m w h1 h2 hv h3.1 h3.2 h4
        · exact inv_true_out n m w h1 h2 hv h3
      | false =>
        by_cases h3 : 1 ≤ m ∧ m ≤ 1073741789
        · by_cases h4 : n = m
          · subst h4; exact inv_false_same n w h1 h2 hv
          · exact inv_false_other n m w h1 h2 hv h3.1 h3.2 h4
        · exact inv_false_out n m w h1 h2 hv h3
    · cases hv : vd n with
      | true => exact inv_high_yes n m w (by omega) hv
      | false => exact inv_high_no n m w (by omega) hv
  · exact inv_low n m w (by omega)
end Go.Proofs.Ythimljcfmnehcaa
