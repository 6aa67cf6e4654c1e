/- GroupSquares answers true. -/
import Derived.Test.YthimljcfmnehcaaSan
import Derived.Test.YthimljcfmnehcaaFun
namespace Go.Proofs.Ythimljcfmnehcaa
open Go.RowKit

theorem tmod_mp (n : Int) : (n.tmod 2147483579 < 0 ∧ n.tmod 2147483579 + 2147483579 = mp n) ∨ (0 ≤ n.tmod 2147483579 ∧ n.tmod 2147483579 = mp n) := by
  have h := Int.tmod_eq_emod (a := n) (b := 2147483579)
  unfold mp
  split at h <;> omega
theorem tmodp_range (n : Int) : -2147483579 ≤ n.tmod 2147483579 ∧ n.tmod 2147483579 < 2147483579 := by
  have h := tmod_mp n
  have h1 := mp_lo n
  have h2 := mp_hi n
  omega
theorem vd_opp {n : Int} (h1 : 1 ≤ n) (h2 : n < 2147483579) : vd (2147483579 - n) = !vd n := by
  have := vd_neg h1 h2
  cases hv : vd n with
  | true => exact vd_no.2 fun h => this.1 h (vd_iff.1 hv)
  | false => exact vd_iff.2 (this.2 (vd_no.1 hv))
set_option maxRecDepth 20000 in
set_option maxHeartbeats 3200000 in
theorem sq_neg_zero (x n t : Int) (w : World) (ht : x.tmod 2147483579 = t) (hr : -2147483579 ≤ t ∧ t < 2147483579) (hs : t < 0 ∧ t + 2147483579 = n) (h0 : n = 0) : Calls Try.prog 6 #[.int .i64 x] w fun e w' => e = .returned (.bool true) ∧ Below w.heap.size w w' := by
  have HS := hide (fun W => sane_any W)
  have HB0 := hide (Below.refl w.heap.size w)
  obtain ⟨hs1, hs2⟩ := hs
  have hr1 := hr.1
  have hr2 := hr.2
  have hw0 : IntKind.i64.wrap t = t := IntWalk.i64_in _ (by omega)
  have hw1 : IntKind.i64.wrap (t + 2147483579) = n := by rw [IntWalk.i64_in _ (by omega), hs2]
  subst h0
  have HV1 := hide (fun W => (valid_any (0) W).mono fun e w' h => (show e = .returned (.bool false) ∧ W = w' from ⟨by rw [h.1, vd_0], h.2⟩))
  have HV2 := hide (fun W => (valid_any (2147483579) W).mono fun e w' h => (show e = .returned (.bool false) ∧ W = w' from ⟨by rw [h.1, vd_p], h.2⟩))
  have HV3 := hide (fun W => (valid_any (-4) W).mono fun e w' h => (show e = .returned (.bool false) ∧ W = w' from ⟨by rw [h.1, vd_neg4], h.2⟩))
  clear hs2
  go_enter Try.func6, Try.ntmps6
  go_wp2_with fail
  refine (HS.out _).mono ?_
  rintro e wb2 ⟨rfl, hb⟩
  have HB1 := hide (below_one HB0.out hb)
  clear hb
  go_wp2_with fail
  refine (HV1.out _).mono ?_
  rintro e w' ⟨rfl, rfl⟩
  go_wp2_with fail
  refine (HV2.out _).mono ?_
  rintro e w' ⟨rfl, rfl⟩
  go_wp2_with fail
  refine (HV3.out _).mono ?_
  rintro e w' ⟨rfl, rfl⟩
  go_wp2_with fail
  go_ret
  exact ⟨by simp, HB1.out⟩
set_option maxRecDepth 20000 in
set_option maxHeartbeats 3200000 in
theorem sq_neg_true_no (x n t : Int) (w : World) (ht : x.tmod 2147483579 = t) (hr : -2147483579 ≤ t ∧ t < 2147483579) (hs : t < 0 ∧ t + 2147483579 = n) (h1 : 1 ≤ n) (h2 : n < 2147483579) (hv : vd n = true) (hx : vd x = false) (he : n ≠ x) : Calls Try.prog 6 #[.int .i64 x] w fun e w' => e = .returned (.bool true) ∧ Below w.heap.size w w' := by
  have HS := hide (fun W => sane_any W)
  have HB0 := hide (Below.refl w.heap.size w)
  obtain ⟨hs1, hs2⟩ := hs
  have hr1 := hr.1
  have hr2 := hr.2
  have hw0 : IntKind.i64.wrap t = t := IntWalk.i64_in _ (by omega)
  have hw1 : IntKind.i64.wrap (t + 2147483579) = n := by rw [IntWalk.i64_in _ (by omega), hs2]
  obtain ⟨p1, p2, p3⟩ := prod_facts n n (by omega) h2 (by omega) h2
  have hw2 : IntKind.i64.wrap (2147483579 - n) = 2147483579 - n := IntWalk.i64_in _ (by omega)
  have hsq : vd (mp (n * n)) = true := vd_iff.2 (vd_sq (by rw [mp_id (by omega) h2]; omega))
  have hop : vd (2147483579 - n) = false := by rw [vd_opp h1 h2, hv]; rfl
  have g0 : (n == 0) = false := by simp; omega
  have HV1 := hide (fun W => (valid_any (n) W).mono fun e w' h => (show e = .returned (.bool true) ∧ W = w' from ⟨by rw [h.1, hv], h.2⟩))
  have HV2 := hide (fun W => (valid_any (2147483579 - n) W).mono fun e w' h => (show e = .returned (.bool false) ∧ W = w' from ⟨by rw [h.1, hop], h.2⟩))
  have HV3 := hide (fun W => (valid_any (mp (n * n)) W).mono fun e w' h => (show e = .returned (.bool true) ∧ W = w' from ⟨by rw [h.1, hsq], h.2⟩))
  have g1 : (n != x) = true := by simpa using he
  have HV4 := hide (fun W => (valid_any (x) W).mono fun e w' h => (show e = .returned (.bool false) ∧ W = w' from ⟨by rw [h.1, hx], h.2⟩))
  clear he hx
  have hvd := vd_iff.1 hv
  have HP1 := hide (fun W => lpow_any n 536870895 W hvd)
  have HP2 := hide (fun W => (lpow_any (pw n 536870895) 2 W (hvd.pw _)).mono fun e w' h => (show e = .returned (.int .i64 n) ∧ Below W.heap.size W w' from ⟨by rw [h.1, hvd.pw_root], h.2⟩))
  clear hvd
  clear hv hsq hop hs2
  go_enter Try.func6, Try.ntmps6
  go_wp2_with fail
  refine (HS.out _).mono ?_
  rintro e wb2 ⟨rfl, hb⟩
  have HB1 := hide (below_one HB0.out hb)
  clear hb
  go_wp2_with fail
  refine (HV1.out _).mono ?_
  rintro e w' ⟨rfl, rfl⟩
  go_wp2_with fail
  refine (HV2.out _).mono ?_
  rintro e w' ⟨rfl, rfl⟩
  go_wp2_with fail
  refine (HV3.out _).mono ?_
  rintro e w' ⟨rfl, rfl⟩
  go_wp2_with fail
  refine (HV4.out _).mono ?_
  rintro e w' ⟨rfl, rfl⟩
  go_wp2_with fail
  refine (HV1.out _).mono ?_
  rintro e w' ⟨rfl, rfl⟩
  go_wp2_with fail
  refine (HP1.out _).mono ?_
  rintro e wb3 ⟨rfl, hb⟩
  have HB2 := hide (below_one HB1.out hb)
  clear hb
  go_wp2_with fail
  refine (HP2.out _).mono ?_
  rintro e wb4 ⟨rfl, hb⟩
  have HB3 := hide (below_one HB2.out hb)
  clear hb
  go_wp2_with fail
  go_ret
  exact ⟨by simp, HB3.out⟩
set_option maxRecDepth 20000 in
set_option maxHeartbeats 3200000 in
theorem sq_neg_false_no (x n t : Int) (w : World) (ht : x.tmod 2147483579 = t) (hr : -2147483579 ≤ t ∧ t < 2147483579) (hs : t < 0 ∧ t + 2147483579 = n) (h1 : 1 ≤ n) (h2 : n < 2147483579) (hv : vd n = false) (hx : vd x = false) (he : n ≠ x) : Calls Try.prog 6 #[.int .i64 x] w fun e w' => e = .returned (.bool true) ∧ Below w.heap.size w w' := by
  have HS := hide (fun W => sane_any W)
  have HB0 := hide (Below.refl w.heap.size w)
  obtain ⟨hs1, hs2⟩ := hs
  have hr1 := hr.1
  have hr2 := hr.2
  have hw0 : IntKind.i64.wrap t = t := IntWalk.i64_in _ (by omega)
  have hw1 : IntKind.i64.wrap (t + 2147483579) = n := by rw [IntWalk.i64_in _ (by omega), hs2]
  obtain ⟨p1, p2, p3⟩ := prod_facts n n (by omega) h2 (by omega) h2
  have hw2 : IntKind.i64.wrap (2147483579 - n) = 2147483579 - n := IntWalk.i64_in _ (by omega)
  have hsq : vd (mp (n * n)) = true := vd_iff.2 (vd_sq (by rw [mp_id (by omega) h2]; omega))
  have hop : vd (2147483579 - n) = true := by rw [vd_opp h1 h2, hv]; rfl
  have g0 : (n == 0) = false := by simp; omega
  have HV1 := hide (fun W => (valid_any (n) W).mono fun e w' h => (show e = .returned (.bool false) ∧ W = w' from ⟨by rw [h.1, hv], h.2⟩))
  have HV2 := hide (fun W => (valid_any (2147483579 - n) W).mono fun e w' h => (show e = .returned (.bool true) ∧ W = w' from ⟨by rw [h.1, hop], h.2⟩))
  have HV3 := hide (fun W => (valid_any (mp (n * n)) W).mono fun e w' h => (show e = .returned (.bool true) ∧ W = w' from ⟨by rw [h.1, hsq], h.2⟩))
  have g1 : (n != x) = true := by simpa using he
  have HV4 := hide (fun W => (valid_any (x) W).mono fun e w' h => (show e = .returned (.bool false) ∧ W = w' from ⟨by rw [h.1, hx], h.2⟩))
  clear he hx
  clear hv hsq hop hs2
  go_enter Try.func6, Try.ntmps6
  go_wp2_with fail
  refine (HS.out _).mono ?_
  rintro e wb2 ⟨rfl, hb⟩
  have HB1 := hide (below_one HB0.out hb)
  clear hb
  go_wp2_with fail
  refine (HV1.out _).mono ?_
  rintro e w' ⟨rfl, rfl⟩
  go_wp2_with fail
  refine (HV2.out _).mono ?_
  rintro e w' ⟨rfl, rfl⟩
  go_wp2_with fail
  refine (HV3.out _).mono ?_
  rintro e w' ⟨rfl, rfl⟩
  go_wp2_with fail
  refine (HV4.out _).mono ?_
  rintro e w' ⟨rfl, rfl⟩
  go_wp2_with fail
  refine (HV1.out _).mono ?_
  rintro e w' ⟨rfl, rfl⟩
  go_wp2_with fail
  go_ret
  exact ⟨by simp, HB1.out⟩
set_option maxRecDepth 20000 in
set_option maxHeartbeats 3200000 in
theorem sq_pos_zero (x n t : Int) (w : World) (ht : x.tmod 2147483579 = t) (hr : -2147483579 ≤ t ∧ t < 2147483579) (hs : 0 ≤ t ∧ t = n) (h0 : n = 0) : Calls Try.prog 6 #[.int .i64 x] w fun e w' => e = .returned (.bool true) ∧ Below w.heap.size w w' := by
  have HS := hide (fun W => sane_any W)
  have HB0 := hide (Below.refl w.heap.size w)
  obtain ⟨hs1, hs2⟩ := hs
  have hr1 := hr.1
  have hr2 := hr.2
  have hw0 : IntKind.i64.wrap t = t := IntWalk.i64_in _ (by omega)
  have hs3 : ¬ t < 0 := by omega
  subst hs2
  subst h0
  have HV1 := hide (fun W => (valid_any (0) W).mono fun e w' h => (show e = .returned (.bool false) ∧ W = w' from ⟨by rw [h.1, vd_0], h.2⟩))
  have HV2 := hide (fun W => (valid_any (2147483579) W).mono fun e w' h => (show e = .returned (.bool false) ∧ W = w' from ⟨by rw [h.1, vd_p], h.2⟩))
  have HV3 := hide (fun W => (valid_any (-4) W).mono fun e w' h => (show e = .returned (.bool false) ∧ W = w' from ⟨by rw [h.1, vd_neg4], h.2⟩))
  go_enter Try.func6, Try.ntmps6
  go_wp2_with fail
  refine (HS.out _).mono ?_
  rintro e wb2 ⟨rfl, hb⟩
  have HB1 := hide (below_one HB0.out hb)
  clear hb
  go_wp2_with fail
  refine (HV1.out _).mono ?_
  rintro e w' ⟨rfl, rfl⟩
  go_wp2_with fail
  refine (HV2.out _).mono ?_
  rintro e w' ⟨rfl, rfl⟩
  go_wp2_with fail
  refine (HV3.out _).mono ?_
  rintro e w' ⟨rfl, rfl⟩
  go_wp2_with fail
  go_ret
  exact ⟨by simp, HB1.out⟩
set_option maxRecDepth 20000 in
set_option maxHeartbeats 3200000 in
theorem sq_pos_true_yes (x n t : Int) (w : World) (ht : x.tmod 2147483579 = t) (hr : -2147483579 ≤ t ∧ t < 2147483579) (hs : 0 ≤ t ∧ t = n) (h1 : 1 ≤ n) (h2 : n < 2147483579) (hv : vd n = true) (he : n = x) : Calls Try.prog 6 #[.int .i64 x] w fun e w' => e = .returned (.bool true) ∧ Below w.heap.size w w' := by
  have HS := hide (fun W => sane_any W)
  have HB0 := hide (Below.refl w.heap.size w)
  obtain ⟨hs1, hs2⟩ := hs
  have hr1 := hr.1
  have hr2 := hr.2
  have hw0 : IntKind.i64.wrap t = t := IntWalk.i64_in _ (by omega)
  have hs3 : ¬ t < 0 := by omega
  subst hs2
  obtain ⟨p1, p2, p3⟩ := prod_facts t t (by omega) h2 (by omega) h2
  have hw2 : IntKind.i64.wrap (2147483579 - t) = 2147483579 - t := IntWalk.i64_in _ (by omega)
  have hsq : vd (mp (t * t)) = true := vd_iff.2 (vd_sq (by rw [mp_id (by omega) h2]; omega))
  have hop : vd (2147483579 - t) = false := by rw [vd_opp h1 h2, hv]; rfl
  have g0 : (t == 0) = false := by simp; omega
  have HV1 := hide (fun W => (valid_any (t) W).mono fun e w' h => (show e = .returned (.bool true) ∧ W = w' from ⟨by rw [h.1, hv], h.2⟩))
  have HV2 := hide (fun W => (valid_any (2147483579 - t) W).mono fun e w' h => (show e = .returned (.bool false) ∧ W = w' from ⟨by rw [h.1, hop], h.2⟩))
  have HV3 := hide (fun W => (valid_any (mp (t * t)) W).mono fun e w' h => (show e = .returned (.bool true) ∧ W = w' from ⟨by rw [h.1, hsq], h.2⟩))
  subst he
  have g1 : (t != t) = false := by simp
  have hvd := vd_iff.1 hv
  have HP1 := hide (fun W => lpow_any t 536870895 W hvd)
  have HP2 := hide (fun W => (lpow_any (pw t 536870895) 2 W (hvd.pw _)).mono fun e w' h => (show e = .returned (.int .i64 t) ∧ Below W.heap.size W w' from ⟨by rw [h.1, hvd.pw_root], h.2⟩))
  clear hvd
  clear hv hsq hop
  go_enter Try.func6, Try.ntmps6
  go_wp2_with fail
  refine (HS.out _).mono ?_
  rintro e wb2 ⟨rfl, hb⟩
  have HB1 := hide (below_one HB0.out hb)
  clear hb
  go_wp2_with fail
  refine (HV1.out _).mono ?_
  rintro e w' ⟨rfl, rfl⟩
  go_wp2_with fail
  refine (HV2.out _).mono ?_
  rintro e w' ⟨rfl, rfl⟩
  go_wp2_with fail
  refine (HV3.out _).mono ?_
  rintro e w' ⟨rfl, rfl⟩
  go_wp2_with fail
  refine (HV1.out _).mono ?_
  rintro e w' ⟨rfl, rfl⟩
  go_wp2_with fail
  refine (HP1.out _).mono ?_
  rintro e wb3 ⟨rfl, hb⟩
  have HB2 := hide (below_one HB1.out hb)
  clear hb
  go_wp2_with fail
  refine (HP2.out _).mono ?_
  rintro e wb4 ⟨rfl, hb⟩
  have HB3 := hide (below_one HB2.out hb)
  clear hb
  go_wp2_with fail
  go_ret
  exact ⟨by simp, HB3.out⟩
set_option maxRecDepth 20000 in
set_option maxHeartbeats 3200000 in
theorem sq_pos_true_no (x n t : Int) (w : World) (ht : x.tmod 2147483579 = t) (hr : -2147483579 ≤ t ∧ t < 2147483579) (hs : 0 ≤ t ∧ t = n) (h1 : 1 ≤ n) (h2 : n < 2147483579) (hv : vd n = true) (hx : vd x = false) (he : n ≠ x) : Calls Try.prog 6 #[.int .i64 x] w fun e w' => e = .returned (.bool true) ∧ Below w.heap.size w w' := by
  have HS := hide (fun W => sane_any W)
  have HB0 := hide (Below.refl w.heap.size w)
  obtain ⟨hs1, hs2⟩ := hs
  have hr1 := hr.1
  have hr2 := hr.2
  have hw0 : IntKind.i64.wrap t = t := IntWalk.i64_in _ (by omega)
  have hs3 : ¬ t < 0 := by omega
  subst hs2
  obtain ⟨p1, p2, p3⟩ := prod_facts t t (by omega) h2 (by omega) h2
  have hw2 : IntKind.i64.wrap (2147483579 - t) = 2147483579 - t := IntWalk.i64_in _ (by omega)
  have hsq : vd (mp (t * t)) = true := vd_iff.2 (vd_sq (by rw [mp_id (by omega) h2]; omega))
  have hop : vd (2147483579 - t) = false := by rw [vd_opp h1 h2, hv]; rfl
  have g0 : (t == 0) = false := by simp; omega
  have HV1 := hide (fun W => (valid_any (t) W).mono fun e w' h => (show e = .returned (.bool true) ∧ W = w' from ⟨by rw [h.1, hv], h.2⟩))
  have HV2 := hide (fun W => (valid_any (2147483579 - t) W).mono fun e w' h => (show e = .returned (.bool false) ∧ W = w' from ⟨by rw [h.1, hop], h.2⟩))
  have HV3 := hide (fun W => (valid_any (mp (t * t)) W).mono fun e w' h => (show e = .returned (.bool true) ∧ W = w' from ⟨by rw [h.1, hsq], h.2⟩))
  have g1 : (t != x) = true := by simpa using he
  have HV4 := hide (fun W => (valid_any (x) W).mono fun e w' h => (show e = .returned (.bool false) ∧ W = w' from ⟨by rw [h.1, hx], h.2⟩))
  clear he hx
  have hvd := vd_iff.1 hv
  have HP1 := hide (fun W => lpow_any t 536870895 W hvd)
  have HP2 := hide (fun W => (lpow_any (pw t 536870895) 2 W (hvd.pw _)).mono fun e w' h => (show e = .returned (.int .i64 t) ∧ Below W.heap.size W w' from ⟨by rw [h.1, hvd.pw_root], h.2⟩))
  clear hvd
  clear hv hsq hop
  go_enter Try.func6, Try.ntmps6
  go_wp2_with fail
  refine (HS.out _).mono ?_
  rintro e wb2 ⟨rfl, hb⟩
  have HB1 := hide (below_one HB0.out hb)
  clear hb
  go_wp2_with fail
  refine (HV1.out _).mono ?_
  rintro e w' ⟨rfl, rfl⟩
  go_wp2_with fail
  refine (HV2.out _).mono ?_
  rintro e w' ⟨rfl, rfl⟩
  go_wp2_with fail
  refine (HV3.out _).mono ?_
  rintro e w' ⟨rfl, rfl⟩
  go_wp2_with fail
  refine (HV4.out _).mono ?_
  rintro e w' ⟨rfl, rfl⟩
  go_wp2_with fail
  refine (HV1.out _).mono ?_
  rintro e w' ⟨rfl, rfl⟩
  go_wp2_with fail
  refine (HP1.out _).mono ?_
  rintro e wb3 ⟨rfl, hb⟩
  have HB2 := hide (below_one HB1.out hb)
  clear hb
  go_wp2_with fail
  refine (HP2.out _).mono ?_
  rintro e wb4 ⟨rfl, hb⟩
  have HB3 := hide (below_one HB2.out hb)
  clear hb
  go_wp2_with fail
  go_ret
  exact ⟨by simp, HB3.out⟩
set_option maxRecDepth 20000 in
set_option maxHeartbeats 3200000 in
theorem sq_pos_false_yes (x n t : Int) (w : World) (ht : x.tmod 2147483579 = t) (hr : -2147483579 ≤ t ∧ t < 2147483579) (hs : 0 ≤ t ∧ t = n) (h1 : 1 ≤ n) (h2 : n < 2147483579) (hv : vd n = false) (he : n = x) : Calls Try.prog 6 #[.int .i64 x] w fun e w' => e = .returned (.bool true) ∧ Below w.heap.size w w' := by
  have HS := hide (fun W => sane_any W)
  have HB0 := hide (Below.refl w.heap.size w)
  obtain ⟨hs1, hs2⟩ := hs
  have hr1 := hr.1
  have hr2 := hr.2
  have hw0 : IntKind.i64.wrap t = t := IntWalk.i64_in _ (by omega)
  have hs3 : ¬ t < 0 := by omega
  subst hs2
  obtain ⟨p1, p2, p3⟩ := prod_facts t t (by omega) h2 (by omega) h2
  have hw2 : IntKind.i64.wrap (2147483579 - t) = 2147483579 - t := IntWalk.i64_in _ (by omega)
  have hsq : vd (mp (t * t)) = true := vd_iff.2 (vd_sq (by rw [mp_id (by omega) h2]; omega))
  have hop : vd (2147483579 - t) = true := by rw [vd_opp h1 h2, hv]; rfl
  have g0 : (t == 0) = false := by simp; omega
  have HV1 := hide (fun W => (valid_any (t) W).mono fun e w' h => (show e = .returned (.bool false) ∧ W = w' from ⟨by rw [h.1, hv], h.2⟩))
  have HV2 := hide (fun W => (valid_any (2147483579 - t) W).mono fun e w' h => (show e = .returned (.bool true) ∧ W = w' from ⟨by rw [h.1, hop], h.2⟩))
  have HV3 := hide (fun W => (valid_any (mp (t * t)) W).mono fun e w' h => (show e = .returned (.bool true) ∧ W = w' from ⟨by rw [h.1, hsq], h.2⟩))
  subst he
  have g1 : (t != t) = false := by simp
  clear hv hsq hop
  go_enter Try.func6, Try.ntmps6
  go_wp2_with fail
  refine (HS.out _).mono ?_
  rintro e wb2 ⟨rfl, hb⟩
  have HB1 := hide (below_one HB0.out hb)
  clear hb
  go_wp2_with fail
  refine (HV1.out _).mono ?_
  rintro e w' ⟨rfl, rfl⟩
  go_wp2_with fail
  refine (HV2.out _).mono ?_
  rintro e w' ⟨rfl, rfl⟩
  go_wp2_with fail
  refine (HV3.out _).mono ?_
  rintro e w' ⟨rfl, rfl⟩
  go_wp2_with fail
  refine (HV1.out _).mono ?_
  rintro e w' ⟨rfl, rfl⟩
  go_wp2_with fail
  go_ret
  exact ⟨by simp, HB1.out⟩
set_option maxRecDepth 20000 in
set_option maxHeartbeats 3200000 in
theorem sq_pos_false_no (x n t : Int) (w : World) (ht : x.tmod 2147483579 = t) (hr : -2147483579 ≤ t ∧ t < 2147483579) (hs : 0 ≤ t ∧ t = n) (h1 : 1 ≤ n) (h2 : n < 2147483579) (hv : vd n = false) (hx : vd x = false) (he : n ≠ x) : Calls Try.prog 6 #[.int .i64 x] w fun e w' => e = .returned (.bool true) ∧ Below w.heap.size w w' := by
  have HS := hide (fun W => sane_any W)
  have HB0 := hide (Below.refl w.heap.size w)
  obtain ⟨hs1, hs2⟩ := hs
  have hr1 := hr.1
  have hr2 := hr.2
  have hw0 : IntKind.i64.wrap t = t := IntWalk.i64_in _ (by omega)
  have hs3 : ¬ t < 0 := by omega
  subst hs2
  obtain ⟨p1, p2, p3⟩ := prod_facts t t (by omega) h2 (by omega) h2
  have hw2 : IntKind.i64.wrap (2147483579 - t) = 2147483579 - t := IntWalk.i64_in _ (by omega)
  have hsq : vd (mp (t * t)) = true := vd_iff.2 (vd_sq (by rw [mp_id (by omega) h2]; omega))
  have hop : vd (2147483579 - t) = true := by rw [vd_opp h1 h2, hv]; rfl
  have g0 : (t == 0) = false := by simp; omega
  have HV1 := hide (fun W => (valid_any (t) W).mono fun e w' h => (show e = .returned (.bool false) ∧ W = w' from ⟨by rw [h.1, hv], h.2⟩))
  have HV2 := hide (fun W => (valid_any (2147483579 - t) W).mono fun e w' h => (show e = .returned (.bool true) ∧ W = w' from ⟨by rw [h.1, hop], h.2⟩))
  have HV3 := hide (fun W => (valid_any (mp (t * t)) W).mono fun e w' h => (show e = .returned (.bool true) ∧ W = w' from ⟨by rw [h.1, hsq], h.2⟩))
  have g1 : (t != x) = true := by simpa using he
  have HV4 := hide (fun W => (valid_any (x) W).mono fun e w' h => (show e = .returned (.bool false) ∧ W = w' from ⟨by rw [h.1, hx], h.2⟩))
  clear he hx
  clear hv hsq hop
  go_enter Try.func6, Try.ntmps6
  go_wp2_with fail
  refine (HS.out _).mono ?_
  rintro e wb2 ⟨rfl, hb⟩
  have HB1 := hide (below_one HB0.out hb)
  clear hb
  go_wp2_with fail
  refine (HV1.out _).mono ?_
  rintro e w' ⟨rfl, rfl⟩
  go_wp2_with fail
  refine (HV2.out _).mono ?_
  rintro e w' ⟨rfl, rfl⟩
  go_wp2_with fail
  refine (HV3.out _).mono ?_
  rintro e w' ⟨rfl, rfl⟩
  go_wp2_with fail
  refine (HV4.out _).mono ?_
  rintro e w' ⟨rfl, rfl⟩
  go_wp2_with fail
  refine (HV1.out _).mono ?_
  rintro e w' ⟨rfl, rfl⟩
  go_wp2_with fail
  go_ret
  exact ⟨by simp, HB1.out⟩
theorem squares_walk (x : Int) (w : World) : Calls Try.prog 6 #[.int .i64 x] w fun e w' => e = .returned (.bool true) ∧ Below w.heap.size w w' := by
  have hr := tmodp_range x
  have h0 := mp_lo x
  have h2 := mp_hi x
  have hx : mp x ≠ x → vd x = false := fun h => vd_no.2 fun hv => h hv.id
  rcases tmod_mp x with hs | hs
  · by_cases hz : mp x = 0
    · exact sq_neg_zero x _ _ w rfl hr hs hz
    · have hne : mp x ≠ x := fun e => by
        rw [e] at h0
        have := hs.1
        rw [Int.tmod_eq_emod_of_nonneg h0] at this
        omega
      cases hv : vd (mp x) with
      | true => exact sq_neg_true_no x _ _ w rfl hr hs (by omega) h2 hv (hx hne) hne
      | false => exact sq_neg_false_no x _ _ w rfl hr hs (by omega) h2 hv (hx hne) hne
  · by_cases hz : mp x = 0
    · exact sq_pos_zero x _ _ w rfl hr hs hz
    · by_cases hne : mp x = x
      · cases hv : vd (mp x) with
        | true => exact sq_pos_true_yes x _ _ w rfl hr hs (by omega) h2 hv hne
        | false => exact sq_pos_false_yes x _ _ w rfl hr hs (by omega) h2 hv hne
      · cases hv : vd (mp x) with
        | true => exact sq_pos_true_no x _ _ w rfl hr hs (by omega) h2 hv (hx hne) hne
        | false => exact sq_pos_false_no x _ _ w rfl hr hs (by omega) h2 hv (hx hne) hne
end Go.Proofs.Ythimljcfmnehcaa
