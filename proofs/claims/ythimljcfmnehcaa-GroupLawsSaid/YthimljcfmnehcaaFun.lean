/- The reference's Mul and Pow; the statements' element, mul and pow. -/
import Derived.Test.YthimljcfmnehcaaElm
namespace Go.Proofs.Ythimljcfmnehcaa
open Go.RowKit

theorem rmul_any (a b : Int) (w : World) : Calls Try.prog 10 #[.int .i64 a, .int .i64 b] w fun e w' => e = .returned (mulV a b) ∧ w = w' := by
  have HVA := hide (fun W => rvalid_any a W)
  have HVB := hide (fun W => rvalid_any b W)
  cases ha : vd a with
  | true =>
    cases hb : vd b with
    | true =>
      have HM := hide (mulV_yes ha hb)
      have hva := vd_iff.1 ha
      have hvb := vd_iff.1 hb
      obtain ⟨p1, p2, p3⟩ := prod_facts a b (by have := hva.1; omega) hva.2.1 (by have := hvb.1; omega) hvb.2.1
      rw [ha] at HVA
      rw [hb] at HVB
      clear ha hb hva hvb
      go_enter Try.func10, Try.ntmps10
      go_wp2_with fail
      refine (HVA.out _).mono ?_
      rintro e w' ⟨rfl, rfl⟩
      go_wp2_with fail
      refine (HVB.out _).mono ?_
      rintro e w' ⟨rfl, rfl⟩
      go_wp2_with fail
      refine bodyPost_ret (results_tmp2 rfl _ _ _) rfl ?_
      exact ⟨by rw [HM.out]; rfl, rfl⟩
    | false =>
      have HM := hide (mulV_nor (a := a) hb)
      rw [ha] at HVA
      rw [hb] at HVB
      clear ha hb
      go_enter Try.func10, Try.ntmps10
      go_wp2_with fail
      refine (HVA.out _).mono ?_
      rintro e w' ⟨rfl, rfl⟩
      go_wp2_with fail
      refine (HVB.out _).mono ?_
      rintro e w' ⟨rfl, rfl⟩
      go_wp2_with fail
      refine bodyPost_ret (results_tmp2 rfl _ _ _) rfl ?_
      exact ⟨by rw [HM.out]; rfl, rfl⟩
  | false =>
    have HM := hide (mulV_nol (b := b) ha)
    rw [ha] at HVA
    clear ha
    go_enter Try.func10, Try.ntmps10
    go_wp2_with fail
    refine (HVA.out _).mono ?_
    rintro e w' ⟨rfl, rfl⟩
    go_wp2_with fail
    refine bodyPost_ret (results_tmp2 rfl _ _ _) rfl ?_
    exact ⟨by rw [HM.out]; rfl, rfl⟩

theorem rpow_any (a n : Int) (w : World) : Calls Try.prog 12 #[.int .i64 a, .int .i64 n] w fun e w' => e = .returned (powV a n) ∧ w = w' := by
  have HVA := hide (fun W => rvalid_any a W)
  cases ha : vd a with
  | true =>
    have HM := hide (powV_yes (n := n) ha)
    have hva := vd_iff.1 ha
    have HE := hide (fun W => rexponent_any n W)
    obtain ⟨k, hk⟩ : ∃ k : Nat, md n = (k : Int) := ⟨(md n).toNat, by have := md_lo n; omega⟩
    have HP := hide (fun W => rpower_any a k W (by have := hva.1; omega) hva.2.1 (by have := md_hi n; omega))
    have HK := hide (show mp (a ^ k) = pw a n from by
      have e : (n % 1073741789).toNat = k := by
        have : n % 1073741789 = (k : Int) := hk
        omega
      unfold pw
      rw [e])
    rw [hk] at HE
    rw [ha] at HVA
    clear ha hva hk
    go_enter Try.func12, Try.ntmps12
    go_wp2_with fail
    refine (HVA.out _).mono ?_
    rintro e w' ⟨rfl, rfl⟩
    go_wp2_with fail
    refine (HE.out _).mono ?_
    rintro e w' ⟨rfl, rfl⟩
    go_wp2_with fail
    refine (HP.out _).mono ?_
    rintro e w' ⟨rfl, rfl⟩
    rw [HK.out]
    go_wp2_with fail
    refine bodyPost_ret (results_tmp2 rfl _ _ _) rfl ?_
    exact ⟨by rw [HM.out]; rfl, rfl⟩
  | false =>
    have HM := hide (powV_no (n := n) ha)
    rw [ha] at HVA
    clear ha
    go_enter Try.func12, Try.ntmps12
    go_wp2_with fail
    refine (HVA.out _).mono ?_
    rintro e w' ⟨rfl, rfl⟩
    go_wp2_with fail
    refine bodyPost_ret (results_tmp2 rfl _ _ _) rfl ?_
    exact ⟨by rw [HM.out]; rfl, rfl⟩

/-- the element that the statements take for a number -/
noncomputable def elm (n : Int) : Int := el (md n + 1)
theorem elm_vd (n : Int) : Vd (elm n) := by
  have h1 := md_lo n
  have h2 := md_hi n
  exact el_vd (by omega) (by omega)
theorem elm_any (n : Int) (w : World) : Calls Try.prog 15 #[.int .i64 n] w fun e w' => e = .returned (.int .i64 (elm n)) ∧ w = w' := by
  have h1 := md_lo n
  have h2 := md_hi n
  have HE := hide (fun W => (element_any (md n + 1) W).mono fun e w' h => (show e = .returned (.tuple #[.int .i64 (el (md n + 1)), .int .i64 0]) ∧ W = w' from ⟨by rw [h.1, elV_yes (by omega) (by omega)], h.2⟩))
  have hr := tmod_range n
  have hw : IntKind.i64.wrap (n.tmod 1073741789) = n.tmod 1073741789 := IntWalk.i64_in _ (by omega)
  have hw1 : IntKind.i64.wrap (md n + 1) = md n + 1 := IntWalk.i64_in _ (by omega)
  have hc := tmod_md n
  have HX := hide (show elm n = el (md n + 1) from rfl)
  generalize hx : n.tmod 1073741789 = x at *
  generalize md n = r at *
  rcases hc with ⟨h3, h4⟩ | ⟨h3, h4⟩
  · have h5 : IntKind.i64.wrap (x + 1073741789) = r := by rw [IntWalk.i64_in _ (by omega), h4]
    clear h4
    go_enter Try.func15, Try.ntmps15
    go_wp2_with fail
    refine (HE.out _).mono ?_
    rintro e w' ⟨rfl, rfl⟩
    go_wp2_with fail
    go_ret
    exact ⟨by rw [HX.out]; rfl, rfl⟩
  · have h5 : ¬ x < 0 := by omega
    subst h4
    clear hr
    go_enter Try.func15, Try.ntmps15
    go_wp2_with fail
    refine (HE.out _).mono ?_
    rintro e w' ⟨rfl, rfl⟩
    go_wp2_with fail
    go_ret
    exact ⟨by rw [HX.out]; rfl, rfl⟩

theorem lpow_any (a n : Int) (w : World) (ha : Vd a) : Calls Try.prog 17 #[.int .i64 a, .int .i64 n] w fun e w' => e = .returned (.int .i64 (pw a n)) ∧ Below w.heap.size w w' := by
  have HP := hide (fun W => (powV_yes (n := n) (vd_iff.2 ha)) ▸ pow_any a n W)
  clear ha
  go_enter Try.func17, Try.ntmps17
  go_wp2_with fail
  refine (HP.out _).mono ?_
  rintro e w1 ⟨rfl, hb⟩
  have HB := hide hb
  clear hb
  go_wp2_with fail
  go_ret
  exact ⟨rfl, HB.out⟩

set_option maxHeartbeats 1600000 in
/-- the product of two elements, made by the statements -/
theorem lmul_any (a b : Int) (w : World) (X : Nat) (hB : Blk w X 3 [.int .i64 a, .int .i64 b]) (ha : Vd a) (hb : Vd b) : Calls Try.prog 16 #[.slice (some ⟨X, 0, none⟩) 2 2] w fun e w' => e = .returned (.int .i64 (mp (a * b))) ∧ w = w' := by
  have c0 := hB.cell 0
  have c1 := hB.cell 1
  simp only [List.getElem?_cons_zero, List.getElem?_cons_succ] at c0 c1
  have HM1 := hide (fun W => (mulV_yes vd_1 (vd_iff.2 ha)) ▸ mul_any 1 a W)
  have HM2 := hide (fun W => (mulV_yes (vd_iff.2 ha) (vd_iff.2 hb)) ▸ mul_any a b W)
  rw [show mp (1 * a) = a by rw [Int.one_mul, ha.id]] at HM1
  clear hB ha hb
  go_enter Try.func16, Try.ntmps16
  go_wp2_with fail
  refine wp_loop_rounds 3 ?_
  rw [rounds_succ]
  go_wp2_with fail
  refine (HM1.out _).mono ?_
  rintro e w' ⟨rfl, rfl⟩
  go_wp2_with fail
  rw [rounds_succ]
  go_wp2_with fail
  refine (HM2.out _).mono ?_
  rintro e w' ⟨rfl, rfl⟩
  go_wp2_with fail
  rw [rounds_succ]
  go_wp2_with fail
  go_ret
  exact ⟨rfl, rfl⟩
end Go.Proofs.Ythimljcfmnehcaa
