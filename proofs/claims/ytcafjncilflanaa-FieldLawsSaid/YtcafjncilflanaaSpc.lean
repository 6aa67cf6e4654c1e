/- FieldSpec and FieldLaws answer true. -/
import Derived.Test.YtcafjncilflanaaSan
namespace Go.Proofs.Ytcafjncilflanaa
open Go.RowKit

set_option maxRecDepth 20000 in
set_option maxHeartbeats 3200000 in
theorem spec_walk (a b : Int) (w : World) : Calls Try.prog 3 #[.int .i64 a, .int .i64 b] w fun e w' => e = .returned (.bool true) ∧ Below w.heap.size w w' := by
  have HS := hide (sane_any w)
  have HV := hide (show ∃ x e, invV a = .tuple #[.int .i64 x, .int .i64 e] from ⟨_, _, rfl⟩)
  obtain ⟨x, e, hv⟩ := HV.out
  have HI := hide (fun W => hv ▸ inverse_any a W)
  have HR := hide (fun W => hv ▸ rinverse_any a W)
  have HM := hide (fun W => mod_any a W)
  have HRM := hide (fun W => rmod_any a W)
  have HA := hide (fun W => add_any a b W)
  have HRA := hide (fun W => radd_any a b W)
  have HU := hide (fun W => mul_any a b W)
  have HRU := hide (fun W => rmul_any a b W)
  clear hv HV
  generalize md a = r0 at *
  generalize md (a + b) = r1 at *
  generalize md (a * b) = r2 at *
  go_enter Try.func3, Try.ntmps3
  go_wp2_with fail
  refine HS.out.mono ?_
  rintro e1 w1 ⟨rfl, hb⟩
  have HB := hide hb
  clear hb HS
  go_wp2_with fail
  refine (HI.out _).mono ?_
  rintro e1 w' ⟨rfl, rfl⟩
  go_wp2_with fail
  refine (HR.out _).mono ?_
  rintro e1 w' ⟨rfl, rfl⟩
  go_wp2_with fail
  refine (HM.out _).mono ?_
  rintro e1 w' ⟨rfl, rfl⟩
  go_wp2_with fail
  refine (HRM.out _).mono ?_
  rintro e1 w' ⟨rfl, rfl⟩
  go_wp2_with fail
  refine (HA.out _).mono ?_
  rintro e1 w2 ⟨rfl, hb⟩
  have HB2 := hide (below_one HB.out hb)
  clear hb
  go_wp2_with fail
  refine (HRA.out _).mono ?_
  rintro e1 w' ⟨rfl, rfl⟩
  go_wp2_with fail
  refine (HU.out _).mono ?_
  rintro e1 w' ⟨rfl, rfl⟩
  go_wp2_with fail
  refine (HRU.out _).mono ?_
  rintro e1 w' ⟨rfl, rfl⟩
  go_wp2_with fail
  go_ret
  exact ⟨by simp, HB2.out⟩

theorem laws_1 (a b : Int) : md (md b + md a) = md (a + b) := by rw [md_addl, md_addr, Int.add_comm]
theorem laws_2 (a b : Int) : md (md b * md a) = md (a * b) := by rw [md_mull, md_mulr, Int.mul_comm]
theorem laws_3 (a b c : Int) : md (a + md (b + c)) = md (md (a + b) + c) := by rw [md_addl, md_addr, Int.add_assoc]
theorem laws_4 (a b c : Int) : md (a * md (b * c)) = md (md (a * b) * c) := by rw [md_mull, md_mulr, Int.mul_assoc]
theorem laws_5 (a b c : Int) : md (md (a * b) + md (a * c)) = md (a * md (b + c)) := by rw [md_addl, md_addr, md_mulr, Int.mul_add]
theorem laws_6 (a : Int) : md (md a + -md a) = 0 := by rw [Int.add_right_neg]; rfl
theorem laws_7 (a : Int) (ha : a ≤ 9223372036854775807) : (IntKind.i64.wrap (a - md a)).tmod 1073741789 = 0 ∨ ((IntKind.i64.wrap (a - md a)).tmod 1073741789 ≠ 0 ∧ a < 0) := by
  by_cases h : (IntKind.i64.wrap (a - md a)).tmod 1073741789 = 0
  · exact .inl h
  · refine .inr ⟨h, ?_⟩
    rcases Int.lt_or_le a 0 with h0 | h0
    · exact h0
    · exfalso
      apply h
      have h1 := md_lo a
      have h2 := md_hi a
      have h3 : 0 ≤ a - md a := by unfold md; omega
      rw [IntWalk.i64_in _ (by omega), Int.tmod_eq_emod_of_nonneg h3]
      unfold md
      omega
theorem laws_8 (a : Int) (h : md a ≠ 0) : md (a * inv a) = 1 := inv_one h
theorem laws_9 (a : Int) : (decide (0 ≤ md a ∧ md a < 1073741789)) = true := decide_eq_true ⟨md_lo a, md_hi a⟩
theorem laws_10 (a : Int) : (decide (0 ≤ inv a ∧ inv a < 1073741789)) = true := decide_eq_true ⟨inv_lo a, inv_hi a⟩

set_option maxRecDepth 20000 in
set_option maxHeartbeats 12800000 in
theorem laws_walk (a b c : Int) (w : World) (ha : a ≤ 9223372036854775807) : Calls Try.prog 4 #[.int .i64 a, .int .i64 b, .int .i64 c] w fun e w' => e = .returned (.bool true) ∧ Below w.heap.size w w' := by
  have HS := hide (sane_any w)
  have HMA := hide (fun W => mod_any a W)
  have HMB := hide (fun W => mod_any b W)
  have HMC := hide (fun W => mod_any c W)
  have HMM := hide (fun W => md_md a ▸ mod_any (md a) W)
  have HNA := hide (fun W => laws_9 a ▸ in_any (md a) W)
  have HNB := hide (fun W => laws_9 b ▸ in_any (md b) W)
  have HNC := hide (fun W => laws_9 c ▸ in_any (md c) W)
  have HA1 := hide (fun W => add_any a b W)
  have HA2 := hide (fun W => laws_1 a b ▸ add_any (md b) (md a) W)
  have HU1 := hide (fun W => mul_any a b W)
  have HU2 := hide (fun W => laws_2 a b ▸ mul_any (md b) (md a) W)
  have HA3 := hide (fun W => add_any (md (a + b)) c W)
  have HA4 := hide (fun W => add_any b c W)
  have HA5 := hide (fun W => laws_3 a b c ▸ add_any a (md (b + c)) W)
  have HU3 := hide (fun W => mul_any (md (a * b)) c W)
  have HU4 := hide (fun W => mul_any b c W)
  have HU5 := hide (fun W => laws_4 a b c ▸ mul_any a (md (b * c)) W)
  have HU6 := hide (fun W => mul_any a (md (b + c)) W)
  have HU7 := hide (fun W => mul_any a c W)
  have HA6 := hide (fun W => laws_5 a b c ▸ add_any (md (a * b)) (md (a * c)) W)
  have HA7 := hide (fun W => (Int.add_zero a) ▸ add_any a 0 W)
  have HU8 := hide (fun W => (Int.mul_one a) ▸ mul_any a 1 W)
  have HA8 := hide (fun W => laws_6 a ▸ add_any (md a) (-md a) W)
  have HIV := hide (fun W => inverse_any a W)
  have HNI := hide (fun W => laws_10 a ▸ in_any (inv a) W)
  have HU9 := hide (fun W => mul_any a (inv a) W)
  have HP1 := hide (laws_8 a)
  have HPZ := hide (@md_prod a b)
  have HPA := hide (show md a = 0 → md (a * b) = 0 from fun h => by rw [← md_mull, h, Int.zero_mul]; rfl)
  have HPB := hide (show md b = 0 → md (a * b) = 0 from fun h => by rw [← md_mulr, h, Int.mul_zero]; rfl)
  have HV0 := hide (show md a = 0 → invV a = .tuple #[.int .i64 0, .int .i64 90] from fun h => by unfold invV; rw [if_pos h, if_pos h])
  have HV1 := hide (show md a ≠ 0 → invV a = .tuple #[.int .i64 (inv a), .int .i64 0] from fun h => by unfold invV; rw [if_neg h, if_neg h])
  have h7 := laws_7 a ha
  have hneg : IntKind.i64.wrap (-md a) = -md a := by
    have h1 := md_lo a
    have h2 := md_hi a
    exact IntWalk.i64_in _ (by omega)
  clear ha
  generalize hv : invV a = iv at *
  clear hv
  obtain ⟨d, hd⟩ : ∃ d, IntKind.i64.wrap (a - md a) = d := ⟨_, rfl⟩
  rw [hd] at h7
  have HPF := hide (show ∀ x : Int, (x != x) = false from fun x => by simp)
  rcases h7 with h7 | ⟨h7, h8⟩
  · go_enter Try.func4, Try.ntmps4
    go_wp2_with fail
    refine HS.out.mono ?_
    rintro e1 w1 ⟨rfl, hb⟩
    have HB := hide hb
    clear hb HS
    go_wp2_with fail
    refine (HMA.out _).mono ?_
    rintro e1 w' ⟨rfl, rfl⟩
    go_wp2_with fail
    refine (HMB.out _).mono ?_
    rintro e1 w' ⟨rfl, rfl⟩
    go_wp2_with fail
    refine (HMC.out _).mono ?_
    rintro e1 w' ⟨rfl, rfl⟩
    go_wp2_with fail
    refine (HNA.out _).mono ?_
    rintro e1 w' ⟨rfl, rfl⟩
    go_wp2_with fail
    refine (HNB.out _).mono ?_
    rintro e1 w' ⟨rfl, rfl⟩
    go_wp2_with fail
    refine (HNC.out _).mono ?_
    rintro e1 w' ⟨rfl, rfl⟩
    go_wp2_with fail
    refine (HMM.out _).mono ?_
    rintro e1 w' ⟨rfl, rfl⟩
    go_wp2_with fail
    refine (HA1.out _).mono ?_
    rintro e1 w2 ⟨rfl, hb⟩
    have HB2 := hide (below_one HB.out hb)
    clear hb HB
    go_wp2_with fail
    refine (HA2.out _).mono ?_
    rintro e1 w3 ⟨rfl, hb⟩
    have HB3 := hide (below_one HB2.out hb)
    clear hb HB2
    go_wp2_with fail
    refine (HU1.out _).mono ?_
    rintro e1 w' ⟨rfl, rfl⟩
    go_wp2_with fail
    refine (HU2.out _).mono ?_
    rintro e1 w' ⟨rfl, rfl⟩
    go_wp2_with fail
    refine (HA1.out _).mono ?_
    rintro e1 w4 ⟨rfl, hb⟩
    have HB4 := hide (below_one HB3.out hb)
    clear hb HB3
    go_wp2_with fail
    refine (HA3.out _).mono ?_
    rintro e1 w5 ⟨rfl, hb⟩
    have HB5 := hide (below_one HB4.out hb)
    clear hb HB4
    go_wp2_with fail
    refine (HA4.out _).mono ?_
    rintro e1 w6 ⟨rfl, hb⟩
    have HB6 := hide (below_one HB5.out hb)
    clear hb HB5
    go_wp2_with fail
    refine (HA5.out _).mono ?_
    rintro e1 w7 ⟨rfl, hb⟩
    have HB7 := hide (below_one HB6.out hb)
    clear hb HB6
    go_wp2_with fail
    refine (HU1.out _).mono ?_
    rintro e1 w' ⟨rfl, rfl⟩
    go_wp2_with fail
    refine (HU3.out _).mono ?_
    rintro e1 w' ⟨rfl, rfl⟩
    go_wp2_with fail
    refine (HU4.out _).mono ?_
    rintro e1 w' ⟨rfl, rfl⟩
    go_wp2_with fail
    refine (HU5.out _).mono ?_
    rintro e1 w' ⟨rfl, rfl⟩
    go_wp2_with fail
    refine (HA4.out _).mono ?_
    rintro e1 w8 ⟨rfl, hb⟩
    have HB8 := hide (below_one HB7.out hb)
    clear hb HB7
    go_wp2_with fail
    refine (HU6.out _).mono ?_
    rintro e1 w' ⟨rfl, rfl⟩
    go_wp2_with fail
    refine (HU1.out _).mono ?_
    rintro e1 w' ⟨rfl, rfl⟩
    go_wp2_with fail
    refine (HU7.out _).mono ?_
    rintro e1 w' ⟨rfl, rfl⟩
    go_wp2_with fail
    refine (HA6.out _).mono ?_
    rintro e1 w9 ⟨rfl, hb⟩
    have HB9 := hide (below_one HB8.out hb)
    clear hb HB8
    go_wp2_with fail
    refine (HA7.out _).mono ?_
    rintro e1 w10 ⟨rfl, hb⟩
    have HB10 := hide (below_one HB9.out hb)
    clear hb HB9
    go_wp2_with fail
    refine (HU8.out _).mono ?_
    rintro e1 w' ⟨rfl, rfl⟩
    go_wp2_with fail
    refine (HA8.out _).mono ?_
    rintro e1 w11 ⟨rfl, hb⟩
    have HB11 := hide (below_one HB10.out hb)
    clear hb HB10
    by_cases za : md a = 0
    · obtain rfl := HV0.out za
      have hz := HPA.out za
      go_wp2_with fail
      refine (HU1.out _).mono ?_
      rintro e1 w' ⟨rfl, rfl⟩
      go_wp2_with fail
      refine (HIV.out _).mono ?_
      rintro e1 w' ⟨rfl, rfl⟩
      go_wp2_with fail
      go_ret
      exact ⟨by simp, HB11.out⟩
    · obtain rfl := HV1.out za
      have ho := HP1.out za
      have zab : (md a == 0) = false := by simpa using za
      by_cases zb : md b = 0
      · have hz := HPB.out zb
        go_wp2_with fail
        refine (HU1.out _).mono ?_
        rintro e1 w' ⟨rfl, rfl⟩
        go_wp2_with fail
        refine (HIV.out _).mono ?_
        rintro e1 w' ⟨rfl, rfl⟩
        go_wp2_with fail
        refine (HNI.out _).mono ?_
        rintro e1 w' ⟨rfl, rfl⟩
        go_wp2_with fail
        refine (HU9.out _).mono ?_
        rintro e1 w' ⟨rfl, rfl⟩
        go_wp2_with fail
        go_ret
        exact ⟨by simp, HB11.out⟩
      · have hz : ¬ md (a * b) = 0 := fun h => (HPZ.out h).elim za zb
        have hzb : (md (a * b) == 0) = false := by simpa using hz
        have zbb : (md b == 0) = false := by simpa using zb
        go_wp2_with fail
        refine (HU1.out _).mono ?_
        rintro e1 w' ⟨rfl, rfl⟩
        go_wp2_with fail
        refine (HIV.out _).mono ?_
        rintro e1 w' ⟨rfl, rfl⟩
        go_wp2_with fail
        refine (HNI.out _).mono ?_
        rintro e1 w' ⟨rfl, rfl⟩
        go_wp2_with fail
        refine (HU9.out _).mono ?_
        rintro e1 w' ⟨rfl, rfl⟩
        go_wp2_with fail
        go_ret
        exact ⟨by simp, HB11.out⟩
  · have h9 : ¬ (0 : Int) ≤ a := by omega
    go_enter Try.func4, Try.ntmps4
    go_wp2_with fail
    refine HS.out.mono ?_
    rintro e1 w1 ⟨rfl, hb⟩
    have HB := hide hb
    clear hb HS
    go_wp2_with fail
    refine (HMA.out _).mono ?_
    rintro e1 w' ⟨rfl, rfl⟩
    go_wp2_with fail
    refine (HMB.out _).mono ?_
    rintro e1 w' ⟨rfl, rfl⟩
    go_wp2_with fail
    refine (HMC.out _).mono ?_
    rintro e1 w' ⟨rfl, rfl⟩
    go_wp2_with fail
    refine (HNA.out _).mono ?_
    rintro e1 w' ⟨rfl, rfl⟩
    go_wp2_with fail
    refine (HNB.out _).mono ?_
    rintro e1 w' ⟨rfl, rfl⟩
    go_wp2_with fail
    refine (HNC.out _).mono ?_
    rintro e1 w' ⟨rfl, rfl⟩
    go_wp2_with fail
    refine (HMM.out _).mono ?_
    rintro e1 w' ⟨rfl, rfl⟩
    go_wp2_with fail
    refine (HA1.out _).mono ?_
    rintro e1 w2 ⟨rfl, hb⟩
    have HB2 := hide (below_one HB.out hb)
    clear hb HB
    go_wp2_with fail
    refine (HA2.out _).mono ?_
    rintro e1 w3 ⟨rfl, hb⟩
    have HB3 := hide (below_one HB2.out hb)
    clear hb HB2
    go_wp2_with fail
    refine (HU1.out _).mono ?_
    rintro e1 w' ⟨rfl, rfl⟩
    go_wp2_with fail
    refine (HU2.out _).mono ?_
    rintro e1 w' ⟨rfl, rfl⟩
    go_wp2_with fail
    refine (HA1.out _).mono ?_
    rintro e1 w4 ⟨rfl, hb⟩
    have HB4 := hide (below_one HB3.out hb)
    clear hb HB3
    go_wp2_with fail
    refine (HA3.out _).mono ?_
    rintro e1 w5 ⟨rfl, hb⟩
    have HB5 := hide (below_one HB4.out hb)
    clear hb HB4
    go_wp2_with fail
    refine (HA4.out _).mono ?_
    rintro e1 w6 ⟨rfl, hb⟩
    have HB6 := hide (below_one HB5.out hb)
    clear hb HB5
    go_wp2_with fail
    refine (HA5.out _).mono ?_
    rintro e1 w7 ⟨rfl, hb⟩
    have HB7 := hide (below_one HB6.out hb)
    clear hb HB6
    go_wp2_with fail
    refine (HU1.out _).mono ?_
    rintro e1 w' ⟨rfl, rfl⟩
    go_wp2_with fail
    refine (HU3.out _).mono ?_
    rintro e1 w' ⟨rfl, rfl⟩
    go_wp2_with fail
    refine (HU4.out _).mono ?_
    rintro e1 w' ⟨rfl, rfl⟩
    go_wp2_with fail
    refine (HU5.out _).mono ?_
    rintro e1 w' ⟨rfl, rfl⟩
    go_wp2_with fail
    refine (HA4.out _).mono ?_
    rintro e1 w8 ⟨rfl, hb⟩
    have HB8 := hide (below_one HB7.out hb)
    clear hb HB7
    go_wp2_with fail
    refine (HU6.out _).mono ?_
    rintro e1 w' ⟨rfl, rfl⟩
    go_wp2_with fail
    refine (HU1.out _).mono ?_
    rintro e1 w' ⟨rfl, rfl⟩
    go_wp2_with fail
    refine (HU7.out _).mono ?_
    rintro e1 w' ⟨rfl, rfl⟩
    go_wp2_with fail
    refine (HA6.out _).mono ?_
    rintro e1 w9 ⟨rfl, hb⟩
    have HB9 := hide (below_one HB8.out hb)
    clear hb HB8
    go_wp2_with fail
    refine (HA7.out _).mono ?_
    rintro e1 w10 ⟨rfl, hb⟩
    have HB10 := hide (below_one HB9.out hb)
    clear hb HB9
    go_wp2_with fail
    refine (HU8.out _).mono ?_
    rintro e1 w' ⟨rfl, rfl⟩
    go_wp2_with fail
    refine (HA8.out _).mono ?_
    rintro e1 w11 ⟨rfl, hb⟩
    have HB11 := hide (below_one HB10.out hb)
    clear hb HB10
    by_cases za : md a = 0
    · obtain rfl := HV0.out za
      have hz := HPA.out za
      go_wp2_with fail
      refine (HU1.out _).mono ?_
      rintro e1 w' ⟨rfl, rfl⟩
      go_wp2_with fail
      refine (HIV.out _).mono ?_
      rintro e1 w' ⟨rfl, rfl⟩
      go_wp2_with fail
      go_ret
      exact ⟨by simp, HB11.out⟩
    · obtain rfl := HV1.out za
      have ho := HP1.out za
      have zab : (md a == 0) = false := by simpa using za
      by_cases zb : md b = 0
      · have hz := HPB.out zb
        go_wp2_with fail
        refine (HU1.out _).mono ?_
        rintro e1 w' ⟨rfl, rfl⟩
        go_wp2_with fail
        refine (HIV.out _).mono ?_
        rintro e1 w' ⟨rfl, rfl⟩
        go_wp2_with fail
        refine (HNI.out _).mono ?_
        rintro e1 w' ⟨rfl, rfl⟩
        go_wp2_with fail
        refine (HU9.out _).mono ?_
        rintro e1 w' ⟨rfl, rfl⟩
        go_wp2_with fail
        go_ret
        exact ⟨by simp, HB11.out⟩
      · have hz : ¬ md (a * b) = 0 := fun h => (HPZ.out h).elim za zb
        have hzb : (md (a * b) == 0) = false := by simpa using hz
        have zbb : (md b == 0) = false := by simpa using zb
        go_wp2_with fail
        refine (HU1.out _).mono ?_
        rintro e1 w' ⟨rfl, rfl⟩
        go_wp2_with fail
        refine (HIV.out _).mono ?_
        rintro e1 w' ⟨rfl, rfl⟩
        go_wp2_with fail
        refine (HNI.out _).mono ?_
        rintro e1 w' ⟨rfl, rfl⟩
        go_wp2_with fail
        refine (HU9.out _).mono ?_
        rintro e1 w' ⟨rfl, rfl⟩
        go_wp2_with fail
        go_ret
        exact ⟨by simp, HB11.out⟩
end Go.Proofs.Ytcafjncilflanaa
