/- GroupLaws answers true. -/
import Derived.Test.YthimljcfmnehcaaSan
import Derived.Test.YthimljcfmnehcaaFun
namespace Go.Proofs.Ythimljcfmnehcaa
open Go.RowKit

set_option maxRecDepth 20000 in
set_option maxHeartbeats 12800000 in
theorem laws_go (a b c ab bc abc ai bi abi x y z : Int) (w : World) (hx : elm x = a) (hy : elm y = b) (hz : elm z = c) (hab : mp (a * b) = ab) (hbc : mp (b * c) = bc) (habc : mp (ab * c) = abc) (hai : pw a (-1) = ai) (hbi : pw b (-1) = bi) (habi : pw ab (-1) = abi) :
    Calls Try.prog 4 #[.int .i64 x, .int .i64 y, .int .i64 z] w fun e w' => e = .returned (.bool true) ∧ Below w.heap.size w w' := by
  have ha : Vd a := hx ▸ elm_vd x
  have hb : Vd b := hy ▸ elm_vd y
  have hc : Vd c := hz ▸ elm_vd z
  have vab : Vd ab := hab ▸ ha.mul hb
  have vbc : Vd bc := hbc ▸ hb.mul hc
  have vai : Vd ai := hai ▸ ha.pw _
  have vbi : Vd bi := hbi ▸ hb.pw _
  have e1 : mp (b * a) = ab := by rw [Int.mul_comm, hab]
  have e2 : mp (a * bc) = abc := by rw [← hbc, ← habc, ← hab, mp_mulr, mp_mull, Int.mul_assoc]
  have e3 : mp (a * 1) = a := by rw [Int.mul_one, ha.id]
  have e4 : mp (a * ai) = 1 := by rw [← hai]; exact ha.pw_inv
  have e5 : mp (ab * bi) = a := by rw [← hab, ← hbi, mp_mull, Int.mul_assoc, ← mp_mulr, hb.pw_inv, Int.mul_one, ha.id]
  have e6 : mp (ai * bi) = abi := by rw [← hai, ← hbi, ← habi, ← hab]; exact (pw_mul a b (-1)).symm
  have HS := hide (fun W => sane_any W)
  have HEX := hide (fun W => hx ▸ elm_any x W)
  have HEY := hide (fun W => hy ▸ elm_any y W)
  have HEZ := hide (fun W => hz ▸ elm_any z W)
  have HM1 := hide (fun W X (h : Blk W X 3 [.int .i64 a, .int .i64 b]) => (lmul_any a b W X h ha hb).mono fun e w' h => (show e = .returned (.int .i64 ab) ∧ Below W.heap.size W w' from ⟨by rw [h.1, hab], h.2 ▸ Below.refl _ _⟩))
  have HM2 := hide (fun W X (h : Blk W X 3 [.int .i64 b, .int .i64 a]) => (lmul_any b a W X h hb ha).mono fun e w' h => (show e = .returned (.int .i64 ab) ∧ Below W.heap.size W w' from ⟨by rw [h.1, e1], h.2 ▸ Below.refl _ _⟩))
  have HM3 := hide (fun W X (h : Blk W X 3 [.int .i64 ab, .int .i64 c]) => (lmul_any ab c W X h vab hc).mono fun e w' h => (show e = .returned (.int .i64 abc) ∧ Below W.heap.size W w' from ⟨by rw [h.1, habc], h.2 ▸ Below.refl _ _⟩))
  have HM4 := hide (fun W X (h : Blk W X 3 [.int .i64 b, .int .i64 c]) => (lmul_any b c W X h hb hc).mono fun e w' h => (show e = .returned (.int .i64 bc) ∧ Below W.heap.size W w' from ⟨by rw [h.1, hbc], h.2 ▸ Below.refl _ _⟩))
  have HM5 := hide (fun W X (h : Blk W X 3 [.int .i64 a, .int .i64 bc]) => (lmul_any a bc W X h ha vbc).mono fun e w' h => (show e = .returned (.int .i64 abc) ∧ Below W.heap.size W w' from ⟨by rw [h.1, e2], h.2 ▸ Below.refl _ _⟩))
  have HM6 := hide (fun W X (h : Blk W X 3 [.int .i64 a, .int .i64 1]) => (lmul_any a 1 W X h ha vd_one).mono fun e w' h => (show e = .returned (.int .i64 a) ∧ Below W.heap.size W w' from ⟨by rw [h.1, e3], h.2 ▸ Below.refl _ _⟩))
  have HM7 := hide (fun W X (h : Blk W X 3 [.int .i64 a, .int .i64 ai]) => (lmul_any a ai W X h ha vai).mono fun e w' h => (show e = .returned (.int .i64 1) ∧ Below W.heap.size W w' from ⟨by rw [h.1, e4], h.2 ▸ Below.refl _ _⟩))
  have HM8 := hide (fun W X (h : Blk W X 3 [.int .i64 ab, .int .i64 bi]) => (lmul_any ab bi W X h vab vbi).mono fun e w' h => (show e = .returned (.int .i64 a) ∧ Below W.heap.size W w' from ⟨by rw [h.1, e5], h.2 ▸ Below.refl _ _⟩))
  have HM9 := hide (fun W X (h : Blk W X 3 [.int .i64 ai, .int .i64 bi]) => (lmul_any ai bi W X h vai vbi).mono fun e w' h => (show e = .returned (.int .i64 abi) ∧ Below W.heap.size W w' from ⟨by rw [h.1, e6], h.2 ▸ Below.refl _ _⟩))
  have HP1 := hide (fun W => (lpow_any a (-1) W ha).mono fun e w' h => (show e = .returned (.int .i64 ai) ∧ Below W.heap.size W w' from ⟨by rw [h.1, hai], h.2⟩))
  have HP2 := hide (fun W => (lpow_any b (-1) W hb).mono fun e w' h => (show e = .returned (.int .i64 bi) ∧ Below W.heap.size W w' from ⟨by rw [h.1, hbi], h.2⟩))
  have HP3 := hide (fun W => (lpow_any ab (-1) W vab).mono fun e w' h => (show e = .returned (.int .i64 abi) ∧ Below W.heap.size W w' from ⟨by rw [h.1, habi], h.2⟩))
  have HVA := hide (fun W => vd_iff.2 ha ▸ valid_any a W)
  have HVAB := hide (fun W => vd_iff.2 vab ▸ valid_any ab W)
  have HB0 := hide (Below.refl w.heap.size w)
  clear ha hb hc vab vbc vai vbi e1 e2 e3 e4 e5 e6 hx hy hz hab hbc habc hai hbi habi
  go_enter Try.func4, Try.ntmps4
  go_wp2_with fail
  refine (HS.out _).mono ?_
  rintro e wb1 ⟨rfl, hb⟩
  have HB1 := hide (below_one HB0.out hb)
  clear hb
  go_wp2_with fail
  refine (HEX.out _).mono ?_
  rintro e w' ⟨rfl, rfl⟩
  go_wp2_with fail
  refine (HEY.out _).mono ?_
  rintro e w' ⟨rfl, rfl⟩
  go_wp2_with fail
  refine (HEZ.out _).mono ?_
  rintro e w' ⟨rfl, rfl⟩
  go_wp2_with fail
  refine (HM1.out _ wb1.heap.size (Blk.new wb1 3 [.int .i64 a, .int .i64 b])).mono ?_
  rintro e wb2 ⟨rfl, hb⟩
  have HB2 := hide (below_one (HB1.out.alloc HB1.out.size (.cells #[.int .i64 a, .int .i64 b] 3)) hb)
  clear hb
  go_wp2_with fail
  refine (HVA.out _).mono ?_
  rintro e w' ⟨rfl, rfl⟩
  go_wp2_with fail
  refine (HVAB.out _).mono ?_
  rintro e w' ⟨rfl, rfl⟩
  go_wp2_with fail
  refine (HM2.out _ wb2.heap.size (Blk.new wb2 3 [.int .i64 b, .int .i64 a])).mono ?_
  rintro e wb3 ⟨rfl, hb⟩
  have HB3 := hide (below_one (HB2.out.alloc HB2.out.size (.cells #[.int .i64 b, .int .i64 a] 3)) hb)
  clear hb
  go_wp2_with fail
  refine (HM3.out _ wb3.heap.size (Blk.new wb3 3 [.int .i64 ab, .int .i64 c])).mono ?_
  rintro e wb4 ⟨rfl, hb⟩
  have HB4 := hide (below_one (HB3.out.alloc HB3.out.size (.cells #[.int .i64 ab, .int .i64 c] 3)) hb)
  clear hb
  go_wp2_with fail
  refine (HM4.out _ wb4.heap.size (Blk.new wb4 3 [.int .i64 b, .int .i64 c])).mono ?_
  rintro e wb5 ⟨rfl, hb⟩
  have HB5 := hide (below_one (HB4.out.alloc HB4.out.size (.cells #[.int .i64 b, .int .i64 c] 3)) hb)
  clear hb
  go_wp2_with fail
  refine (HM5.out _ wb5.heap.size (Blk.new wb5 3 [.int .i64 a, .int .i64 bc])).mono ?_
  rintro e wb6 ⟨rfl, hb⟩
  have HB6 := hide (below_one (HB5.out.alloc HB5.out.size (.cells #[.int .i64 a, .int .i64 bc] 3)) hb)
  clear hb
  go_wp2_with fail
  refine (HM6.out _ wb6.heap.size (Blk.new wb6 3 [.int .i64 a, .int .i64 1])).mono ?_
  rintro e wb7 ⟨rfl, hb⟩
  have HB7 := hide (below_one (HB6.out.alloc HB6.out.size (.cells #[.int .i64 a, .int .i64 1] 3)) hb)
  clear hb
  go_wp2_with fail
  refine (HP1.out _).mono ?_
  rintro e wb8 ⟨rfl, hb⟩
  have HB8 := hide (below_one HB7.out hb)
  clear hb
  go_wp2_with fail
  refine (HM7.out _ wb8.heap.size (Blk.new wb8 3 [.int .i64 a, .int .i64 ai])).mono ?_
  rintro e wb9 ⟨rfl, hb⟩
  have HB9 := hide (below_one (HB8.out.alloc HB8.out.size (.cells #[.int .i64 a, .int .i64 ai] 3)) hb)
  clear hb
  go_wp2_with fail
  refine (HM1.out _ wb9.heap.size (Blk.new wb9 3 [.int .i64 a, .int .i64 b])).mono ?_
  rintro e wb10 ⟨rfl, hb⟩
  have HB10 := hide (below_one (HB9.out.alloc HB9.out.size (.cells #[.int .i64 a, .int .i64 b] 3)) hb)
  clear hb
  go_wp2_with fail
  refine (HP2.out _).mono ?_
  rintro e wb11 ⟨rfl, hb⟩
  have HB11 := hide (below_one HB10.out hb)
  clear hb
  go_wp2_with fail
  refine (HM8.out _ wb11.heap.size (Blk.new wb11 3 [.int .i64 ab, .int .i64 bi])).mono ?_
  rintro e wb12 ⟨rfl, hb⟩
  have HB12 := hide (below_one (HB11.out.alloc HB11.out.size (.cells #[.int .i64 ab, .int .i64 bi] 3)) hb)
  clear hb
  go_wp2_with fail
  refine (HP3.out _).mono ?_
  rintro e wb13 ⟨rfl, hb⟩
  have HB13 := hide (below_one HB12.out hb)
  clear hb
  go_wp2_with fail
  refine (HP1.out _).mono ?_
  rintro e wb14 ⟨rfl, hb⟩
  have HB14 := hide (below_one HB13.out hb)
  clear hb
  go_wp2_with fail
  refine (HP2.out _).mono ?_
  rintro e wb15 ⟨rfl, hb⟩
  have HB15 := hide (below_one HB14.out hb)
  clear hb
  go_wp2_with fail
  refine (HM9.out _ wb15.heap.size (Blk.new wb15 3 [.int .i64 ai, .int .i64 bi])).mono ?_
  rintro e wb16 ⟨rfl, hb⟩
  have HB16 := hide (below_one (HB15.out.alloc HB15.out.size (.cells #[.int .i64 ai, .int .i64 bi] 3)) hb)
  clear hb
  go_wp2_with fail
  go_ret
  exact ⟨by simp, HB16.out⟩

theorem laws_walk (x y z : Int) (w : World) : Calls Try.prog 4 #[.int .i64 x, .int .i64 y, .int .i64 z] w fun e w' => e = .returned (.bool true) ∧ Below w.heap.size w w' :=
  laws_go _ _ _ _ _ _ _ _ _ x y z w rfl rfl rfl rfl rfl rfl rfl rfl rfl
end Go.Proofs.Ythimljcfmnehcaa
