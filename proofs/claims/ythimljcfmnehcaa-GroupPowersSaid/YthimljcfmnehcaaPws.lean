/- GroupPowers answers true. -/
import Derived.Test.YthimljcfmnehcaaSan
import Derived.Test.YthimljcfmnehcaaFun
namespace Go.Proofs.Ythimljcfmnehcaa
open Go.RowKit

set_option maxRecDepth 20000 in
set_option maxHeartbeats 12800000 in
theorem powers_go (a b ab aa r s t u v x y i k : Int) (w : World) (hi : -2147483648 ≤ i ∧ i ≤ 2147483647) (hk : -2147483648 ≤ k ∧ k ≤ 2147483647) (hx : elm x = a) (hy : elm y = b) (hab : mp (a * b) = ab) (haa : mp (a * a) = aa) (hr : pw a i = r) (hs : pw a k = s) (ht : pw b i = t) (hu : mp (r * s) = u) (hv : pw r k = v) (q : Int) (hq : mp (r * t) = q) :
    Calls Try.prog 5 #[.int .i64 x, .int .i64 y, .int .i32 i, .int .i32 k] w fun e w' => e = .returned (.bool true) ∧ Below w.heap.size w w' := by
  have ha : Vd a := hx ▸ elm_vd x
  have hb : Vd b := hy ▸ elm_vd y
  have vab : Vd ab := hab ▸ ha.mul hb
  have vr : Vd r := hr ▸ ha.pw _
  have vs : Vd s := hs ▸ ha.pw _
  have vt : Vd t := ht ▸ hb.pw _
  have e0 : pw a 0 = 1 := pw_zero a
  have e1 : pw a 1 = a := ha.pw_one
  have e2 : pw a 2 = aa := by rw [← haa]; exact ha.pw_two
  have e3 : pw a 1073741789 = 1 := (ha.pw_cong (m := 1073741789) (n := 0) rfl).trans (pw_zero a)
  have e4 : pw a (i + 1073741789) = r := (ha.pw_cong (by omega)).trans hr
  have e5 : pw a (i - 1073741789) = r := (ha.pw_cong (by omega)).trans hr
  have e6 : pw a (i + k) = u := by rw [← hu, ← hr, ← hs]; exact (ha.pw_add i k).symm
  have e7 : pw a (i * k) = v := by rw [← hv, ← hr]; exact (ha.pw_pw i k).symm
  have e8 : pw ab i = q := by rw [← hq, ← hr, ← ht, ← hab]; exact pw_mul a b i
  have hm : IntKind.i64.wrap (i * k) = i * k := by
    have h1 : (i * k).natAbs ≤ 2147483648 * 2147483648 := by
      rw [Int.natAbs_mul]
      exact Nat.mul_le_mul (by omega) (by omega)
    exact IntWalk.i64_in _ (by omega)
  have hc1 : IntKind.i64.wrap i = i := IntWalk.i64_in _ (by omega)
  have hc2 : IntKind.i64.wrap k = k := IntWalk.i64_in _ (by omega)
  have hw1 : IntKind.i64.wrap (i + 1073741789) = i + 1073741789 := IntWalk.i64_in _ (by omega)
  have hw2 : IntKind.i64.wrap (i - 1073741789) = i - 1073741789 := IntWalk.i64_in _ (by omega)
  have hw3 : IntKind.i64.wrap (i + k) = i + k := IntWalk.i64_in _ (by omega)
  have HS := hide (fun W => sane_any W)
  have HEX := hide (fun W => hx ▸ elm_any x W)
  have HEY := hide (fun W => hy ▸ elm_any y W)
  have HP0 := hide (fun W => (lpow_any a 0 W ha).mono fun e w' h => (show e = .returned (.int .i64 1) ∧ Below W.heap.size W w' from ⟨by rw [h.1, e0], h.2⟩))
  have HP1 := hide (fun W => (lpow_any a 1 W ha).mono fun e w' h => (show e = .returned (.int .i64 a) ∧ Below W.heap.size W w' from ⟨by rw [h.1, e1], h.2⟩))
  have HP2 := hide (fun W => (lpow_any a 2 W ha).mono fun e w' h => (show e = .returned (.int .i64 aa) ∧ Below W.heap.size W w' from ⟨by rw [h.1, e2], h.2⟩))
  have HM1 := hide (fun W X (h : Blk W X 3 [.int .i64 a, .int .i64 a]) => (lmul_any a a W X h ha ha).mono fun e w' h => (show e = .returned (.int .i64 aa) ∧ Below W.heap.size W w' from ⟨by rw [h.1, haa], h.2 ▸ Below.refl _ _⟩))
  have HP3 := hide (fun W => (lpow_any a 1073741789 W ha).mono fun e w' h => (show e = .returned (.int .i64 1) ∧ Below W.heap.size W w' from ⟨by rw [h.1, e3], h.2⟩))
  have HP4 := hide (fun W => (lpow_any a (i + 1073741789) W ha).mono fun e w' h => (show e = .returned (.int .i64 r) ∧ Below W.heap.size W w' from ⟨by rw [h.1, e4], h.2⟩))
  have HP5 := hide (fun W => (lpow_any a i W ha).mono fun e w' h => (show e = .returned (.int .i64 r) ∧ Below W.heap.size W w' from ⟨by rw [h.1, hr], h.2⟩))
  have HP6 := hide (fun W => (lpow_any a (i - 1073741789) W ha).mono fun e w' h => (show e = .returned (.int .i64 r) ∧ Below W.heap.size W w' from ⟨by rw [h.1, e5], h.2⟩))
  have HP7 := hide (fun W => (lpow_any a k W ha).mono fun e w' h => (show e = .returned (.int .i64 s) ∧ Below W.heap.size W w' from ⟨by rw [h.1, hs], h.2⟩))
  have HM2 := hide (fun W X (h : Blk W X 3 [.int .i64 r, .int .i64 s]) => (lmul_any r s W X h vr vs).mono fun e w' h => (show e = .returned (.int .i64 u) ∧ Below W.heap.size W w' from ⟨by rw [h.1, hu], h.2 ▸ Below.refl _ _⟩))
  have HP8 := hide (fun W => (lpow_any a (i + k) W ha).mono fun e w' h => (show e = .returned (.int .i64 u) ∧ Below W.heap.size W w' from ⟨by rw [h.1, e6], h.2⟩))
  have HP9 := hide (fun W => (lpow_any r k W vr).mono fun e w' h => (show e = .returned (.int .i64 v) ∧ Below W.heap.size W w' from ⟨by rw [h.1, hv], h.2⟩))
  have HP10 := hide (fun W => (lpow_any a (i * k) W ha).mono fun e w' h => (show e = .returned (.int .i64 v) ∧ Below W.heap.size W w' from ⟨by rw [h.1, e7], h.2⟩))
  have HM3 := hide (fun W X (h : Blk W X 3 [.int .i64 a, .int .i64 b]) => (lmul_any a b W X h ha hb).mono fun e w' h => (show e = .returned (.int .i64 ab) ∧ Below W.heap.size W w' from ⟨by rw [h.1, hab], h.2 ▸ Below.refl _ _⟩))
  have HP11 := hide (fun W => (lpow_any ab i W vab).mono fun e w' h => (show e = .returned (.int .i64 q) ∧ Below W.heap.size W w' from ⟨by rw [h.1, e8], h.2⟩))
  have HP12 := hide (fun W => (lpow_any b i W hb).mono fun e w' h => (show e = .returned (.int .i64 t) ∧ Below W.heap.size W w' from ⟨by rw [h.1, ht], h.2⟩))
  have HM4 := hide (fun W X (h : Blk W X 3 [.int .i64 r, .int .i64 t]) => (lmul_any r t W X h vr vt).mono fun e w' h => (show e = .returned (.int .i64 q) ∧ Below W.heap.size W w' from ⟨by rw [h.1, hq], h.2 ▸ Below.refl _ _⟩))
  have HB0 := hide (Below.refl w.heap.size w)
  obtain ⟨j1, hj1⟩ : ∃ j, i + 1073741789 = j := ⟨_, rfl⟩
  obtain ⟨j2, hj2⟩ : ∃ j, i - 1073741789 = j := ⟨_, rfl⟩
  obtain ⟨j3, hj3⟩ : ∃ j, i + k = j := ⟨_, rfl⟩
  obtain ⟨j4, hj4⟩ : ∃ j, i * k = j := ⟨_, rfl⟩
  rw [hj1] at HP4 hw1
  rw [hj2] at HP6 hw2
  rw [hj3] at HP8 hw3
  rw [hj4] at HP10 hm
  clear ha hb vab vr vs vt e0 e1 e2 e3 e4 e5 e6 e7 e8 hx hy hab haa hr hs ht hu hv hq hi hk
  go_enter Try.func5, Try.ntmps5
  go_wp2_with fail
  refine (HS.out _).mono ?_
  rintro e wb1 ⟨rfl, hb⟩
  have HB1 := hide (below_one HB0.out hb)
  clear hb
  go_wp2_with fail
  refine (HEX.out _).mono ?_
  rintro e w' ⟨rfl, rfl⟩
  go_wp2_with fail
  refine (HEY.out _).mono ?_
  rintro e w' ⟨rfl, rfl⟩
  go_wp2_with fail
  refine (HP0.out _).mono ?_
  rintro e wb2 ⟨rfl, hb⟩
  have HB2 := hide (below_one HB1.out hb)
  clear hb
  go_wp2_with fail
  refine (HP1.out _).mono ?_
  rintro e wb3 ⟨rfl, hb⟩
  have HB3 := hide (below_one HB2.out hb)
  clear hb
  go_wp2_with fail
  refine (HP2.out _).mono ?_
  rintro e wb4 ⟨rfl, hb⟩
  have HB4 := hide (below_one HB3.out hb)
  clear hb
  go_wp2_with fail
  refine (HM1.out _ wb4.heap.size (Blk.new wb4 3 [.int .i64 a, .int .i64 a])).mono ?_
  rintro e wb5 ⟨rfl, hb⟩
  have HB5 := hide (below_one (HB4.out.alloc HB4.out.size (.cells #[.int .i64 a, .int .i64 a] 3)) hb)
  clear hb
  go_wp2_with fail
  refine (HP3.out _).mono ?_
  rintro e wb6 ⟨rfl, hb⟩
  have HB6 := hide (below_one HB5.out hb)
  clear hb
  go_wp2_with fail
  refine (HP4.out _).mono ?_
  rintro e wb7 ⟨rfl, hb⟩
  have HB7 := hide (below_one HB6.out hb)
  clear hb
  go_wp2_with fail
  refine (HP5.out _).mono ?_
  rintro e wb8 ⟨rfl, hb⟩
  have HB8 := hide (below_one HB7.out hb)
  clear hb
  go_wp2_with fail
  refine (HP6.out _).mono ?_
  rintro e wb9 ⟨rfl, hb⟩
  have HB9 := hide (below_one HB8.out hb)
  clear hb
  go_wp2_with fail
  refine (HP5.out _).mono ?_
  rintro e wb10 ⟨rfl, hb⟩
  have HB10 := hide (below_one HB9.out hb)
  clear hb
  go_wp2_with fail
  refine (HP5.out _).mono ?_
  rintro e wb11 ⟨rfl, hb⟩
  have HB11 := hide (below_one HB10.out hb)
  clear hb
  go_wp2_with fail
  refine (HP7.out _).mono ?_
  rintro e wb12 ⟨rfl, hb⟩
  have HB12 := hide (below_one HB11.out hb)
  clear hb
  go_wp2_with fail
  refine (HM2.out _ wb12.heap.size (Blk.new wb12 3 [.int .i64 r, .int .i64 s])).mono ?_
  rintro e wb13 ⟨rfl, hb⟩
  have HB13 := hide (below_one (HB12.out.alloc HB12.out.size (.cells #[.int .i64 r, .int .i64 s] 3)) hb)
  clear hb
  go_wp2_with fail
  refine (HP8.out _).mono ?_
  rintro e wb14 ⟨rfl, hb⟩
  have HB14 := hide (below_one HB13.out hb)
  clear hb
  go_wp2_with fail
  refine (HP5.out _).mono ?_
  rintro e wb15 ⟨rfl, hb⟩
  have HB15 := hide (below_one HB14.out hb)
  clear hb
  go_wp2_with fail
  refine (HP9.out _).mono ?_
  rintro e wb16 ⟨rfl, hb⟩
  have HB16 := hide (below_one HB15.out hb)
  clear hb
  go_wp2_with fail
  refine (HP10.out _).mono ?_
  rintro e wb17 ⟨rfl, hb⟩
  have HB17 := hide (below_one HB16.out hb)
  clear hb
  go_wp2_with fail
  refine (HM3.out _ wb17.heap.size (Blk.new wb17 3 [.int .i64 a, .int .i64 b])).mono ?_
  rintro e wb18 ⟨rfl, hb⟩
  have HB18 := hide (below_one (HB17.out.alloc HB17.out.size (.cells #[.int .i64 a, .int .i64 b] 3)) hb)
  clear hb
  go_wp2_with fail
  refine (HP11.out _).mono ?_
  rintro e wb19 ⟨rfl, hb⟩
  have HB19 := hide (below_one HB18.out hb)
  clear hb
  go_wp2_with fail
  refine (HP5.out _).mono ?_
  rintro e wb20 ⟨rfl, hb⟩
  have HB20 := hide (below_one HB19.out hb)
  clear hb
  go_wp2_with fail
  refine (HP12.out _).mono ?_
  rintro e wb21 ⟨rfl, hb⟩
  have HB21 := hide (below_one HB20.out hb)
  clear hb
  go_wp2_with fail
  refine (HM4.out _ wb21.heap.size (Blk.new wb21 3 [.int .i64 r, .int .i64 t])).mono ?_
  rintro e wb22 ⟨rfl, hb⟩
  have HB22 := hide (below_one (HB21.out.alloc HB21.out.size (.cells #[.int .i64 r, .int .i64 t] 3)) hb)
  clear hb
  go_wp2_with fail
  go_ret
  exact ⟨by simp, HB22.out⟩

theorem powers_walk (x y i k : Int) (w : World) (hi : -2147483648 ≤ i ∧ i ≤ 2147483647) (hk : -2147483648 ≤ k ∧ k ≤ 2147483647) : Calls Try.prog 5 #[.int .i64 x, .int .i64 y, .int .i32 i, .int .i32 k] w fun e w' => e = .returned (.bool true) ∧ Below w.heap.size w w' :=
  powers_go _ _ _ _ _ _ _ _ _ x y i k w hi hk rfl rfl rfl rfl rfl rfl rfl rfl rfl _ rfl
end Go.Proofs.Ythimljcfmnehcaa
