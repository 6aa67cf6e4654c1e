/- DiskWriteSpec: the walk. -/
import Derived.Test.YtfhfmnlkpcmgfaaSan
import Derived.Test.YtfhfmnlkpcmgfaaSam
namespace Go.Proofs.Ytfhfmnlkpcmgfaa
open Go.RowKit

/-- What came in is short. -/
def Short (d : Dsk) : Prop := (∀ s ∈ d.ss, s.l.length ≤ 140737488355328) ∧ ∀ p ∈ d.ps, p.s.l.length ≤ 140737488355328
theorem env_one {w : World} {d : Dsk} {m : List Sec} (hi : d.In w.heap.size w) (hm : ∀ s ∈ m, s.In w.heap.size w) : Env w.heap.size w [(w.heap.size, d)] m (w.alloc (.cells d.cs.toArray 25)) :=
  Env.new ⟨Below.refl _ _, fun p hp => (by cases hp), hm⟩ (Nat.le_refl _) hi

set_option maxRecDepth 100000 in
set_option maxHeartbeats 6400000 in
theorem wspec_walk (d : Dsk) (i : Int) (b : Sec) (w : World) (hi : d.In w.heap.size w) (hb0 : b.In w.heap.size w) (hri : -9223372036854775808 ≤ i ∧ i ≤ 9223372036854775807) (hsh : Short d) :
    Calls Try.prog 4 #[d.v, .int .i64 i, b.v] w fun e w' => e = .returned (.bool true) ∧ Below w.heap.size w w' := by
  have H0 := hide (env_one (m := [b]) hi (fun s hs => by obtain rfl : s = b := (by simpa using hs); exact hb0))
  have HRI := hide hri
  have HSH := hide hsh
  clear hi hb0 hri hsh
  go_enter Try.func4, Try.ntmps4
  go_wp2_with fail
  refine (sane_any _).mono ?_
  rintro e w1 ⟨rfl, hb⟩
  have H1 := hide (H0.out.below hb)
  clear hb H0
  obtain ⟨hbx, -, -, hix⟩ := H1.out.box (w.heap.size, d) (by simp)
  obtain ⟨c0, c1, c2, c3⟩ := hbx.c4
  have HFW := hide (few_any d w1 hix HSH.out.1 HSH.out.2)
  clear hbx hix
  go_wp2_with fail
  refine HFW.out.mono ?_
  rintro e w2 ⟨f, rfl, hb⟩
  have H2 := hide (H1.out.below hb)
  clear hb H1 HFW c0 c1 c2 c3
  cases f with
  | false =>
    go_wp2_with fail
    go_ret
    exact ⟨rfl, H2.out.bel⟩
  | true =>
    by_cases hl : 1000 < b.l.length
    · have hl' : (1000 : Int) < b.l.length := by omega
      go_wp2_with fail
      go_ret
      exact ⟨rfl, H2.out.bel⟩
    · have hl' : (b.l.length : Int) ≤ 1000 := by omega
      obtain ⟨hbx, -, -, hix⟩ := H2.out.box (w.heap.size, d) (by simp)
      obtain ⟨c0, c1, c2, c3⟩ := hbx.c4
      have HWR := hide (write_any d i b w2 hix (H2.out.secs b (by simp)) HRI.out)
      clear hbx hix
      go_wp2_with fail
      refine HWR.out.mono ?_
      rintro e w3 ⟨x1, rfl, hd1, hi1, hb⟩
      have HD1 := hide hd1
      have H3 := hide ((H2.out.below hb).new (Nat.le_refl _) hi1)
      clear hb hi1 hd1 H2 HWR c0 c1 c2 c3
      obtain ⟨hbx, -, -, hix⟩ := H3.out.box (w.heap.size, d) (by simp)
      obtain ⟨c0, c1, c2, c3⟩ := hbx.c4
      have HWR := hide (fun (hv : (d.d.runs && d.d.has i) = true) => rwrite_ok d i b _ hix (H3.out.secs b (by simp)) HRI.out (by simp at hv; exact hv.1) (by simp at hv; exact hv.2))
      have HWB := hide (fun (hv : (d.d.runs && d.d.has i) = false) => rwrite_bad d i b _ hix hv)
      have HRW : Hid (Calls Try.prog 20 #[d.v, .int .i64 i, b.v] _ (Ans _ _ (d.d.write i b.l))) := hide (by
        cases hv : d.d.runs && d.d.has i with
        | true => exact HWR.out hv
        | false => exact HWB.out hv)
      clear hbx hix HWR HWB
      go_wp2_with fail
      refine HRW.out.mono ?_
      rintro e w4 ⟨x2, rfl, hd2, hi2, hb⟩
      have HD2 := hide hd2
      have H4 := hide ((H3.out.below hb).new (Nat.le_refl _) hi2)
      clear hb hi2 hd2 H3 HRW c0 c1 c2 c3
      obtain ⟨hbx, -, -, hix⟩ := H4.out.box (w.heap.size, d) (by simp)
      obtain ⟨c0, c1, c2, c3⟩ := hbx.c4
      have HRE := hide (read_any d i _ hix)
      clear hbx hix
      go_wp2_with fail
      refine HRE.out.mono ?_
      rintro e w5 ⟨s1, rfl, hs1, hi1, hb⟩
      have HS1 := hide hs1
      have H5 := hide ((H4.out.below hb).add hi1)
      clear hb hi1 hs1 H4 HRE c0 c1 c2 c3
      obtain ⟨hbx, -, -, hix⟩ := H5.out.box (w.heap.size, d) (by simp)
      obtain ⟨c0, c1, c2, c3⟩ := hbx.c4
      have HRE := hide (rread_any d i _ hix)
      clear hbx hix
      go_wp2_with fail
      refine HRE.out.mono ?_
      rintro e w6 ⟨s2, rfl, hs2, hi2, hb⟩
      have HS2 := hide hs2
      have H6 := hide ((H5.out.below hb).add hi2)
      clear hb hi2 hs2 H5 HRE c0 c1 c2 c3
      obtain ⟨hbx, -, -, hix⟩ := H6.out.box (w3.heap.size, x1) (by simp)
      obtain ⟨hby, -, -, hiy⟩ := H6.out.box (w4.heap.size, x2) (by simp)
      obtain ⟨c0, c1, c2, c3⟩ := hbx.c4
      obtain ⟨e0, e1, e2, e3⟩ := hby.c4
      have HSM := hide (same_any x1 x2 _ hix hiy (HD1.out.trans HD2.out.symm))
      clear hbx hby hix hiy
      go_wp2_with fail
      refine HSM.out.mono ?_
      rintro e w7 ⟨rfl, hb⟩
      have H7 := hide (H6.out.below hb)
      clear hb H6 HSM c0 c1 c2 c3 e0 e1 e2 e3
      have v1 := (H7.out.secs s1 (by simp)).conv
      have v2 := (H7.out.secs s2 (by simp)).conv
      rw [HS1.out] at v1
      rw [HS2.out] at v2
      go_wp2_with fail
      go_ret
      exact ⟨rfl, H7.out.bel⟩
end Go.Proofs.Ytfhfmnlkpcmgfaa
