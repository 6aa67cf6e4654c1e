/- checkIndex, asked. -/
import Derived.Test.YthmaakiibgdigaaChk
import Derived.Test.YthmaakiibgdigaaRChk
namespace Go.Proofs.Ythmaakiibgdigaa
open Go.RowKit
variable {ok : Nat → Prop}

theorem net_len (n : Net) : n.d.q.length = n.q.l.length := by simp [Net.d]
theorem asked_no {n : Nt} (i : Int) (h : n.chk = false) : n.asked i = 60 := by unfold Nt.asked; rw [h]; rfl
theorem asked_out {n : Nt} {i : Int} (h : n.chk = true) (h2 : n.hasI i = false) : n.asked i = 1 := by unfold Nt.asked; rw [h, h2]; rfl
theorem asked_in {n : Nt} {i : Int} (h : n.chk = true) (h2 : n.hasI i = true) : n.asked i = 0 := by unfold Nt.asked; rw [h, h2]; rfl
theorem asked_zero {n : Nt} {i : Int} (h : n.asked i = 0) : n.chk = true ∧ 0 ≤ i ∧ i < n.q.length := by
  unfold Nt.asked at h
  cases hc : n.chk with
  | false => rw [hc] at h; simp at h
  | true =>
    rw [hc] at h
    cases hh : n.hasI i with
    | false => rw [hh] at h; simp at h
    | true => exact ⟨rfl, by simpa [Nt.hasI] using hh⟩
theorem chk_len {n : Nt} (h : n.chk = true) : n.q.length ≤ 4096 := by
  simp only [Nt.chk, Bool.and_eq_true] at h
  exact (quB_iff.1 h.1).1

set_option maxRecDepth 10000 in
set_option maxHeartbeats 800000 in
theorem ask_any (n : Net) (i : Int) (w : World) (hi : n.In ok w) : Calls Try.prog 40 #[n.v, .int .i64 i] w fun e w' => e = .returned (.int .i64 (n.d.asked i)) ∧ Below w.heap.size w w' := by
  have hi2 := hi.below (below_new w (.cells n.cs.toArray 25))
  have HB := hide (below_new w (.cells n.cs.toArray 25))
  have HX := hide (Blk.new w 25 n.cs)
  cases hc : n.d.chk with
  | false =>
    have HF := hide (asked_no i hc)
    have HC := hide (check_no hc _ hi2)
    clear hc hi hi2
    go_enter Try.func40, Try.ntmps40
    go_wp2_with fail
    refine HC.out.mono ?_
    rintro e w1 ⟨rfl, hb⟩
    have HK := hide (below_one HB.out hb)
    clear hb
    go_wp2_with fail
    go_ret
    exact ⟨by rw [HF.out]; rfl, HK.out⟩
  | true =>
    have HC := hide (check_ok hc _ hi2)
    have HL := hide (net_len n)
    by_cases h0 : i < 0
    · have HF := hide (asked_out hc (by unfold Nt.hasI; simp; omega) : n.d.asked i = 1)
      clear hc hi hi2
      go_enter Try.func40, Try.ntmps40
      go_wp2_with fail
      refine HC.out.mono ?_
      rintro e w1 ⟨rfl, hb⟩
      have HK := hide (below_one HB.out hb)
      clear hb
      go_wp2_with fail
      go_ret
      exact ⟨by rw [HF.out]; rfl, HK.out⟩
    · by_cases h1 : i < (n.q.l.length : Int)
      · have HF := hide (asked_in hc (by unfold Nt.hasI; rw [HL.out]; simp; omega) : n.d.asked i = 0)
        have h1' : decide ((n.q.l.length : Int) ≤ i) = false := decide_eq_false (by omega)
        clear hc hi hi2
        go_enter Try.func40, Try.ntmps40
        go_wp2_with fail
        refine HC.out.mono ?_
        rintro e w1 ⟨rfl, hb⟩
        have HK := hide (below_one HB.out hb)
        obtain ⟨c0, c1⟩ := (HX.out.below hb HX.out.lt).c2
        clear hb
        go_wp2_with fail
        go_ret
        exact ⟨by rw [HF.out]; rfl, HK.out⟩
      · have HF := hide (asked_out hc (by unfold Nt.hasI; rw [HL.out]; simp; omega) : n.d.asked i = 1)
        have h1' : (n.q.l.length : Int) ≤ i := by omega
        clear hc hi hi2
        go_enter Try.func40, Try.ntmps40
        go_wp2_with fail
        refine HC.out.mono ?_
        rintro e w1 ⟨rfl, hb⟩
        have HK := hide (below_one HB.out hb)
        obtain ⟨c0, c1⟩ := (HX.out.below hb HX.out.lt).c2
        clear hb
        go_wp2_with fail
        go_ret
        exact ⟨by rw [HF.out]; rfl, HK.out⟩
theorem ask_is {n : Net} {i k : Int} (h : n.d.asked i = k) (w : World) (hi : n.In ok w) : Calls Try.prog 40 #[n.v, .int .i64 i] w fun e w' => e = .returned (.int .i64 k) ∧ Below w.heap.size w w' := h ▸ ask_any n i w hi

set_option maxRecDepth 10000 in
set_option maxHeartbeats 800000 in
theorem rask_any (n : Net) (i : Int) (w : World) (hi : n.In ok w) : Calls Try.prog 43 #[n.v, .int .i64 i] w fun e w' => e = .returned (.int .i64 (n.d.asked i)) ∧ Below w.heap.size w w' := by
  have hi2 := hi.below (below_new w (.cells n.cs.toArray 25))
  have HB := hide (below_new w (.cells n.cs.toArray 25))
  have HX := hide (Blk.new w 25 n.cs)
  cases hc : n.d.chk with
  | false =>
    have HF := hide (asked_no i hc)
    have HC := hide (rcheck_no hc _ hi2)
    clear hc hi hi2
    go_enter Try.func43, Try.ntmps43
    go_wp2_with fail
    refine HC.out.mono ?_
    rintro e w1 ⟨rfl, hb⟩
    have HK := hide (below_one HB.out hb)
    clear hb
    go_wp2_with fail
    go_ret
    exact ⟨by rw [HF.out]; rfl, HK.out⟩
  | true =>
    have HC := hide (rcheck_ok hc _ hi2)
    have HL := hide (net_len n)
    by_cases h0 : i < 0
    · have HF := hide (asked_out hc (by unfold Nt.hasI; simp; omega) : n.d.asked i = 1)
      clear hc hi hi2
      go_enter Try.func43, Try.ntmps43
      go_wp2_with fail
      refine HC.out.mono ?_
      rintro e w1 ⟨rfl, hb⟩
      have HK := hide (below_one HB.out hb)
      clear hb
      go_wp2_with fail
      go_ret
      exact ⟨by rw [HF.out]; rfl, HK.out⟩
    · by_cases h1 : i < (n.q.l.length : Int)
      · have HF := hide (asked_in hc (by unfold Nt.hasI; rw [HL.out]; simp; omega) : n.d.asked i = 0)
        have h1' : decide ((n.q.l.length : Int) ≤ i) = false := decide_eq_false (by omega)
        clear hc hi hi2
        go_enter Try.func43, Try.ntmps43
        go_wp2_with fail
        refine HC.out.mono ?_
        rintro e w1 ⟨rfl, hb⟩
        have HK := hide (below_one HB.out hb)
        obtain ⟨c0, c1⟩ := (HX.out.below hb HX.out.lt).c2
        clear hb
        go_wp2_with fail
        go_ret
        exact ⟨by rw [HF.out]; rfl, HK.out⟩
      · have HF := hide (asked_out hc (by unfold Nt.hasI; rw [HL.out]; simp; omega) : n.d.asked i = 1)
        have h1' : (n.q.l.length : Int) ≤ i := by omega
        clear hc hi hi2
        go_enter Try.func43, Try.ntmps43
        go_wp2_with fail
        refine HC.out.mono ?_
        rintro e w1 ⟨rfl, hb⟩
        have HK := hide (below_one HB.out hb)
        obtain ⟨c0, c1⟩ := (HX.out.below hb HX.out.lt).c2
        clear hb
        go_wp2_with fail
        go_ret
        exact ⟨by rw [HF.out]; rfl, HK.out⟩
theorem rask_is {n : Net} {i k : Int} (h : n.d.asked i = k) (w : World) (hi : n.In ok w) : Calls Try.prog 43 #[n.v, .int .i64 i] w fun e w' => e = .returned (.int .i64 k) ∧ Below w.heap.size w w' := h ▸ rask_any n i w hi
end Go.Proofs.Ythmaakiibgdigaa
