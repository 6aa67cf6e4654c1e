/- Formed, Depth and Check of the reference, for every value that lies in memory. -/
import Derived.Test.YtccdencaidopnaaEnc
namespace Go.Proofs.Ytccdencaidopnaa
open Go.RowKit

/-- The contract of Formed at one tree. -/
def FormAt (t : VT) : Prop := ∀ w : World, t.In w → Calls Try.prog 32 #[t.val] w fun e w' => e = .returned (.bool t.wf) ∧ Below w.heap.size w w'

set_option maxRecDepth 10000 in
set_option maxHeartbeats 1600000 in
theorem formed_step (t : VT) (ih : ∀ i (h : i < t.els.length), FormAt t.els[i]) : FormAt t := by
  intro w hin
  obtain ⟨hk, hn, hs, hl⟩ := hin.facts
  have HE := hide (VT.wf_eq t)
  by_cases h3 : t.kind = 3
  · have b1 : (t.kind == 1) = false := by simp [h3]
    have b2 : (t.kind == 2) = false := by simp [h3]
    have b3 : (t.kind == 3) = true := by simp [h3]
    have HE := hide (show t.wf = (t.num == 0 && t.str.toList.isEmpty && VT.wf.wfs t.els) by rw [HE.out, b1, b2, b3]; rfl)
    have IH := hide ih
    obtain ⟨A, hv, hsl, hA⟩ := hin.open
    have HSL := hide hsl
    have bx := hide (Box.new w t)
    clear hv hsl ih h3
    go_enter Try.func32, Try.ntmps32
    go_wp2_with fail
    have hin1 := hin.alloc (.cells #[.int .i64 t.kind, .int .i64 t.num, .string t.str, t.sl] 24)
    have hb0 := hide (below_new w (.cells #[.int .i64 t.kind, .int .i64 t.num, .string t.str, t.sl] 24))
    generalize w.alloc (.cells #[.int .i64 t.kind, .int .i64 t.num, .string t.str, t.sl] 24) = W1 at *
    go_loopw [3] (fun i wr => ∃ k : Nat, k ≤ t.els.length ∧ i = .int .i64 k ∧ Hid (∀ j (h : j < t.els.length), j < k → (t.els[j]).wf = true) ∧ Below W1.heap.size W1 wr) (fun i _ => t.els.length - (intOf i).toNat)
    case atStart => exact ⟨0, Nat.zero_le _, rfl, hide (by intros; omega), Below.refl _ _⟩
    case round =>
      obtain ⟨k, hk, rfl, HW, hb⟩ := hrel
      obtain ⟨_, y1, y2, y3⟩ := (bx.out.later hb).cells
      rw [HSL.out] at y3
      by_cases hlt : k < t.els.length
      · obtain ⟨b, o, rfl, ha⟩ := hA k hlt
        obtain ⟨⟨c0, c1, c2, c3⟩, hink⟩ := (hin1.later hb).el ha hlt
        have HC := hide (IH.out k hlt wr hink)
        clear ha
        cases hwf : (t.els[k]).wf with
        | true =>
          rw [hwf] at HC
          have HK := hide hwf
          clear hwf
          go_wp2_with (go_at_call 32; refine HC.out.mono ?_; rintro e w' ⟨rfl, hb'⟩)
          refine ⟨⟨k + 1, by omega, by go_num, hide (fun j h hj => ?_), below_one hb hb'⟩, by simp [intOf]; omega⟩
          by_cases e : j = k
          · subst e; exact HK.out
          · exact HW.out j h (by omega)
        | false =>
          rw [hwf] at HC
          have hfin := hide (show t.wf = false by rw [HE.out, wfs_false hlt hwf]; simp)
          clear hwf
          go_wp2_with (go_at_call 32; refine HC.out.mono ?_; rintro e w' ⟨rfl, hb'⟩)
          go_ret
          exact ⟨by rw [hfin.out]; rfl, below_one (below_one hb0.out hb) hb'⟩
      · obtain rfl : k = t.els.length := by omega
        have hfin := hide (show t.wf = (t.num == 0 && t.str.toList.isEmpty) by rw [HE.out, VT.wfs_iff.2 (fun i h => HW.out i h h)]; simp)
        have hB := hide (below_one hb0.out hb)
        clear HW
        go_wp2_with fail
        all_goals go_ret
        all_goals exact ⟨by rw [hfin.out]; simp [*], hB.out⟩
  · have b3 : (t.kind == 3) = false := by simp [h3]
    obtain ⟨A, hv, hsl, hA⟩ := hin.open
    clear ih h3 hA
    go_enter Try.func32, Try.ntmps32
    go_wp2_with fail
    all_goals go_ret
    all_goals exact ⟨by rw [HE.out]; simp [*], below_new _ _⟩

theorem formed_any : ∀ (N : Nat) (t : VT), t.sz ≤ N → FormAt t := by
  intro N
  induction N with
  | zero => intro t h; cases t; simp [VT.sz] at h
  | succ N ih => exact fun t h => formed_step t fun i hi => ih _ (by have := VT.sz_lt hi; omega)

/-- The contract of Depth at one tree. -/
def RDepAt (t : VT) : Prop := ∀ w : World, t.In w → t.sz ≤ 1000000 → Calls Try.prog 33 #[t.val] w fun e w' => e = .returned (.int .i64 (t.dep : Nat)) ∧ Below w.heap.size w w'

set_option maxRecDepth 10000 in
set_option maxHeartbeats 1600000 in
theorem rdepth_step (t : VT) (ih : ∀ i (h : i < t.els.length), RDepAt t.els[i]) : RDepAt t := by
  intro w hin hsz
  obtain ⟨hk, hn, hs, hl⟩ := hin.facts
  have HE := hide (VT.dep_eq t)
  by_cases h3 : t.kind = 3
  · have hb3 : (t.kind != 3) = false := by simp [h3]
    have H3 := hide h3
    clear h3
    have hdl := VT.dep_le t
    have hdd : VT.dep.deps t.els ≤ 1000000 := by rw [HE.out, if_pos H3.out] at hdl; omega
    have IH := hide ih
    obtain ⟨A, hv, hsl, hA⟩ := hin.open
    have HSL := hide hsl
    have bx := hide (Box.new w t)
    clear hv hsl ih hdl
    go_enter Try.func33, Try.ntmps33
    go_wp2_with fail
    have hin1 := hin.alloc (.cells #[.int .i64 t.kind, .int .i64 t.num, .string t.str, t.sl] 24)
    have hb0 := hide (below_new w (.cells #[.int .i64 t.kind, .int .i64 t.num, .string t.str, t.sl] 24))
    generalize w.alloc (.cells #[.int .i64 t.kind, .int .i64 t.num, .string t.str, t.sl] 24) = W1 at *
    go_loopw [3, 4] (fun d i wr => ∃ k : Nat, k ≤ t.els.length ∧ i = .int .i64 k ∧ d = .int .i64 (VT.dep.deps (t.els.take k) : Nat) ∧ Below W1.heap.size W1 wr) (fun _ i _ => t.els.length - (intOf i).toNat)
    case atStart => exact ⟨0, Nat.zero_le _, rfl, rfl, Below.refl _ _⟩
    case round =>
      obtain ⟨k, hk, rfl, rfl, hb⟩ := hrel
      obtain ⟨_, _, _, y3⟩ := (bx.out.later hb).cells
      rw [HSL.out] at y3
      by_cases hlt : k < t.els.length
      · obtain ⟨b, o, rfl, ha⟩ := hA k hlt
        obtain ⟨⟨c0, c1, c2, c3⟩, hink⟩ := (hin1.later hb).el ha hlt
        have hszk := VT.sz_lt hlt
        have HC := hide (IH.out k hlt wr hink (by omega))
        have HT := hide (VT.deps_take hlt)
        clear ha hszk
        go_wp2_with (go_at_call 33; refine HC.out.mono ?_; rintro e w' ⟨rfl, hb'⟩)
        refine ⟨⟨k + 1, by omega, by go_num, ?_, below_one hb hb'⟩, by simp [intOf]; omega⟩
        rw [HT.out]; congr 1; omega
      · obtain rfl : k = t.els.length := by omega
        have HF := hide (List.take_length (l := t.els))
        have hB := hide (below_one hb0.out hb)
        rw [HF.out]
        go_wp2_with fail
        go_ret
        exact ⟨by rw [HE.out, if_pos H3.out]; refine ret_num ?_; omega, hB.out⟩
  · have hb3 : (t.kind != 3) = true := by simp [h3]
    rw [if_neg h3] at HE
    clear h3
    go_enter Try.func33, Try.ntmps33
    go_wp2_with fail
    go_ret
    exact ⟨by rw [HE.out]; rfl, below_new _ _⟩

theorem rdepth_any : ∀ (N : Nat) (t : VT), t.sz ≤ N → RDepAt t := by
  intro N
  induction N with
  | zero => intro t h; cases t; simp [VT.sz] at h
  | succ N ih => exact fun t h => rdepth_step t fun i hi => ih _ (by have := VT.sz_lt hi; omega)

set_option maxHeartbeats 400000 in
theorem rcheck_any (t : VT) (w : World) (hin : t.In w) (hsz : t.sz ≤ 1000000) : Calls Try.prog 17 #[t.val] w fun e w' => e = .returned (.int .i64 (chk t : Nat)) ∧ Below w.heap.size w w' := by
  have hd := VT.dep_le t
  have H1 := fun W hW => hide (formed_any t.sz t (Nat.le_refl _) W hW)
  have H2 := fun W hW => hide (rdepth_any t.sz t (Nat.le_refl _) W hW hsz)
  by_cases hwf : t.wf = true
  · by_cases hdp : 16 < t.dep
    · have HC := hide (show chk t = 2 by simp [chk, hwf, hdp])
      have hgt : decide ((t.dep : Int) > 16) = true := by simp; omega
      rw [hwf] at H1
      clear hwf
      go_enter Try.func17, Try.ntmps17
      go_wp2_with (first | (go_at_call 32; refine (H1 _ (hin.alloc _)).out.mono ?_; rintro e w1 ⟨rfl, hb1⟩; have c0 := hb1.cell (p := ⟨w.heap.size, 0, none⟩) (by simp); have c1 := hb1.cell (p := ⟨w.heap.size, 1, none⟩) (by simp); have c2 := hb1.cell (p := ⟨w.heap.size, 2, none⟩) (by simp); have c3 := hb1.cell (p := ⟨w.heap.size, 3, none⟩) (by simp)) | (go_at_call 33; refine (H2 _ ((hin.alloc _).later ‹_›)).out.mono ?_; rintro e w2 ⟨rfl, hb2⟩))
      go_ret
      exact ⟨by rw [HC.out]; rfl, below_one (below_two (Below.refl _ _) hb1) hb2⟩
    · have HC := hide (show chk t = 0 by simp [chk, hwf, hdp])
      have hgt : decide ((t.dep : Int) > 16) = false := by simp; omega
      rw [hwf] at H1
      clear hwf
      go_enter Try.func17, Try.ntmps17
      go_wp2_with (first | (go_at_call 32; refine (H1 _ (hin.alloc _)).out.mono ?_; rintro e w1 ⟨rfl, hb1⟩; have c0 := hb1.cell (p := ⟨w.heap.size, 0, none⟩) (by simp); have c1 := hb1.cell (p := ⟨w.heap.size, 1, none⟩) (by simp); have c2 := hb1.cell (p := ⟨w.heap.size, 2, none⟩) (by simp); have c3 := hb1.cell (p := ⟨w.heap.size, 3, none⟩) (by simp)) | (go_at_call 33; refine (H2 _ ((hin.alloc _).later ‹_›)).out.mono ?_; rintro e w2 ⟨rfl, hb2⟩))
      go_ret
      exact ⟨by rw [HC.out]; rfl, below_one (below_two (Below.refl _ _) hb1) hb2⟩
  · have HC := hide (show chk t = 1 by simp [chk, hwf])
    rw [Bool.eq_false_iff.2 hwf] at H1
    clear hwf
    go_enter Try.func17, Try.ntmps17
    go_wp2_with (first | (go_at_call 32; refine (H1 _ (hin.alloc _)).out.mono ?_; rintro e w1 ⟨rfl, hb1⟩; have c0 := hb1.cell (p := ⟨w.heap.size, 0, none⟩) (by simp); have c1 := hb1.cell (p := ⟨w.heap.size, 1, none⟩) (by simp); have c2 := hb1.cell (p := ⟨w.heap.size, 2, none⟩) (by simp); have c3 := hb1.cell (p := ⟨w.heap.size, 3, none⟩) (by simp)) | (go_at_call 33; refine (H2 _ ((hin.alloc _).later ‹_›)).out.mono ?_; rintro e w2 ⟨rfl, hb2⟩))
    go_ret
    exact ⟨by rw [HC.out]; rfl, below_two (Below.refl _ _) hb1⟩
end Go.Proofs.Ytccdencaidopnaa
