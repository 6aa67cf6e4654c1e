/- unsignedForm, numeralSize and size of the program answer the unsigned form, the number of digits and the length of the encoding. -/
import Derived.Test.YtccdencaidopnaaDep
import Derived.Test.YtccdencaidopnaaNum
import Derived.Test.YtccdencaidopnaaShelf
namespace Go.Proofs.Ytccdencaidopnaa
open Go.RowKit

theorem uns_neg {n : Int} (h : n < 0) (h0 : -9223372036854775808 ≤ n) : (uns n : Int) = 2 * (-(n + 1)) + 1 := by unfold uns; rw [if_pos h]; omega
theorem uns_pos {n : Int} (h : 0 ≤ n) : (uns n : Int) = 2 * n := by unfold uns; rw [if_neg (by omega)]; omega

set_option maxHeartbeats 400000 in
theorem unsignedForm_any (n : Int) (w : World) (h0 : -9223372036854775808 ≤ n) (h1 : n ≤ 9223372036854775807) :
    Calls Try.prog 44 #[.int .i64 n] w fun e w' => e = .returned (.int .u64 (uns n : Nat)) ∧ w = w' := by
  by_cases hn : n < 0
  · have HU := hide (uns_neg hn h0)
    go_enter Try.func44, Try.ntmps44
    go_wp2_with fail
    go_ret
    exact ⟨by rw [HU.out]; rfl, rfl⟩
  · have HU := hide (uns_pos (by omega : 0 ≤ n))
    go_enter Try.func44, Try.ntmps44
    go_wp2_with fail
    go_ret
    exact ⟨by rw [HU.out]; rfl, rfl⟩

set_option maxHeartbeats 400000 in
theorem numeralSize_any (u : Nat) (w : World) (h1 : u < 18446744073709551616) :
    Calls Try.prog 43 #[.int .u64 u] w fun e w' => e = .returned (.int .i64 ((numeral u).length : Nat)) ∧ w = w' := by
  obtain ⟨hl, _, _⟩ := numeral_len h1
  have HL := hide hl
  clear hl
  have hb := bitLen_le h1
  have HC := fun W => hide (Try.bits_Len64 (u : Int) W (by omega) (by omega))
  rw [Int.toNat_natCast] at HC
  generalize Lib.bitLen u = bl at *
  go_enter Try.func43, Try.ntmps43
  go_wp2_with (go_at_call 56; refine (HC _).out.mono ?_; rintro e w' ⟨rfl, rfl⟩)
  go_ret
  refine ⟨?_, rfl⟩
  rw [HL.out]
  show Ending.returned (.int .i64 (max 1 (((bl : Int) + 7 - 1) / 7))) = _
  congr 2
  omega

/-- The contract of size at one tree. -/
def SizeAt (t : VT) : Prop := ∀ w : World, t.In w → t.enc.length ≤ 4294967296 → Calls Try.prog 27 #[t.val] w fun e w' => e = .returned (.int .i64 (t.enc.length : Nat)) ∧ Below w.heap.size w w'

set_option maxHeartbeats 800000 in
theorem size_step (t : VT) (ih : ∀ i (h : i < t.els.length), SizeAt t.els[i]) : SizeAt t := by
  intro w hin hsz
  obtain ⟨hk, hn, hs, hl⟩ := hin.facts
  have HE := hide (VT.enc_eq t)
  obtain ⟨A, hv, _, hA⟩ := hin.open
  rw [hv]
  clear hv
  by_cases h1 : t.kind = 1
  · have hb1 : (t.kind == 1) = true := by simp [h1]
    have H1 := hide h1
    clear h1
    have hu := uns_lt hn.1 hn.2
    have hnl := (numeral_len hu).2.1
    go_enter Try.func27, Try.ntmps27
    go_wp2_with (first | (go_at_call 44; refine (unsignedForm_any _ _ (by omega) (by omega)).mono ?_; rintro e w' ⟨rfl, rfl⟩) | (go_at_call 43; refine (numeralSize_any _ _ (by omega)).mono ?_; rintro e w' ⟨rfl, rfl⟩))
    go_ret
    refine ⟨?_, below_new _ _⟩
    rw [HE.out, if_pos H1.out, List.length_cons]
    refine ret_num ?_
    omega
  · have hb1 : (t.kind == 1) = false := by simp [h1]
    have H1 := hide h1
    clear h1
    by_cases h2 : t.kind = 2
    · have hb2 : (t.kind == 2) = true := by simp [h2]
      have H2 := hide h2
      clear h2
      have hu : t.str.size < 18446744073709551616 := by omega
      have hnl := (numeral_len hu).2.1
      go_enter Try.func27, Try.ntmps27
      go_wp2_with fail
      go_quiet ((go_at_call 43; exact quiet_left (numeralSize_any _ _ (by omega))))
      go_wp2_with fail
      go_ret
      refine ⟨?_, below_drewN (below_new _ _) _⟩
      rw [HE.out, if_neg H1.out, if_pos H2.out, List.length_cons, List.length_append]
      refine ret_num ?_
      simp
      omega
    · have hb2 : (t.kind == 2) = false := by simp [h2]
      have H2 := hide h2
      clear h2
      have hu : t.els.length < 18446744073709551616 := by omega
      have hnl := (numeral_len hu).2.1
      go_enter Try.func27, Try.ntmps27
      go_wp2_with ((go_at_call 43; refine (numeralSize_any _ _ (by omega)).mono ?_; rintro e w' ⟨rfl, rfl⟩))
      have hE := congrArg List.length HE.out
      rw [if_neg H1.out, if_neg H2.out, List.length_cons, List.length_append] at hE
      go_loopw [3, 36] (fun d i wr => ∃ k : Nat, k ≤ t.els.length ∧ i = .int .i64 k ∧ d = .int .i64 (1 + (numeral t.els.length).length + (VT.enc.encs (t.els.take k)).length) ∧ Below w.heap.size w wr) (fun _ i _ => t.els.length - (intOf i).toNat)
      case atStart => exact ⟨0, Nat.zero_le _, rfl, by simp [VT.enc.encs], below_new _ _⟩
      case round =>
        obtain ⟨k, hk', rfl, rfl, hb⟩ := hrel
        by_cases hlt : k < t.els.length
        · obtain ⟨b, o, rfl, ha⟩ := hA k hlt
          obtain ⟨⟨c0, c1, c2, c3⟩, hink⟩ := (hin.later hb).el ha hlt
          have HA := hide ha
          clear ha
          have hsk := VT.encs_get_le hlt
          have HT := hide (congrArg List.length (VT.encs_take hlt))
          have HC := fun W (hW : Below wr.heap.size wr W) => hide (ih k hlt W (hink.later hW) (by omega))
          have HEE := hide hE
          have h9 : 1 + (numeral t.els.length).length + (VT.enc.encs (t.els.take k)).length + (t.els[k]).enc.length ≤ 4294967296 := by omega
          clear ih hE hsk
          go_wp2_with (go_at_call 27; refine (HC _ (below_new _ _)).out.mono ?_; rintro e w' ⟨rfl, hb'⟩)
          refine ⟨⟨k + 1, by omega, by go_num, ?_, ?_⟩, by simp [intOf]; omega⟩
          · rw [HT.out, List.length_append]; refine val_num ?_; omega
          · exact below_two hb hb'
        · obtain rfl : k = t.els.length := by omega
          have HF := hide (List.take_length (l := t.els))
          have HEE := hide hE
          clear hE
          go_wp2_with fail
          go_ret
          exact ⟨by rw [HEE.out, HF.out]; refine ret_num ?_; omega, hb⟩

theorem size_any : ∀ (N : Nat) (t : VT), t.sz ≤ N → SizeAt t := by
  intro N
  induction N with
  | zero => intro t h; cases t; simp [VT.sz] at h
  | succ N ih => exact fun t h => size_step t fun i hi => ih _ (by have := VT.sz_lt hi; omega)
end Go.Proofs.Ytccdencaidopnaa
