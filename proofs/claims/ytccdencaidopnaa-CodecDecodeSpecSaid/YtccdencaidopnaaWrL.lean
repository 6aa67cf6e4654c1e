/- writeList of the program appends the number of elements and the elements' encodings; value, whatever the kind. -/
import Derived.Test.YtccdencaidopnaaWrV
import Derived.Test.YtccdencaidopnaaWrI
namespace Go.Proofs.Ytccdencaidopnaa
open Go.RowKit

def ValPost (base B : Nat) (xs : List UInt8) (w : World) (e : Ending) (w' : World) : Prop := e = .returned (.tuple #[]) ∧ Below base w w' ∧ ∃ v', WS base B v' xs w'

/-- The contract of (*writer).value at one tree. -/
def ValAt (t : VT) : Prop := ∀ (base B : Nat) (v : Value) (xs : List UInt8) (w : World), base ≤ w.heap.size → t.In w → (∀ W, Below base w W → t.In W) → t.wf = true → xs.length + t.enc.length ≤ 4294967296 → WS base B v xs w →
    Calls Try.prog 28 #[.pointer (some ⟨B, 0, none⟩), t.val] w (ValPost base B (xs ++ t.enc) w)

set_option maxRecDepth 10000 in
set_option maxHeartbeats 1600000 in
theorem writeList_any (base B : Nat) (v : Value) (xs : List UInt8) (t : VT) (w : World) (hbase : base ≤ w.heap.size) (hin : t.In w) (hstay : ∀ W, Below base w W → t.In W)
    (hwf : VT.wf.wfs t.els = true) (hlen : xs.length + (numeral t.els.length).length + (VT.enc.encs t.els).length ≤ 4294967296) (hws : WS base B v xs w) (ih : ∀ i (h : i < t.els.length), ValAt t.els[i]) :
    Calls Try.prog 42 #[.pointer (some ⟨B, 0, none⟩), t.val] w (ValPost base B (xs ++ (numeral t.els.length ++ VT.enc.encs t.els)) w) := by
  have hst := St.start hws hin hbase
  have hBX : w.heap.size ≠ B := by have := hws.lt; omega
  have HS := hide hst
  obtain ⟨c0, f0, c2, _, _⟩ := hst.ws.cell
  obtain ⟨_, _, _, x3⟩ := hst.box.cells
  obtain ⟨_, _, _, hel⟩ := hin.facts
  have hu : t.els.length < 18446744073709551616 := by omega
  have hnl := (numeral_len hu).2.1
  have hnl1 := (numeral_len hu).2.2
  clear hst
  obtain ⟨A, hv, hsl, hA⟩ := hin.open
  have HSL := hide hsl
  rw [VT.val]
  clear hsl hv
  go_enter Try.func42, Try.ntmps42
  go_wp2_with fail
  generalize w.alloc (.cells #[.int .i64 t.kind, .int .i64 t.num, .string t.str, t.sl] 24) = W1 at *
  generalize w.heap.size = X at *
  have hs1 := HS.out.size
  rw [HSL.out] at x3
  have hn2 : xs.length ≤ 8589934592 := by omega
  have hwr : IntKind.u64.wrap (t.els.length : Int) = t.els.length := by rw [IntKind.wrap_u64]; omega
  go_region_law ((go_simp; go_at_call 55; refine (appendNumeral_any base _ v xs _ W1.drew hu hs1 hn2 HS.out.drew.ws.own).mono ?_; rintro e w1 ⟨gb, cap, rfl, hown1, hk1⟩; obtain ⟨g0, g1⟩ := HS.out.drew.ws.kept hk1))
  all_goals (
    have hst2 := hide (St.store (ys := xs ++ numeral t.els.length) HS.out.drew hBX (fun W hW => hstay W (HS.out.drew.below.trans hW)) hk1 (by rw [List.length_append]; exact hown1))
    clear hwr
    generalize w1.setCell ⟨B, 0, none⟩ _ = W2 at *
    obtain ⟨_, _, _, y3⟩ := hst2.out.box.cells
    rw [HSL.out] at y3
    clear c0 f0 c2 x3 g0 g1
    go_wp2_with fail)
  all_goals (
    clear hown1 hk1
    go_loopw [21] (fun i wr => ∃ k : Nat, k ≤ t.els.length ∧ i = .int .i64 k ∧ (∃ v', WS base B v' (xs ++ (numeral t.els.length ++ VT.enc.encs (t.els.take k))) wr) ∧ Below base w wr ∧ base ≤ wr.heap.size) (fun i _ => t.els.length - (intOf i).toNat)
    case atStart => exact ⟨0, Nat.zero_le _, rfl, ⟨_, by simpa [VT.enc.encs] using hst2.out.ws⟩, hst2.out.below, hst2.out.size⟩
    case round =>
      obtain ⟨k, hk, rfl, ⟨v', hw'⟩, hb, hs2⟩ := hrel
      have hle := VT.encs_take_le t.els k
      by_cases hlt : k < t.els.length
      · obtain ⟨b, o, rfl, ha⟩ := hA k hlt
        have hint := hstay wr hb
        obtain ⟨⟨q0, q1, q2, q3⟩, hink⟩ := hint.el ha hlt
        have HA := hide ha
        clear ha
        have hsk := VT.encs_get_le hlt
        have HT := hide (VT.encs_take hlt)
        have HWF := VT.wfs_iff.1 hwf k hlt
        have hlx : (xs ++ (numeral t.els.length ++ VT.enc.encs (t.els.take k))).length + (t.els[k]).enc.length ≤ 4294967296 := by simp only [List.length_append]; omega
        have HC := hide (ih k hlt base B v' _ (wr.alloc (.cells #[.int .i64 (t.els[k]).kind, .int .i64 (t.els[k]).num, .string (t.els[k]).str, (t.els[k]).sl] 24)) (by simp; omega) (hink.alloc _)
          (fun W hW => ((hstay W (hb.trans (((Below.refl _ _).alloc hs2 _).trans hW))).el HA.out hlt).2) HWF hlx (hw'.alloc _))
        clear ih hlx HWF
        go_wp2_with (go_at_call 28; refine HC.out.mono ?_; rintro e w' ⟨rfl, hb', hws'⟩)
        refine ⟨⟨k + 1, by omega, by go_num, ?_, ?_, ?_⟩, by simp [intOf]; omega⟩
        · rw [HT.out]
          simpa only [List.append_assoc] using hws'
        · exact hb.trans (((Below.refl _ _).alloc hs2 _).trans hb')
        · have := hb'.size; simp at this; omega
      · obtain rfl : k = t.els.length := by omega
        have HF := hide (List.take_length (l := t.els))
        go_wp2_with fail
        go_end0
        rw [HF.out] at hw'
        exact ⟨rfl, hb, _, hw'⟩)

theorem value_step (t : VT) (ih : ∀ i (h : i < t.els.length), ValAt t.els[i]) : ValAt t := by
  intro base B v xs w hbase hin hstay hwf hlen hws
  have he := VT.enc_eq t
  have hw := VT.wf_eq t
  by_cases h1 : t.kind = 1
  · have hE : t.enc = 1 :: numeral (uns t.num) := by rw [he, if_pos h1]
    refine value_1 base B v xs t w hbase hin hstay h1 (by omega) hws fun v' W hW hinW hbW => ?_
    have := writeInt_any base B v' (xs ++ [1]) t W (Nat.le_trans hbase hbW.size) hinW (fun W2 h2 => hstay W2 (hbW.trans h2)) (by rw [hE] at hlen; simp at hlen ⊢; omega) hW
    rw [hE]
    simpa using this
  · by_cases h2 : t.kind = 2
    · have hE : t.enc = 2 :: (numeral t.str.size ++ t.str.data.toList) := by rw [he, if_neg h1, if_pos h2]
      refine value_2 base B v xs t w hbase hin hstay h2 (by omega) hws fun v' W hW hinW hbW => ?_
      have := writeText_any base B v' (xs ++ [2]) t W (Nat.le_trans hbase hbW.size) hinW (fun W2 h2 => hstay W2 (hbW.trans h2)) (by
        rw [hE] at hlen
        have hl := (numeral_len (u := t.str.size) (by have := hin.facts.2.2.1; omega)).2.2
        simp at hlen ⊢
        omega) hW
      rw [hE]
      simpa using this
    · have h3 : t.kind = 3 := by
        rw [hw] at hwf
        by_cases h3 : t.kind = 3
        · exact h3
        · simp [h1, h2, h3] at hwf
      have hE : t.enc = 3 :: (numeral t.els.length ++ VT.enc.encs t.els) := by rw [he, if_neg h1, if_neg h2]
      have hwfs : VT.wf.wfs t.els = true := by
        rw [hw] at hwf
        simp [h3] at hwf
        exact hwf.2
      refine value_3 base B v xs t w hbase hin hstay h3 (by omega) hws fun v' W hW hinW hbW => ?_
      have hel := hin.facts.2.2.2
      have hl := (numeral_len (u := t.els.length) (by omega)).2
      have := writeList_any base B v' (xs ++ [3]) t W (Nat.le_trans hbase hbW.size) hinW (fun W2 h2 => hstay W2 (hbW.trans h2)) hwfs (by
        rw [hE] at hlen
        simp at hlen ⊢
        omega) hW ih
      rw [hE]
      rw [show xs ++ [3] ++ (numeral t.els.length ++ VT.enc.encs t.els) = xs ++ 3 :: (numeral t.els.length ++ VT.enc.encs t.els) by simp] at this
      exact this

theorem value_any : ∀ (N : Nat) (t : VT), t.sz ≤ N → ValAt t := by
  intro N
  induction N with
  | zero => intro t h; cases t; simp [VT.sz] at h
  | succ N ih => exact fun t h => value_step t fun i hi => ih _ (by have := VT.sz_lt hi; omega)
end Go.Proofs.Ytccdencaidopnaa
