/- number of the reference. -/
import Derived.Test.YtemapfhiiefieaaDoorLex
import Derived.Test.YtemapfhiiefieaaDoorRnm
namespace Go.Proofs.YtemapfhiiefieaaDoor
open Go.RowKit

def RNumPost (l : List UInt8) (w : World) (e : Ending) (w' : World) : Prop :=
  (∃ z : Int, e = .returned (.tuple #[.int .i64 z, .bool (numB l).isSome]) ∧ ∀ n : Nat, numB l = some n → z = n) ∧ Below w.heap.size w w'

set_option maxRecDepth 10000 in
set_option maxHeartbeats 1600000 in
theorem rnumber_any (l : List UInt8) (w : World) (hd : ∀ i (h : i < l.length), isDg l[i] = true) (h0 : 0 < l.length) (hl : l.length ≤ 1000000000) :
    Calls Tryd.prog 30 #[.string (str l)] w (RNumPost l w) := by
  have hs := str_size l
  have HD := hide hd
  have hget : (str l)[0]'(by rw [hs]; exact h0) = l[0] := rfl
  have HH := hide (show l.head? = some l[0] by rw [List.head?_eq_getElem?, List.getElem?_eq_getElem h0])
  clear hd
  have HNN := hide (show 1099511627776 < dval l → numB l = none from fun h => by
    unfold numB
    split
    · rfl
    · rw [if_neg (by omega)])
  have HOK := hide (show dval l ≤ 1099511627776 → numB l = if l.length == 1 || ((l[0].toNat : Int) != 48) then some (dval l) else none from fun h => by
    unfold numB
    rw [HH.out]
    by_cases h1 : l.length = 1
    · rw [if_neg (by omega), if_pos h, if_pos (by simp [h1])]
    · by_cases h2 : l[0].toNat = 48
      · have h3 : l[0] = 48 := UInt8.toNat_inj.1 h2
        rw [if_pos ⟨by omega, by rw [h3]⟩, if_neg]
        simp [h1, h2]
      · have h3 : ¬ l[0] = 48 := fun e => h2 (by rw [e]; rfl)
        rw [if_neg (by rintro ⟨_, e⟩; exact h3 (Option.some.inj e)), if_pos h, if_pos]
        simp
        right
        omega)
  clear HH
  generalize l[0] = c0 at *
  go_enter Tryd.func30, Tryd.ntmps30
  go_wp2_with fail
  go_loopw [4, 5] (fun n i wr => ∃ k : Nat, i = .int .i64 k ∧ k ≤ l.length ∧ n = .int .i64 (dval (l.take k) : Nat) ∧ dval (l.take k) ≤ 1099511627776 ∧ Hid (Below w.heap.size w wr)) (fun _ i _ => l.length - (intOf i).toNat)
  case atStart => exact ⟨0, rfl, Nat.zero_le _, by simp [dval], by simp [dval], hide (Below.refl _ _)⟩
  case round =>
    obtain ⟨k, rfl, hk, rfl, hv, hbw⟩ := hrel
    by_cases hlt : k < l.length
    · have hg : (str l)[k]'(by rw [hs]; exact hlt) = l[k] := rfl
      obtain ⟨r1, r2⟩ := isDg_range (HD.out k hlt)
      have HT := hide (dval_take hlt)
      have HLE := hide (dval_le l (k + 1))
      generalize l[k] = c at *
      generalize dval (l.take k) = v at *
      have hw : IntKind.u8.wrap ((c.toNat : Int) - 48) = (c.toNat : Int) - 48 := by rw [IntKind.wrap_u8']; omega
      have hc1 : (48 : Int) ≤ (c.toNat : Int) := by omega
      have hc2 : (c.toNat : Int) ≤ 57 := by omega
      have hv2 : (v : Int) ≤ 1099511627776 := by omega
      by_cases hb : 1099511627776 < 10 * v + (c.toNat - 48)
      · have hb2 : decide ((1099511627776 : Int) < 10 * (v : Int) + ((c.toNat : Int) - 48)) = true := by simp; omega
        have HN := hide (HNN.out (by have := HLE.out; rw [HT.out] at this; omega))
        clear hb
        go_wp2_with fail
        refine bodyPost_ret (v := .tuple #[.int .i64 0, .bool false]) (by simp [results, Tryd.results30, go_sem]) rfl ?_
        exact ⟨⟨0, by rw [HN.out]; rfl, fun n h => by rw [HN.out] at h; cases h⟩, hbw.out⟩
      · have hb2 : decide ((1099511627776 : Int) < 10 * (v : Int) + ((c.toNat : Int) - 48)) = false := by simp; omega
        have HB := hide hb
        clear hb
        go_wp2_with fail
        refine ⟨⟨k + 1, by go_num, by omega, by rw [HT.out]; go_num, by rw [HT.out]; have := HB.out; omega, hbw⟩, ?_⟩
        simp [intOf]; omega
    · have HE := hide (List.take_of_length_le (l := l) (i := k) (by omega))
      rw [HE.out] at hv
      rw [HE.out]
      have HN := hide (HOK.out hv)
      clear hk HE HOK HNN HD
      have hne : (l.length == 1) = ((l.length : Int) == 1) := by rw [Bool.eq_iff_iff]; simp only [beq_iff_eq]; omega
      rw [hne] at HN
      clear hne
      cases e1 : ((l.length : Int) == 1) with
      | true =>
        rw [e1, Bool.true_or, if_pos rfl] at HN
        go_wp2_with fail
        go_quiet (fail)
        go_wp2_with fail
        refine bodyPost_ret (v := .tuple #[.int .i64 (dval l : Nat), .bool true]) (by simp [results, Tryd.results30, go_sem]) rfl ?_
        exact ⟨⟨(dval l : Nat), by rw [HN.out]; rfl, fun n h => by rw [HN.out] at h; cases h; rfl⟩, hbw.out.trans (below_dn _ _ nq)⟩
      | false =>
        rw [e1, Bool.false_or] at HN
        cases e2 : ((c0.toNat : Int) != 48) with
        | true =>
          rw [e2, if_pos rfl] at HN
          go_wp2_with fail
          go_quiet (fail)
          go_wp2_with fail
          refine bodyPost_ret (v := .tuple #[.int .i64 (dval l : Nat), .bool true]) (by simp [results, Tryd.results30, go_sem]) rfl ?_
          exact ⟨⟨(dval l : Nat), by rw [HN.out]; rfl, fun n h => by rw [HN.out] at h; cases h; rfl⟩, hbw.out.trans (below_dn _ _ nq)⟩
        | false =>
          rw [e2, if_neg (by simp)] at HN
          go_wp2_with fail
          go_quiet (fail)
          go_wp2_with fail
          refine bodyPost_ret (v := .tuple #[.int .i64 (dval l : Nat), .bool false]) (by simp [results, Tryd.results30, go_sem]) rfl ?_
          exact ⟨⟨(dval l : Nat), by rw [HN.out]; rfl, fun n h => by rw [HN.out] at h; cases h⟩, hbw.out.trans (below_dn _ _ nq)⟩
end Go.Proofs.YtemapfhiiefieaaDoor
