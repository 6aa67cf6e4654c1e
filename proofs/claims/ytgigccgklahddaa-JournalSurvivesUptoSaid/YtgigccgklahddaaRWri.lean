
/- Write of the reference. -/
import Derived.Test.YtgigccgklahddaaApp
import Derived.Test.YtgigccgklahddaaWri2
namespace Go.Proofs.Ytgigccgklahddaa
open Go.RowKit
variable {n0 : Nat}

/-- A length. -/
def lenV : Value → Nat
  | .slice _ n _ => n
  | _ => 0
theorem padS_of (l : List UInt8) (k : Nat) (h : l.length + k = 128) : l ++ List.replicate k 0 = padS l := by
  unfold padS
  rw [List.take_append, List.take_replicate, List.take_of_length_le (by omega)]
  congr 2
  omega

set_option maxRecDepth 10000 in
set_option maxHeartbeats 3200000 in
theorem rwrite_bad (d : Dsk) (i : Int) (b : Sec) (w : World) (hi : d.In n0 w) (hx : (d.d.runs && d.d.has i) = false) :
    Calls Try.prog 47 #[d.v, .int .i64 i, b.v] w (Ans n0 w (d.d.write i b.l)) := by
  have HI := hide hi
  have HT := hide (two_below d w)
  have HB := hide (two_boxes d w)
  have HX := hide (show d.d.write i b.l = (Dk.zero, 40) by simp [Dk.write, hx])
  clear hi
  cases hv : d.d.valid with
  | false =>
    have HC := hide (rcheck_no (two d w) hv (HI.out.below HT.out))
    clear hv hx
    go_enter Try.func47, Try.ntmps47
    go_wp2_with fail
    refine HC.out.mono ?_
    rintro e w1 ⟨rfl, hb⟩
    have HK := hide (show Below w.heap.size w w1 from HT.out.trans (hb.mono HT.out.size))
    have HR := hide (HB.out.2.below hb HB.out.2.lt)
    clear hb
    go_wp2_with (refine wpList_store_row rfl 25 (.tmp 6) (.tmp 27) rfl (w.heap.size + 1) #[.slice none 0 0, .slice none 0 0, .int .i64 0, .bool false] rfl rfl 25 _ HR.out Try.size25 rfl (one25 _ _ _ _ _ _ _ _) ?_)
    exact bodyPost_ret (v := .tuple #[Dsk.zero.v, .int .i64 40]) (results_cell_row_tmp rfl _ _ (w.heap.size + 1) 25 #[.slice none 0 0, .slice none 0 0, .int .i64 0, .bool false] (0, 0) _ (.int .i64 40) rfl rfl (setRow_heap _ _ _ _ _ _ HR.out) Try.underlying25 rfl Try.size25) rfl (Ans.zero HX.out (below_setRow HK.out (by omega) _))
  | true =>
    have HC := hide (rcheck_ok (two d w) hv (HI.out.below HT.out))
    have hc : ∃ s : Bool, Hid (d.stp = s) ∧ (s = true ∨ (s = false ∧ i < 0) ∨ (s = false ∧ 0 ≤ i ∧ decide ((d.ss.length : Int) ≤ i) = true)) := by
      refine ⟨d.stp, hide rfl, ?_⟩
      simp only [Dk.runs, hv, Bool.and_true, has_eq, hasB, Bool.and_eq_false_iff, Bool.not_eq_false', decide_eq_false_iff_not] at hx
      have h2 : d.d.stp = d.stp := rfl
      rw [h2] at hx
      cases hs : d.stp
      · rw [hs] at hx
        simp at hx ⊢
        omega
      · exact .inl rfl
    clear hv hx
    rcases hc with ⟨s, HS, rfl | ⟨rfl, hc⟩ | ⟨rfl, h0, hc⟩⟩
    all_goals
      go_enter Try.func47, Try.ntmps47
      go_wp2_with fail
      refine HC.out.mono ?_
      rintro e w1 ⟨rfl, hb⟩
      have HK := hide (show Below w.heap.size w w1 from HT.out.trans (hb.mono HT.out.size))
      have HR := hide (HB.out.2.below hb HB.out.2.lt)
      obtain ⟨c0, c1, c2, c3⟩ := (HB.out.1.below hb HB.out.1.lt).c4
      rw [HS.out] at c3
      clear hb
      go_wp2_with (refine wpList_store_row rfl 25 (.tmp 6) (.tmp 27) rfl (w.heap.size + 1) #[.slice none 0 0, .slice none 0 0, .int .i64 0, .bool false] rfl rfl 25 _ HR.out Try.size25 rfl (one25 _ _ _ _ _ _ _ _) ?_)
      exact bodyPost_ret (v := .tuple #[Dsk.zero.v, .int .i64 40]) (results_cell_row_tmp rfl _ _ (w.heap.size + 1) 25 #[.slice none 0 0, .slice none 0 0, .int .i64 0, .bool false] (0, 0) _ (.int .i64 40) rfl rfl (setRow_heap _ _ _ _ _ _ HR.out) Try.underlying25 rfl Try.size25) rfl (Ans.zero HX.out (below_setRow HK.out (by omega) _))
end Go.Proofs.Ytgigccgklahddaa
