/- Name. -/
import Derived.Test.YtemapfhiiefieaaDoorBeg
namespace Go.Proofs.YtemapfhiiefieaaDoor
open Go.RowKit

/-- Is it a name? -/
def nameB (l : List UInt8) : Bool := if h : 0 < l.length then decide (l.length ≤ 32) && isLt l[0] && ((l.takeWhile isNm).length == l.length) else false

theorem str_nil : str [] = ⟨#[]⟩ := rfl
set_option maxRecDepth 10000 in
set_option maxHeartbeats 800000 in
theorem name_any (l : List UInt8) (w : World) (hT : Tab w) (hl : l.length ≤ 1000000000) :
    Calls Tryd.prog 20 #[.string (str l)] w fun e w' => e = .returned (.bool (nameB l)) ∧ w = w' := by
  have HT := hide hT
  clear hT
  by_cases h0 : 0 < l.length
  · have hs := str_size l
    have hem : l.isEmpty = false := by cases l with | nil => simp at h0 | cons c r => rfl
    have hne : ¬ l = [] := by intro e; rw [e] at h0; simp at h0
    have hget : (str l)[0]'(by rw [hs]; exact h0) = l[0] := rfl
    have HB := hide (beg_name l w HT.out hl)
    have HL := hide (isLetter_any l[0] w HT.out)
    have HDEF := hide (show nameB l = (decide (l.length ≤ 32) && isLt l[0] && ((l.takeWhile isNm).length == l.length)) by unfold nameB; rw [dif_pos h0])
    generalize nameB l = NB at *
    generalize l[0] = c at *
    have hts := str_size (l.takeWhile isNm)
    have HTL := hide (show (((l.takeWhile isNm).length : Int) == (l.length : Int)) = ((l.takeWhile isNm).length == l.length) by
      rw [Bool.eq_iff_iff]
      simp only [beq_iff_eq]
      omega)
    generalize l.takeWhile isNm = T at *
    by_cases h32 : l.length ≤ 32
    · have h32d : decide ((l.length : Int) ≤ 32) = true := by simp; omega
      have HA := hide (show decide (l.length ≤ 32) = true by simp [h32])
      clear h32
      cases hc : isLt c with
      | true =>
        go_enter Tryd.func20, Tryd.ntmps20
        go_wp2_with fail
        refine HL.out.mono ?_
        rintro e w' ⟨rfl, rfl⟩
        go_wp2_with fail
        refine HB.out.mono ?_
        rintro e w' ⟨rfl, rfl⟩
        go_wp2_with fail
        go_ret
        rw [HDEF.out, HA.out, hc, ← HTL.out]
        exact ⟨by simp, rfl⟩
      | false =>
        go_enter Tryd.func20, Tryd.ntmps20
        go_wp2_with fail
        refine HL.out.mono ?_
        rintro e w' ⟨rfl, rfl⟩
        go_wp2_with fail
        go_ret
        rw [HDEF.out, HA.out, hc]
        exact ⟨by simp, rfl⟩
    · have h32d : decide ((l.length : Int) ≤ 32) = false := by simp; omega
      have HA := hide (show decide (l.length ≤ 32) = false by simp; omega)
      clear h32
      go_enter Tryd.func20, Tryd.ntmps20
      go_wp2_with fail
      go_ret
      rw [HDEF.out, HA.out]
      exact ⟨by simp, rfl⟩
  · obtain rfl : l = [] := List.length_eq_zero_iff.1 (by omega)
    rw [str_nil]
    go_enter Tryd.func20, Tryd.ntmps20
    go_wp2_with fail
    go_ret
    exact ⟨by simp [nameB], rfl⟩
end Go.Proofs.YtemapfhiiefieaaDoor
