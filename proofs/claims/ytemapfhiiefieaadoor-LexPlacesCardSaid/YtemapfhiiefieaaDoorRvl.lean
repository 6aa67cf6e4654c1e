/- Valid of the reference. -/
import Derived.Test.YtemapfhiiefieaaDoorVal
import Derived.Test.YtemapfhiiefieaaDoorRsg
namespace Go.Proofs.YtemapfhiiefieaaDoor
open Go.RowKit

set_option maxRecDepth 10000 in
set_option maxHeartbeats 1600000 in
theorem rvalid_any (t : Tok) (w : World) (hl : t.text.data.toList.length ≤ 1000000000) : Calls Tryd.prog 35 #[t.val] w fun e w' => e = .returned (.bool (validT t)) ∧ Below w.heap.size w w' := by
  obtain ⟨k, s, n, p⟩ := t
  simp only at hl
  have HB := hide (below_new w (.cells #[.int .i64 k, .string s, .int .i64 n, .int .i64 p] 35))
  have HD := hide (show validT ⟨k, s, n, p⟩ = (if k = 1 then n == 0 && nameB s.data.toList else if k = 2 then decide (s.toList = []) && (decide (0 ≤ n) && decide (n ≤ 1099511627776)) else if k = 3 then n == 0 && signB s.data.toList else false) from rfl)
  by_cases k1 : k = 1
  · subst k1
    rw [if_pos rfl] at HD
    have HNA := hide (rname_any s.data.toList (w.alloc (.cells #[.int .i64 1, .string s, .int .i64 n, .int .i64 p] 35)) hl)
    rw [str_data] at HNA
    go_enter Tryd.func35, Tryd.ntmps35
    go_wp2_with fail
    refine HNA.out.mono ?_
    rintro e w' ⟨rfl, rfl⟩
    cases h3 : nameB s.data.toList with
    | true =>
      go_wp2_with fail
      go_ret
      exact ⟨by rw [HD.out, h3, Bool.and_true]; rfl, HB.out⟩
    | false =>
      go_wp2_with fail
      go_ret
      exact ⟨by rw [HD.out, h3, Bool.and_false]; rfl, HB.out⟩
  · rw [if_neg k1] at HD
    have e1 : (k == 1) = false := by simpa using k1
    by_cases k2 : k = 2
    · subst k2
      rw [if_pos rfl] at HD
      by_cases h2 : s.toList = []
      · have e2 : decide (s.toList = []) = true := by simp [h2]
        by_cases h4 : 0 ≤ n
        · have e4 : decide (0 ≤ n) = true := by simp [h4]
          go_enter Tryd.func35, Tryd.ntmps35
          go_wp2_with fail
          go_ret
          exact ⟨by rw [HD.out, e2, e4]; rfl, HB.out⟩
        · have e4 : decide (0 ≤ n) = false := by simp [h4]
          go_enter Tryd.func35, Tryd.ntmps35
          go_wp2_with fail
          go_ret
          exact ⟨by rw [HD.out, e2, e4]; rfl, HB.out⟩
      · have e2 : decide (s.toList = []) = false := by simp [h2]
        have e3 : s.toList.isEmpty = false := by simp [h2]
        go_enter Tryd.func35, Tryd.ntmps35
        go_wp2_with fail
        go_ret
        exact ⟨by rw [HD.out, e2]; rfl, HB.out⟩
    · rw [if_neg k2] at HD
      have e2 : (k == 2) = false := by simpa using k2
      by_cases k3 : k = 3
      · subst k3
        rw [if_pos rfl] at HD
        cases h2 : n == 0 with
        | true =>
          obtain rfl : n = 0 := by simpa using h2
          have hsz : s.size = s.data.toList.length := by rw [Array.length_toList]; rfl
          by_cases h3 : s.size = 1
          · have d3 : ((s.size : Int) == 1) = true := by simp [h3]
            obtain ⟨c, hc⟩ : ∃ c, s.data.toList = [c] := by
              cases hd : s.data.toList with
              | nil => rw [hd] at hsz; simp only [List.length_nil] at hsz; omega
              | cons c r =>
                cases r with
                | nil => exact ⟨c, rfl⟩
                | cons c' r => rw [hd] at hsz; simp only [List.length_cons] at hsz; omega
            have HSG := hide (rsign_any c (w.alloc (.cells #[.int .i64 3, .string s, .int .i64 0, .int .i64 p] 35)))
            have hget : s[0]'(by omega) = c := by
              have : s = str [c] := by rw [← hc, str_data]
              subst this
              rfl
            rw [hc] at HD
            go_enter Tryd.func35, Tryd.ntmps35
            go_wp2_with fail
            refine HSG.out.mono ?_
            rintro e w' ⟨rfl, rfl⟩
            have HS5 := hide (show ((0 : Int) == 0 && signB [c]) = isSg c from rfl)
            cases h5 : isSg c with
            | true =>
              go_wp2_with fail
              go_ret
              exact ⟨by rw [HD.out, HS5.out, h5]; rfl, HB.out⟩
            | false =>
              go_wp2_with fail
              go_ret
              exact ⟨by rw [HD.out, HS5.out, h5]; rfl, HB.out⟩
          · have d3 : ((s.size : Int) == 1) = false := by simp; omega
            have HF := hide (show signB s.data.toList = false by
              cases hd : s.data.toList with
              | nil => rfl
              | cons c r =>
                cases r with
                | nil => rw [hd] at hsz; simp only [List.length_cons, List.length_nil] at hsz; omega
                | cons c' r => rfl)
            clear hsz
            go_enter Tryd.func35, Tryd.ntmps35
            go_wp2_with fail
            go_ret
            exact ⟨by rw [HD.out, HF.out]; rfl, HB.out⟩
        | false =>
          have hsz : s.size = s.data.toList.length := by rw [Array.length_toList]; rfl
          by_cases h3 : s.size = 1
          · have d3 : ((s.size : Int) == 1) = true := by simp [h3]
            obtain ⟨c, hc⟩ : ∃ c, s.data.toList = [c] := by
              cases hd : s.data.toList with
              | nil => rw [hd] at hsz; simp only [List.length_nil] at hsz; omega
              | cons c r =>
                cases r with
                | nil => exact ⟨c, rfl⟩
                | cons c' r => rw [hd] at hsz; simp only [List.length_cons] at hsz; omega
            have HSG := hide (rsign_any c (w.alloc (.cells #[.int .i64 3, .string s, .int .i64 n, .int .i64 p] 35)))
            have hget : s[0]'(by omega) = c := by
              have : s = str [c] := by rw [← hc, str_data]
              subst this
              rfl
            rw [hc] at HD
            go_enter Tryd.func35, Tryd.ntmps35
            go_wp2_with fail
            refine HSG.out.mono ?_
            rintro e w' ⟨rfl, rfl⟩
            cases h5 : isSg c with
            | true =>
              go_wp2_with fail
              go_ret
              exact ⟨by rw [HD.out, h2]; rfl, HB.out⟩
            | false =>
              go_wp2_with fail
              go_ret
              exact ⟨by rw [HD.out, h2]; rfl, HB.out⟩
          · have d3 : ((s.size : Int) == 1) = false := by simp; omega
            have HF := hide (show signB s.data.toList = false by
              cases hd : s.data.toList with
              | nil => rfl
              | cons c r =>
                cases r with
                | nil => rw [hd] at hsz; simp only [List.length_cons, List.length_nil] at hsz; omega
                | cons c' r => rfl)
            clear hsz
            go_enter Tryd.func35, Tryd.ntmps35
            go_wp2_with fail
            go_ret
            exact ⟨by rw [HD.out, HF.out, Bool.and_false]; rfl, HB.out⟩
      · rw [if_neg k3] at HD
        have e3 : (k == 3) = false := by simpa using k3
        go_enter Tryd.func35, Tryd.ntmps35
        go_wp2_with fail
        go_ret
        exact ⟨by rw [HD.out]; rfl, HB.out⟩
end Go.Proofs.YtemapfhiiefieaaDoor
