/- bytes.Equal, EqualFunc. -/
import Derived.Test.YtgigccgklahddaaOpe
import Derived.Test.YtgigccgklahddaaSam
namespace Go.Proofs.Ytgigccgklahddaa
open Go.RowKit
variable {n0 : Nat}

theorem str_toList (l : List UInt8) : (str l).toList = l := by simp [ByteArray.toList_eq]
set_option maxRecDepth 10000 in
set_option maxHeartbeats 1600000 in
theorem equal_any (s t : Sec) (w : World) (hs : s.In n0 w) (ht : t.In n0 w) :
    Calls Try.prog 44 #[s.v, t.v] w fun e w' => e = .returned (.bool (decide (s.l = t.l))) ∧ w' = w := by
  have hv0 := hs.conv
  have hv1 := ht.conv
  have he : ((str s.l).toList == (str t.l).toList) = decide (s.l = t.l) := by
    rw [str_toList, str_toList]
    by_cases h : s.l = t.l
    · rw [h]; simp
    · rw [decide_eq_false h, beq_eq_false_iff_ne]
      exact h
  clear hs ht
  generalize decide (s.l = t.l) = v at he ⊢
  generalize str s.l = x at *
  generalize str t.l = y at *
  go_enter Try.func44, Try.ntmps44
  go_wp2_with fail
  go_ret
  exact ⟨rfl, rfl⟩

set_option maxRecDepth 10000 in
set_option maxHeartbeats 1600000 in
/-- EqualFunc of two lists of records, with bytes.Equal. -/
theorem equalFunc_any (A : Option Addr) (l : List Sec) (c : Nat) (B : Option Addr) (m : List Sec) (d : Nat) (w : World) (hi : SecsIn n0 A l c w) (hj : SecsIn n0 B m d w) (hlen : l.length ≤ 1000000) :
    Calls Try.prog 42 #[.slice A l.length c, .slice B m.length d, .func (.func 44) #[] #[]] w fun e w' => e = .returned (.bool (decide (secD l = secD m))) ∧ Below w.heap.size w w' := by
  have HI := hide hi
  have HJ := hide hj
  clear hi hj
  by_cases hl : l.length = m.length
  · have HE := hide hl
    have hl' : ((l.length : Int) != m.length) = false := by simp [hl]
    clear hl
    go_enter Try.func42, Try.ntmps42
    go_wp2_with fail
    go_loopw [17] (fun i wr => ∃ k : Nat, k ≤ l.length ∧ i = .int .i64 k ∧ Hid (Below w.heap.size w wr) ∧ Hid (∀ j, j < k → (secD l)[j]? = (secD m)[j]?)) (fun i _ => l.length - (intOf i).toNat)
    case atStart => exact ⟨0, Nat.zero_le _, rfl, hide (Below.refl _ _), hide (fun j h => absurd h (by omega))⟩
    case round =>
      obtain ⟨k, hk, rfl, hb, hq⟩ := hrel
      by_cases hlt : k < l.length
      · have hlt' : k < m.length := by have := HE.out; omega
        have hi0 : (k : Int) < l.length := by omega
        have hi1 : (k : Int) < m.length := by omega
        obtain ⟨b, o, hsa, _, c0⟩ := (HI.out.below hb.out).at hlt
        obtain ⟨b', o', hsa', _, c1⟩ := (HJ.out.below hb.out).at hlt'
        have HQ := hide (equal_any (l[k]) (m[k]) wr ((HI.out.below hb.out).each _ (List.getElem_mem hlt)) ((HJ.out.below hb.out).each _ (List.getElem_mem hlt')))
        by_cases he : (l[k]).l = (m[k]).l
        · rw [decide_eq_true he] at HQ
          have HX := hide (show (secD l)[k]? = (secD m)[k]? by
            rw [List.getElem?_eq_getElem (by rw [secD_len]; exact hlt), List.getElem?_eq_getElem (by rw [secD_len]; exact hlt'), secD_get, secD_get, he])
          clear he
          subst hsa
          subst hsa'
          generalize l[k] = s at *
          generalize m[k] = t at *
          go_wp2_with fail
          refine HQ.out.mono ?_
          rintro e w1 ⟨rfl, rfl⟩
          go_wp2_with fail
          go_roundw
          case rel => exact ⟨k + 1, by omega, by go_num, hb, hide (fun j h => by
            rcases Nat.lt_succ_iff_lt_or_eq.1 h with h | rfl
            · exact hq.out j h
            · exact HX.out)⟩
          case measure => simp [intOf]; omega
        · rw [decide_eq_false he] at HQ
          have HX := hide (show decide (secD l = secD m) = false from decide_eq_false fun e => he (by
            have : (secD l)[k]? = (secD m)[k]? := by rw [e]
            rw [List.getElem?_eq_getElem (by rw [secD_len]; exact hlt), List.getElem?_eq_getElem (by rw [secD_len]; exact hlt'), secD_get, secD_get] at this
            exact Option.some.inj this))
          clear he
          subst hsa
          subst hsa'
          generalize l[k] = s at *
          generalize m[k] = t at *
          go_wp2_with fail
          refine HQ.out.mono ?_
          rintro e w1 ⟨rfl, rfl⟩
          go_wp2_with fail
          go_ret
          exact ⟨by rw [HX.out]; rfl, hb.out⟩
      · obtain rfl : k = l.length := by omega
        have HX := hide (show decide (secD l = secD m) = true from decide_eq_true (List.ext_getElem? fun j => by
          by_cases hj : j < l.length
          · exact hq.out j hj
          · rw [List.getElem?_eq_none (by rw [secD_len]; omega), List.getElem?_eq_none (by rw [secD_len, ← HE.out]; omega)]))
        go_wp2_with fail
        go_ret
        exact ⟨by rw [HX.out]; rfl, hb.out⟩
  · have HX := hide (show decide (secD l = secD m) = false from decide_eq_false fun e => hl (by have := congrArg List.length e; rwa [secD_len, secD_len] at this))
    have hl' : ((l.length : Int) != m.length) = true := by simpa using (fun h : (l.length : Int) = m.length => hl (by omega))
    go_enter Try.func42, Try.ntmps42
    go_wp2_with fail
    go_ret
    exact ⟨by rw [HX.out]; rfl, Below.refl _ _⟩
end Go.Proofs.Ytgigccgklahddaa
