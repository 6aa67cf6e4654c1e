/- SameRecords and Same of the reference. -/
import Derived.Test.YtgigccgklahddaaOcc
import Derived.Test.YtgigccgklahddaaSam
namespace Go.Proofs.Ytgigccgklahddaa
open Go.RowKit
variable {n0 : Nat}

theorem str_list (l : List UInt8) : (str l).toList = l := by simp [ByteArray.toList_eq]
theorem str_ne (a b : List UInt8) : ((str a).toList == (str b).toList) = (decide (a = b)) := by
  rw [str_list, str_list]
  by_cases h : a = b
  · subst h
    rw [decide_eq_true rfl, beq_self_eq_true]
  · rw [decide_eq_false h]
    exact beq_eq_false_iff_ne.2 h
set_option maxRecDepth 10000 in
set_option maxHeartbeats 3200000 in
theorem srec_any {n1 : Nat} (A : Option Addr) (l : List Sec) (ca : Nat) (B : Option Addr) (m : List Sec) (cb : Nat) (w : World) (ha : SecsIn n0 A l ca w) (hb : SecsIn n1 B m cb w) :
    Calls Try.prog 25 #[.slice A l.length ca, .slice B m.length cb] w fun e w' => e = .returned (.bool (decide (secD l = secD m))) ∧ ∃ n, w' = w.drewN n := by
  have HA := hide ha
  have HB := hide hb
  have hlen : l.length ≤ 9223372036854775807 := Nat.le_trans ha.le ha.top
  clear ha hb
  by_cases hl : l.length = m.length
  · have hn : ((l.length : Int) != m.length) = false := by simp [hl]
    have HL := hide hl
    go_enter Try.func25, Try.ntmps25
    go_wp2_with fail
    go_loopw [5] (fun i wr => ∃ (k n : Nat), k ≤ l.length ∧ i = .int .i64 k ∧ Hid ((secD l).take k = (secD m).take k) ∧ Hid (wr = w.drewN n)) (fun i _ => l.length - (intOf i).toNat)
    case atStart => exact ⟨0, 0, Nat.zero_le _, rfl, hide rfl, hide rfl⟩
    case round =>
      obtain ⟨k, n, hk, rfl, HE, HW⟩ := hrel
      have HBW := hide (show Below w.heap.size w wr by rw [HW.out]; exact below_dn _ w n)
      have HDW := hide (fun x => show wr.drewN x = w.drewN (n + x) by rw [HW.out, World.drewN_drewN])
      by_cases hlt : k < l.length
      · have hlt' : k < m.length := by omega
        have hi1 : (k : Int) < m.length := by omega
        obtain ⟨b, o, hsa, _, c0⟩ := (HA.out.below HBW.out).at hlt
        obtain ⟨b', o', hsa', _, c1⟩ := (HB.out.below HBW.out).at hlt'
        subst hsa hsa'
        have hv0 := fun x => (((HA.out.each _ (List.getElem_mem hlt)).below HBW.out).below (below_dn _ wr x)).conv
        have hv1 := fun x => (((HB.out.each _ (List.getElem_mem hlt')).below HBW.out).below (below_dn _ wr x)).conv
        have hne := str_ne (l[k]).l (m[k]).l
        by_cases he : (l[k]).l = (m[k]).l
        · have HE2 : Hid ((secD l).take (k + 1) = (secD m).take (k + 1)) := hide (by
            rw [List.take_succ_eq_append_getElem (by rw [secD_len]; exact hlt), List.take_succ_eq_append_getElem (by rw [secD_len]; exact hlt'), HE.out, secD_get, secD_get, he])
          rw [decide_eq_true he] at hne
          clear he HL HE
          generalize str (l[k]).l = t at hv0 hne
          generalize str (m[k]).l = t' at hv1 hne
          generalize l[k] = s at *
          generalize m[k] = s' at *
          go_wp2_with fail
          go_quiet (fail)
          go_wp2_with fail
          go_roundw
          case rel => exact ⟨k + 1, _, by omega, by go_num, HE2, hide (HDW.out _)⟩
          case measure => simp [intOf]; omega
        · have HN : Hid (decide (secD l = secD m) = false) := hide (decide_eq_false fun h => he (by
            have e : (secD l)[k]? = (secD m)[k]? := by rw [h]
            rw [List.getElem?_eq_getElem (by rw [secD_len]; exact hlt), List.getElem?_eq_getElem (by rw [secD_len]; exact hlt'), secD_get, secD_get] at e
            exact Option.some.inj e))
          rw [decide_eq_false he] at hne
          clear he HL HE
          generalize str (l[k]).l = t at hv0 hne
          generalize str (m[k]).l = t' at hv1 hne
          generalize l[k] = s at *
          generalize m[k] = s' at *
          go_wp2_with fail
          go_quiet (fail)
          go_wp2_with fail
          go_ret
          exact ⟨by rw [HN.out]; rfl, _, HDW.out _⟩
      · obtain rfl : k = l.length := by omega
        have HN : Hid (decide (secD l = secD m) = true) := hide (decide_eq_true (by
          have := HE.out
          rw [List.take_of_length_le (by rw [secD_len]; exact Nat.le_refl _), List.take_of_length_le (by rw [secD_len, HL.out]; exact Nat.le_refl _)] at this
          exact this))
        have hge : ¬ ((l.length : Int) < l.length) := by omega
        clear hlt HL HE
        go_wp2_with fail
        go_ret
        exact ⟨by rw [HN.out]; rfl, _, HW.out⟩
  · have hn : ((l.length : Int) != m.length) = true := by simp; omega
    have HN : Hid (decide (secD l = secD m) = false) := hide (decide_eq_false fun h => hl (by
      have := congrArg List.length h
      rw [secD_len, secD_len] at this
      exact this))
    rw [HN.out]
    clear hl HN
    go_enter Try.func25, Try.ntmps25
    go_wp2_with fail
    go_ret
    exact ⟨rfl, 0, rfl⟩
end Go.Proofs.Ytgigccgklahddaa
