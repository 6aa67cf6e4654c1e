/- The reference's Different. -/
import Derived.Test.YtcafjncilflanaaDif
namespace Go.Proofs.Ytcafjncilflanaa
open Go.RowKit

theorem rmod_same (n : Int) (w : World) : Calls Try.prog 11 #[.int .i64 n] w fun e w' => e = .returned (.int .i64 (md n)) ∧ w' = w := (rmod_any n w).mono (by rintro e w' ⟨rfl, rfl⟩; exact ⟨rfl, rfl⟩)
set_option maxRecDepth 20000 in
set_option maxHeartbeats 3200000 in
theorem rdifferent_any (A : Option Addr) (l : List Pt) (cap : Nat) (w : World) (hA : Pts w A l) (hl : l.length ≤ cap) (hc : cap ≤ 9223372036854775807) :
    Calls Try.prog 17 #[.slice A l.length cap] w fun e w' => e = .returned (.bool (difB (l.map (·.1)))) ∧ Below w.heap.size w w' := by
  have HA := hide hA
  have HY := hide (difB_yes (xs := l.map (·.1)))
  have HN := hide (fun i j => difB_no (xs := l.map (·.1)) (i := i) (j := j))
  have HLN := hide (show (l.map (·.1)).length = l.length from List.length_map _)
  have HG := hide (show ∀ i (h : i < l.length), (l.map (·.1))[i]'(by rw [HLN.out]; exact h) = l[i].1 from fun i h => by rw [List.getElem_map])
  clear hA
  generalize difB (l.map (·.1)) = r at *
  go_enter Try.func17, Try.ntmps17
  go_wp2_with fail
  go_loopw [3, 4] (fun i _ wr => ∃ k : Nat, k ≤ l.length ∧ i = .int .i64 k ∧ Hid (∀ i j (hi : i < (l.map (·.1)).length) (hj : j < (l.map (·.1)).length), i < k → j < i → md (l.map (·.1))[i] ≠ md (l.map (·.1))[j]) ∧ Hid (Below w.heap.size w wr)) (fun i _ _ => l.length - (intOf i).toNat)
  case atStart => exact ⟨0, Nat.zero_le _, rfl, hide (by intros; omega), hide (Below.refl _ _)⟩
  case round =>
    obtain ⟨k, hk, rfl, HD, HW⟩ := hrel
    by_cases hlt : k < l.length
    · have hlt' : (k : Int) < (l.length : Int) := by omega
      go_wp2_with fail
      go_loopw [4] (fun i wr => ∃ m : Nat, m ≤ k ∧ i = .int .i64 m ∧ Hid (∀ j (hj : j < (l.map (·.1)).length), j < m → md ((l.map (·.1))[k]'(by rw [HLN.out]; exact hlt)) ≠ md (l.map (·.1))[j]) ∧ Hid (Below w.heap.size w wr)) (fun i _ => k - (intOf i).toNat)
      case atStart => exact ⟨0, Nat.zero_le _, rfl, hide (by intros; omega), HW⟩
      case round =>
        obtain ⟨m, hm, rfl, HDM, HWM⟩ := hrel
        by_cases hmk : m < k
        · obtain ⟨b, o, rfl, c0, _⟩ := (HA.out.below HWM.out).at hlt
          obtain ⟨b', o', he, c2, _⟩ := (HA.out.below HWM.out).at (show m < l.length by omega)
          cases he
          have hmk' : (m : Int) < (k : Int) := by omega
          have hml' : (m : Int) < (l.length : Int) := by omega
          have HXK := hide (HG.out k hlt)
          have HXM := hide (HG.out m (by omega))
          generalize l[k] = pk at *
          generalize l[m] = pm at *
          obtain ⟨X, Y⟩ := pk
          obtain ⟨X2, Y2⟩ := pm
          simp only at HXK HXM c0 c2
          by_cases hh : md X = md X2
          · obtain rfl := HN.out k m (by rw [HLN.out]; omega) (by rw [HLN.out]; omega) (by omega) (by rw [HXK.out, HXM.out, hh])
            have hb : ((md X : Int) == md X2) = true := by simpa using hh
            go_wp2_with fail
            go_quiet ((go_at_call 11; exact Calls.quiet_of_same (rmod_same _ _)))
            go_wp2_with fail
            go_ret
            exact ⟨rfl, below_drewN HWM.out _⟩
          · have hb : ((md X : Int) == md X2) = false := by simpa using hh
            have HD2 := hide (show ∀ j (hj : j < (l.map (·.1)).length), j < m + 1 → md ((l.map (·.1))[k]'(by rw [HLN.out]; exact hlt)) ≠ md (l.map (·.1))[j] from fun j hj h => by
              by_cases e : j = m
              · subst e
                rw [HXK.out, HXM.out]
                exact hh
              · exact HDM.out j hj (by omega))
            go_wp2_with fail
            go_quiet ((go_at_call 11; exact Calls.quiet_of_same (rmod_same _ _)))
            go_wp2_with fail
            go_roundw
            case rel => exact ⟨m + 1, by omega, by go_num, HD2, hide (below_drewN HWM.out _)⟩
            case measure => simp [intOf]; omega
        · obtain rfl : m = k := by omega
          have hmk' : ¬ (m : Int) < (m : Int) := by omega
          have HD2 := hide (show ∀ i j (hi : i < (l.map (·.1)).length) (hj : j < (l.map (·.1)).length), i < m + 1 → j < i → md (l.map (·.1))[i] ≠ md (l.map (·.1))[j] from fun i j hi hj h1 h2 => by
            by_cases e : i = m
            · subst e
              exact HDM.out j hj h2
            · exact HD.out i j hi hj (by omega) h2)
          go_wp2_with fail
          go_roundw
          case rel => exact ⟨m + 1, by omega, by go_num, HD2, HWM⟩
          case measure => simp [intOf]; omega
    · obtain rfl : k = l.length := by omega
      obtain rfl := HY.out (fun i j hi hj h => HD.out i j hi hj (by rw [← HLN.out]; exact hi) h)
      go_wp2_with fail
      go_ret
      exact ⟨rfl, HW.out⟩
end Go.Proofs.Ytcafjncilflanaa
