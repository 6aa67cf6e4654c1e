/- Name of the reference. -/
import Derived.Test.YtemapfhiiefieaaDoorRfg
namespace Go.Proofs.YtemapfhiiefieaaDoor
open Go.RowKit

set_option maxRecDepth 10000 in
set_option maxHeartbeats 800000 in
theorem rname_any (l : List UInt8) (w : World) (hl : l.length ≤ 1000000000) :
    Calls Tryd.prog 21 #[.string (str l)] w fun e w' => e = .returned (.bool (nameB l)) ∧ w = w' := by
  have hs : (str l).size = l.length := str_size l
  by_cases h1 : 1 ≤ l.length
  · have d1 : decide ((l.length : Int) < 1) = false := by simp; omega
    by_cases h2 : l.length ≤ 32
    · have d2 : decide ((32 : Int) < (l.length : Int)) = false := by simp; omega
      have HL := hide (fun W => rletter_any l[0] W)
      have hget : (str l)[0]'(by rw [hs]; exact h1) = l[0] := rfl
      generalize hc : l[0] = c at *
      have HK := hide hc
      clear hc
      cases hp : isLt c with
      | true =>
        have HB := hide (show nameB l = ((l.takeWhile isNm).length == l.length) by
          unfold nameB
          rw [dif_pos (show 0 < l.length from h1), HK.out, hp]
          simp [h2])
        go_enter Tryd.func21, Tryd.ntmps21
        go_wp2_with fail
        refine (HL.out _).mono ?_
        rintro e w' ⟨rfl, rfl⟩
        go_wp2_with fail
        clear HK hget h1 h2
        go_loop [3] (fun i => ∃ k : Nat, i = .int .i64 k ∧ k ≤ l.length ∧ Hid (∀ j (h : j < l.length), j < k → isNm l[j] = true)) (fun i => l.length - (intOf i).toNat)
        case atStart => exact ⟨0, rfl, Nat.zero_le _, hide (fun j _ h => by omega)⟩
        case round =>
          obtain ⟨k, rfl, hk, HA⟩ := hrel
          by_cases hlt : k < l.length
          · have HC := hide (rpart_any (l[k]) w)
            have hget : (str l)[k]'(by rw [hs]; exact hlt) = l[k] := rfl
            generalize hc : l[k] = c' at *
            have HK2 := hide hc
            clear hc
            cases hp : isNm c' with
            | true =>
              go_wp2_with fail
              refine HC.out.mono ?_
              rintro e w' ⟨rfl, rfl⟩
              go_wp2_with fail
              go_round
              case rel => exact ⟨k + 1, by go_num, by omega, hide (fun j h hj => by
                by_cases e : j < k
                · exact HA.out j h e
                · obtain rfl : j = k := by omega
                  rw [HK2.out, hp])⟩
              case measure => simp [intOf]; omega
            | false =>
              have HF := hide (show nameB l = false by
                rw [HB.out, takeWhile_take l k (by omega) HA.out (fun h => by rw [HK2.out, hp])]
                simp; omega)
              go_wp2_with fail
              refine HC.out.mono ?_
              rintro e w' ⟨rfl, rfl⟩
              go_wp2_with fail
              go_ret
              exact ⟨by rw [HF.out]; rfl, rfl⟩
          · have HF := hide (show nameB l = true by
              rw [HB.out, takeWhile_take l k hk HA.out (fun h => absurd h hlt)]
              simp; omega)
            go_wp2_with fail
            go_ret
            exact ⟨by rw [HF.out]; rfl, rfl⟩
      | false =>
        have HB := hide (show nameB l = false by
          unfold nameB
          rw [dif_pos (show 0 < l.length from h1), HK.out, hp]
          simp)
        go_enter Tryd.func21, Tryd.ntmps21
        go_wp2_with fail
        refine (HL.out _).mono ?_
        rintro e w' ⟨rfl, rfl⟩
        go_wp2_with fail
        go_ret
        exact ⟨by rw [HB.out]; rfl, rfl⟩
    · have d2 : decide ((32 : Int) < (l.length : Int)) = true := by simp; omega
      have HB := hide (show nameB l = false by
        unfold nameB
        rw [dif_pos (show 0 < l.length from h1)]
        simp [h2])
      go_enter Tryd.func21, Tryd.ntmps21
      go_wp2_with fail
      go_ret
      exact ⟨by rw [HB.out]; rfl, rfl⟩
  · have d1 : decide ((l.length : Int) < 1) = true := by simp; omega
    have HB := hide (show nameB l = false by
      unfold nameB
      rw [dif_neg (show ¬ 0 < l.length from h1)])
    go_enter Tryd.func21, Tryd.ntmps21
    go_wp2_with fail
    go_ret
    exact ⟨by rw [HB.out]; rfl, rfl⟩
end Go.Proofs.YtemapfhiiefieaaDoor
