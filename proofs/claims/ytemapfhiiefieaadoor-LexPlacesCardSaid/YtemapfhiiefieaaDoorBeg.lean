/- The bytes at the beginning that belong. -/
import Derived.Test.YtemapfhiiefieaaDoorCls
namespace Go.Proofs.YtemapfhiiefieaaDoor
open Go.RowKit

/-- A string of bytes. -/
abbrev str (l : List UInt8) : ByteArray := ⟨l.toArray⟩
theorem str_size (l : List UInt8) : (str l).size = l.length := by simp [ByteArray.size]
theorem takeWhile_take {p : UInt8 → Bool} : ∀ (l : List UInt8) (k : Nat), k ≤ l.length → (∀ j (h : j < l.length), j < k → p l[j] = true) → (∀ h : k < l.length, p l[k] = false) → l.takeWhile p = l.take k
  | [], k, _, _, _ => by simp
  | c :: l, 0, _, _, h2 => by
    have := h2 (by simp)
    simp at this
    simp [this]
  | c :: l, k + 1, h, h1, h2 => by
    have hc := h1 0 (by simp) (by omega)
    simp at hc
    rw [List.takeWhile_cons, hc, List.take_succ_cons]
    simp only [if_true]
    rw [takeWhile_take l k (by simpa using h) (fun j hj hk => by have := h1 (j + 1) (by simp; omega) (by omega); simpa using this) (fun hj => by have := h2 (by simp; omega); simpa using this)]
theorem str_slice (l : List UInt8) (k : Nat) : (str l).extract 0 k = str (l.take k) := by
  apply ByteArray.ext
  simp [ByteArray.data_extract]

set_option maxRecDepth 10000 in
set_option maxHeartbeats 800000 in
theorem beg_name (l : List UInt8) (w : World) (hT : Tab w) (hl : l.length ≤ 1000000000) :
    Calls Tryd.prog 40 #[.string (str l), .func (.func 41) #[] #[]] w fun e w' => e = .returned (.string (str (l.takeWhile isNm))) ∧ w = w' := by
  have HT := hide hT
  have hs : (str l).size = l.length := str_size l
  clear hT
  go_enter Tryd.func40, Tryd.ntmps40
  go_wp2_with fail
  go_loop [8] (fun i => ∃ k : Nat, i = .int .i64 k ∧ k ≤ l.length ∧ Hid (∀ j (h : j < l.length), j < k → isNm l[j] = true)) (fun i => l.length - (intOf i).toNat)
  case atStart => exact ⟨0, rfl, Nat.zero_le _, hide (fun j _ h => by omega)⟩
  case round =>
    obtain ⟨k, rfl, hk, HA⟩ := hrel
    by_cases hlt : k < l.length
    · have HC := hide (inName_any (l[k]) w HT.out)
      have hget : (str l)[k]'(by rw [hs]; exact hlt) = l[k] := rfl
      generalize hc : l[k] = c at *
      have HK := hide hc
      clear hc
      cases hp : isNm c with
      | true =>
        go_wp2_with fail
        refine HC.out.mono ?_
        rintro e w' ⟨rfl, rfl⟩
        go_wp2_with fail
        go_round
        case rel => exact ⟨k + 1, by go_num, by omega, hide (fun j h hj => by
          by_cases e : j < k
          · exact HA.out j h e
          · obtain rfl : j = k := by omega
            rw [HK.out, hp])⟩
        case measure => simp [intOf]; omega
      | false =>
        go_wp2_with fail
        refine HC.out.mono ?_
        rintro e w' ⟨rfl, rfl⟩
        have HR := hide (takeWhile_take l k (by omega) HA.out (fun h => by rw [HK.out, hp]))
        have hsl := str_slice l k
        go_wp2_with fail
        go_ret
        rw [HR.out]
        exact ⟨rfl, rfl⟩
    · have HR := hide (takeWhile_take l k hk HA.out (fun h => absurd h hlt))
      have HE := hide (List.take_of_length_le (l := l) (i := k) (by omega))
      go_wp2_with fail
      go_ret
      rw [HR.out, HE.out]
      exact ⟨rfl, rfl⟩

set_option maxRecDepth 10000 in
set_option maxHeartbeats 800000 in
theorem beg_digit (l : List UInt8) (w : World) (hT : Tab w) (hl : l.length ≤ 1000000000) :
    Calls Tryd.prog 40 #[.string (str l), .func (.func 53) #[] #[]] w fun e w' => e = .returned (.string (str (l.takeWhile isDg))) ∧ w = w' := by
  have HT := hide hT
  have hs : (str l).size = l.length := str_size l
  clear hT
  go_enter Tryd.func40, Tryd.ntmps40
  go_wp2_with fail
  go_loop [8] (fun i => ∃ k : Nat, i = .int .i64 k ∧ k ≤ l.length ∧ Hid (∀ j (h : j < l.length), j < k → isDg l[j] = true)) (fun i => l.length - (intOf i).toNat)
  case atStart => exact ⟨0, rfl, Nat.zero_le _, hide (fun j _ h => by omega)⟩
  case round =>
    obtain ⟨k, rfl, hk, HA⟩ := hrel
    by_cases hlt : k < l.length
    · have HC := hide (isDigit_any (l[k]) w HT.out)
      have hget : (str l)[k]'(by rw [hs]; exact hlt) = l[k] := rfl
      generalize hc : l[k] = c at *
      have HK := hide hc
      clear hc
      cases hp : isDg c with
      | true =>
        go_wp2_with fail
        refine HC.out.mono ?_
        rintro e w' ⟨rfl, rfl⟩
        go_wp2_with fail
        go_round
        case rel => exact ⟨k + 1, by go_num, by omega, hide (fun j h hj => by
          by_cases e : j < k
          · exact HA.out j h e
          · obtain rfl : j = k := by omega
            rw [HK.out, hp])⟩
        case measure => simp [intOf]; omega
      | false =>
        go_wp2_with fail
        refine HC.out.mono ?_
        rintro e w' ⟨rfl, rfl⟩
        have HR := hide (takeWhile_take l k (by omega) HA.out (fun h => by rw [HK.out, hp]))
        have hsl := str_slice l k
        go_wp2_with fail
        go_ret
        rw [HR.out]
        exact ⟨rfl, rfl⟩
    · have HR := hide (takeWhile_take l k hk HA.out (fun h => absurd h hlt))
      have HE := hide (List.take_of_length_le (l := l) (i := k) (by omega))
      go_wp2_with fail
      go_ret
      rw [HR.out, HE.out]
      exact ⟨rfl, rfl⟩

set_option maxRecDepth 10000 in
set_option maxHeartbeats 800000 in
theorem beg_line (l : List UInt8) (w : World) (hl : l.length ≤ 1000000000) :
    Calls Tryd.prog 40 #[.string (str l), .func (.func 56) #[] #[]] w fun e w' => e = .returned (.string (str (l.takeWhile isLn))) ∧ w = w' := by
  have hs : (str l).size = l.length := str_size l
  go_enter Tryd.func40, Tryd.ntmps40
  go_wp2_with fail
  go_loop [8] (fun i => ∃ k : Nat, i = .int .i64 k ∧ k ≤ l.length ∧ Hid (∀ j (h : j < l.length), j < k → isLn l[j] = true)) (fun i => l.length - (intOf i).toNat)
  case atStart => exact ⟨0, rfl, Nat.zero_le _, hide (fun j _ h => by omega)⟩
  case round =>
    obtain ⟨k, rfl, hk, HA⟩ := hrel
    by_cases hlt : k < l.length
    · have HC := hide (inLine_any (l[k]) w)
      have hget : (str l)[k]'(by rw [hs]; exact hlt) = l[k] := rfl
      generalize hc : l[k] = c at *
      have HK := hide hc
      clear hc
      cases hp : isLn c with
      | true =>
        go_wp2_with fail
        refine HC.out.mono ?_
        rintro e w' ⟨rfl, rfl⟩
        go_wp2_with fail
        go_round
        case rel => exact ⟨k + 1, by go_num, by omega, hide (fun j h hj => by
          by_cases e : j < k
          · exact HA.out j h e
          · obtain rfl : j = k := by omega
            rw [HK.out, hp])⟩
        case measure => simp [intOf]; omega
      | false =>
        go_wp2_with fail
        refine HC.out.mono ?_
        rintro e w' ⟨rfl, rfl⟩
        have HR := hide (takeWhile_take l k (by omega) HA.out (fun h => by rw [HK.out, hp]))
        have hsl := str_slice l k
        go_wp2_with fail
        go_ret
        rw [HR.out]
        exact ⟨rfl, rfl⟩
    · have HR := hide (takeWhile_take l k hk HA.out (fun h => absurd h hlt))
      have HE := hide (List.take_of_length_le (l := l) (i := k) (by omega))
      go_wp2_with fail
      go_ret
      rw [HR.out, HE.out]
      exact ⟨rfl, rfl⟩
end Go.Proofs.YtemapfhiiefieaaDoor
