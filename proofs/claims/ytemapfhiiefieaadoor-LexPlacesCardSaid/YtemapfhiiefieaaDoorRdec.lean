/- Decimal of the reference. -/
import Derived.Test.YtemapfhiiefieaaDoorJn
import Derived.Test.YtemapfhiiefieaaDoorWrongL
import Derived.Laws.IdiomStrings
namespace Go.Proofs.YtemapfhiiefieaaDoor
open Go.RowKit

/-- string([]byte{b}) -/
theorem conv_one (w : World) (b : UInt8) : (convert 39 9 (.slice (some ⟨w.heap.size, 0, none⟩) 1 1)).run Tryd.prog (w.alloc (.cells #[.int .u8 (b.toNat : Nat)] 5)) = .ok (.string (str [b])) (w.alloc (.cells #[.int .u8 (b.toNat : Nat)] 5)) :=
  run_convert_bytes_back _ 39 9 5 ⟨w.heap.size, 0, none⟩ 1 [b] Tryd.underlying39 Tryd.underlying5 Tryd.underlying9 (fun j hj => by
    obtain rfl : j = 0 := by simp at hj; omega
    rw [show (⟨w.heap.size, 0, none⟩ : Addr).add 0 = ⟨w.heap.size, 0, none⟩ by simp [Addr.add]]
    rw [cell_of_row _ _ _ _ _ _ (heap_alloc_new w _)]
    rfl)

/-- The last digit. -/
def dgt (u : Nat) : UInt8 := UInt8.ofNat (48 + u % 10)
theorem dec_dgt {u : Nat} (h : u < 10) : Lib.decDigits u = [dgt u] := by rw [dec_small h]; unfold dgt; rw [Nat.mod_eq_of_lt h]
theorem dec_more {u : Nat} (h : ¬ u < 10) : Lib.decDigits u = Lib.decDigits (u / 10) ++ [dgt u] := dec_big h
theorem conv_dig (w : World) (u : Nat) : (convert 39 9 (.slice (some ⟨w.heap.size, 0, none⟩) 1 1)).run Tryd.prog (w.alloc (.cells #[.int .u8 (48 + (u : Int) % 10)] 5)) = .ok (.string (str [dgt u])) (w.alloc (.cells #[.int .u8 (48 + (u : Int) % 10)] 5)) := by
  have h := conv_one w (UInt8.ofNat (48 + u % 10))
  rw [digit_toNat (Nat.mod_lt _ (by decide))] at h
  rw [show ((48 + u % 10 : Nat) : Int) = 48 + (u : Int) % 10 by omega] at h
  exact h

set_option maxRecDepth 10000 in
set_option maxHeartbeats 1600000 in
theorem rdecimal_any (n : Nat) (w : World) (hn : n ≤ 1099511627776) :
    Calls Tryd.prog 36 #[.int .i64 (n : Nat)] w fun e w' => e = .returned (.string (str (Lib.decDigits n))) ∧ Below w.heap.size w w' := by
  have hcv := conv_dig w n
  have HB := hide (below_new w (.cells #[.int .u8 (48 + (n : Int) % 10)] 5))
  go_enter Tryd.func36, Tryd.ntmps36
  go_wp2_with fail
  clear hcv
  go_loopw [0, 3] (fun x y wr => ∃ (u : Nat) (s : List UInt8), x = .int .i64 u ∧ y = .string (str s) ∧ u ≤ n ∧ Hid ((u < 10 → Lib.decDigits n = s) ∧ (¬ u < 10 → Lib.decDigits n = Lib.decDigits (u / 10) ++ s)) ∧ Hid (Below w.heap.size w wr)) (fun x _ _ => (intOf x).toNat)
  case atStart =>
    exact ⟨n, [dgt n], rfl, rfl, Nat.le_refl _, hide ⟨fun h => dec_dgt h, fun h => dec_more h⟩, HB⟩
  case round =>
    clear HB
    obtain ⟨u, s, rfl, rfl, hun, hp, hb⟩ := hrel
    by_cases h10 : u < 10
    · have hd : decide ((10 : Int) ≤ (u : Int)) = false := by simp; omega
      go_wp2_with fail
      go_ret
      exact ⟨by rw [hp.out.1 h10]; rfl, hb.out⟩
    · have hd : decide ((10 : Int) ≤ (u : Int)) = true := by simp; omega
      have hsl : s.length ≤ 13 := by
        have h1 := dec_len 12 n (by omega)
        rw [hp.out.2 h10, List.length_append] at h1
        omega
      have hcv := conv_dig wr (u / 10)
      rw [show ((u / 10 : Nat) : Int) = (u : Int) / 10 by omega] at hcv
      have HB := hide (hb.out.alloc hb.out.size (.cells #[.int .u8 (48 + (u : Int) / 10 % 10)] 5))
      go_wp2_with fail
      refine ⟨⟨u / 10, dgt (u / 10) :: s, by simp, by rw [str_app]; rfl, by omega, hide ⟨fun h => ?_, fun h => ?_⟩, HB⟩, ?_⟩
      · rw [hp.out.2 h10, dec_dgt h]; rfl
      · rw [hp.out.2 h10, dec_more h, List.append_assoc]; rfl
      · simp [intOf]; omega
end Go.Proofs.YtemapfhiiefieaaDoor
