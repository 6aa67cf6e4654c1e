/- Sign of the reference. -/
import Derived.Test.YtemapfhiiefieaaDoorRnm
namespace Go.Proofs.YtemapfhiiefieaaDoor
open Go.RowKit

def sgs : List UInt8 := [123, 125, 40, 41, 59, 44, 61, 58, 46, 60, 62, 33, 43, 45, 42, 47]
theorem sgs_len : sgs.length = 16 := rfl
set_option maxRecDepth 100000 in
theorem fin_sign : ∀ n : Fin 256, (clsN n.1 == 2) = decide (n.1 ∈ sgs.map UInt8.toNat) := by decide
theorem isSg_mem (b : UInt8) : isSg b = decide (b ∈ sgs) := by
  have h := fin_sign ⟨b.toNat, b.toNat_lt⟩
  have h2 : isSg b = decide (b.toNat ∈ sgs.map UInt8.toNat) := h
  rw [h2, decide_eq_decide, List.mem_map]
  constructor
  · rintro ⟨c, hc, e⟩
    rw [← UInt8.toNat_inj.1 e]; exact hc
  · intro hm; exact ⟨b, hm, rfl⟩

set_option maxRecDepth 10000 in
set_option maxHeartbeats 800000 in
theorem rsign_any (b : UInt8) (w : World) : Calls Tryd.prog 31 #[.int .u8 (b.toNat : Nat)] w fun e w' => e = .returned (.bool (isSg b)) ∧ w = w' := by
  have hlt := b.toNat_lt
  go_enter Tryd.func31, Tryd.ntmps31
  go_wp2_with fail
  have HS := hide (isSg_mem b)
  have hL := sgs_len
  rw [show (ByteArray.mk #[123, 125, 40, 41, 59, 44, 61, 58, 46, 60, 62, 33, 43, 45, 42, 47]) = str sgs from rfl]
  generalize sgs = l at *
  have hs : (str l).size = l.length := str_size l
  go_loop [4] (fun i => ∃ k : Nat, i = .int .i64 k ∧ k ≤ l.length ∧ Hid (∀ j (h : j < l.length), j < k → l[j] ≠ b)) (fun i => l.length - (intOf i).toNat)
  case atStart => exact ⟨0, rfl, Nat.zero_le _, hide (fun j _ h => by omega)⟩
  case round =>
    obtain ⟨k, rfl, hk, HA⟩ := hrel
    by_cases hlt : k < l.length
    · have hget : (str l)[k]'(by rw [hs]; exact hlt) = l[k] := rfl
      have HM := hide (show l[k] ∈ l from List.getElem_mem hlt)
      generalize hc : l[k] = c at *
      have HK := hide hc
      clear hc
      cases hp : ((c.toNat : Int) == (b.toNat : Int)) with
      | true =>
        have HF := hide (show isSg b = true by
          have e : c.toNat = b.toNat := by simp only [beq_iff_eq] at hp; omega
          rw [HS.out, ← UInt8.toNat_inj.1 e]
          simp [HM.out])
        go_wp2_with fail
        go_ret
        exact ⟨by rw [HF.out]; rfl, rfl⟩
      | false =>
        have HN := hide (show c ≠ b by intro e; rw [e] at hp; simp at hp)
        go_wp2_with fail
        go_round
        case rel => exact ⟨k + 1, by go_num, by omega, hide (fun j h hj => by
          by_cases e : j < k
          · exact HA.out j h e
          · obtain rfl : j = k := by omega
            rw [HK.out]; exact HN.out)⟩
        case measure => simp [intOf]; omega
    · have HF := hide (show isSg b = false by
        rw [HS.out, decide_eq_false_iff_not]
        intro hm
        obtain ⟨j, hj, e⟩ := List.getElem_of_mem hm
        exact HA.out j hj (by omega) e)
      go_wp2_with fail
      go_ret
      exact ⟨by rw [HF.out]; rfl, rfl⟩
end Go.Proofs.YtemapfhiiefieaaDoor
