/- steps; DigestPlaces. -/
import Derived.Test.YtnopibpakchejaaDoorApp
namespace Go.Proofs.YtnopibpakchejaaDoor
open Go.RowKit

theorem hp_of {n k j : Nat} (hk : k = 2 ^ j) (h1 : k < n) (h2 : n ≤ 2 * k) : hp n = k := by
  have h3 := Nat.log2_self_le (n := n - 1) (by omega)
  have h4 := Nat.lt_log2_self (n := n - 1)
  have e : j = (n - 1).log2 := by
    have a1 : 2 ^ j < 2 ^ ((n - 1).log2 + 1) := by omega
    have a2 : 2 ^ (n - 1).log2 < 2 ^ (j + 1) := by rw [Nat.pow_succ, ← hk]; omega
    have b1 := (Nat.pow_lt_pow_iff_right (by omega : 1 < 2)).1 a1
    have b2 := (Nat.pow_lt_pow_iff_right (by omega : 1 < 2)).1 a2
    omega
  unfold hp
  rw [← e, hk]

/-- A power of two that is less than n. -/
def IsP (n : Nat) (v : Value) : Prop := ∃ k j : Nat, v = .int .i64 (k : Nat) ∧ k = 2 ^ j ∧ k < n

set_option maxHeartbeats 800000 in
theorem steps_fn (k n : Nat) (w : World) (hk : k < n) (hn : n ≤ 1099511627776) :
    Calls Tryd.prog 24 #[.int .i64 (k : Nat), .int .i64 (n : Nat)] w fun e w' => e = .returned (.int .i64 (stepsL k n : Nat)) ∧ w = w' := by
  have HS := hide (steps_le n k)
  go_enter Tryd.func24, Tryd.ntmps24
  go_wp2_with fail
  go_loop [0, 1, 5, 6] (fun a b c _ => Steps3 k n a b c) (fun _ b _ _ => (intOf b).toNat)
  case atStart => exact ⟨k, n, 0, rfl, rfl, rfl, hk, Nat.le_refl _, by omega⟩
  case round =>
    obtain ⟨k1, n1, c1, rfl, rfl, rfl, hk1, hn1, hc⟩ := hrel
    have HC := hide hc
    clear hc
    have hcb : c1 ≤ 1099511627776 := by have := HC.out; have := HS.out; omega
    by_cases h2 : 2 ≤ n1
    · have hp1 := hp_pos n1
      have hp2 := hp_lt h2
      have HL := hide (fun h => stepsL_left h2 (k := k1) h)
      have HR := hide (fun h => stepsL_right h2 (k := k1) h)
      go_wp2_with fail
      go_loop [6] (fun v => IsP n1 v) (fun v => n1 - (intOf v).toNat)
      case atStart => exact ⟨1, 0, rfl, rfl, by omega⟩
      case round =>
        obtain ⟨q, j, rfl, hq, hqn⟩ := hrel
        have HQ := hide hq
        have hq1 : 1 ≤ q := by rw [hq]; exact Nat.two_pow_pos j
        clear hq
        by_cases hlt : 2 * q < n1
        · go_wp2_with fail
          go_round
          case rel => exact ⟨2 * q, j + 1, val_num (by omega), by rw [HQ.out, Nat.pow_succ]; omega, hlt⟩
          case measure => simp [intOf]; omega
        · have HE := hide (hp_of HQ.out hqn (by omega))
          have h4 : ¬ (2 * (q : Int) < (n1 : Int)) := by omega
          by_cases hlq : k1 < q
          · have HE2 := hide (HL.out (by rw [HE.out]; exact hlq))
            rw [HE.out] at HE2 hp1 hp2
            clear HL HR HE HQ
            go_wp2_with fail
            go_round
            case rel => exact ⟨k1, q, c1 + 1, rfl, rfl, by go_num, hlq, by omega, by have := HC.out; have := HE2.out; omega⟩
            case measure => simp [intOf]; omega
          · have HE2 := hide (HR.out (by rw [HE.out]; omega))
            rw [HE.out] at HE2 hp1 hp2
            clear HL HR HE HQ
            go_wp2_with fail
            go_round
            case rel => exact ⟨k1 - q, n1 - q, c1 + 1, by rw [show ((k1 - q : Nat) : Int) = (k1 : Int) - q by omega], by rw [show ((n1 - q : Nat) : Int) = (n1 : Int) - q by omega], by go_num, by omega, by omega, by have := HC.out; have := HE2.out; omega⟩
            case measure => simp [intOf]; omega
    · have HE := hide (stepsL_one (n := n1) (by omega) k1)
      go_wp2_with fail
      go_ret
      have h1 := HC.out
      have h2 := HE.out
      exact ⟨ret_num (by omega), rfl⟩
end Go.Proofs.YtnopibpakchejaaDoor
