/- Path, pathLength. -/
import Derived.Test.YtnopibpakchejaaDoorPath2
namespace Go.Proofs.YtnopibpakchejaaDoor
open Go.RowKit

set_option maxHeartbeats 800000 in
theorem Path_no (m cap : Nat) (k : Int) (a : Option Addr) (w : World) (hk : k < 0 ∨ m ≤ k) :
    Calls Tryd.prog 19 #[.slice a m cap, .int .i64 k] w fun e w' => e = .returned (.tuple #[.slice none 0 0, .int .i64 1]) ∧ Below w.heap.size w w' := by
  by_cases h0 : k < 0
  · go_enter Tryd.func19, Tryd.ntmps19
    go_wp2_with fail
    go_ret2
    exact ⟨rfl, Below.refl _ _⟩
  · have h1 : (m : Int) ≤ k := by omega
    have h2 : decide (k < 0) = false := by simpa using h0
    go_enter Tryd.func19, Tryd.ntmps19
    go_wp2_with fail
    go_ret2
    exact ⟨rfl, Below.refl _ _⟩

def PathPost2 (l : List (List UInt8)) (w : World) (e : Ending) (w' : World) : Prop := ∃ v, e = .returned (.tuple #[v, .int .i64 0]) ∧ w'.ownsRow w.heap.size 26 32 v l.length (bc l.flatten) ∧ Below w.heap.size w w'

set_option maxHeartbeats 800000 in
theorem Path_yes (l : List (List UInt8)) (m cap k : Nat) (a : Option Addr) (w : World) (hT : Tab w) (hD : D32 l) (hL : Ds w a l) (hm : m = l.length) (hk : k < m) (hn : m ≤ 1000) (hcap : m ≤ cap) (hcap' : cap ≤ 9223372036854775807) :
    Calls Tryd.prog 19 #[.slice a m cap, .int .i64 (k : Nat)] w (PathPost2 (pathL l k) w) := by
  have HP := hide (pathTo_any l m cap k a w hT hD hL hm hk hn hcap hcap')
  clear hT hD hL hm
  have h2 : decide ((k : Int) < 0) = false := by simp
  have h3 : ¬ ((m : Int) ≤ (k : Int)) := by omega
  go_enter Tryd.func19, Tryd.ntmps19
  go_wp2_with fail
  with_reducible refine HP.out.mono ?_
  rintro e w1 ⟨v, rfl, hown, hb⟩
  have H := hide (And.intro hown hb)
  clear hown hb
  go_wp2_with fail
  go_ret2
  exact ⟨v, rfl, H.out⟩

def Steps3 (k n : Nat) (a b c : Value) : Prop := ∃ (k1 n1 c1 : Nat), a = .int .i64 (k1 : Nat) ∧ b = .int .i64 (n1 : Nat) ∧ c = .int .i64 (c1 : Nat) ∧ k1 < n1 ∧ n1 ≤ n ∧ c1 + stepsL k1 n1 = stepsL k n

set_option maxHeartbeats 800000 in
theorem pathLength_any (k n : Nat) (w : World) (hk : k < n) (hn : n ≤ 1099511627776) :
    Calls Tryd.prog 42 #[.int .i64 (k : Nat), .int .i64 (n : Nat)] w fun e w' => e = .returned (.int .i64 (stepsL k n : Nat)) ∧ w = w' := by
  have HS := hide (steps_le n k)
  go_enter Tryd.func42, Tryd.ntmps42
  go_wp2_with fail
  go_loop [0, 1, 4] (fun a b c => Steps3 k n a b c) (fun _ b _ => (intOf b).toNat)
  case atStart => exact ⟨k, n, 0, rfl, rfl, rfl, hk, Nat.le_refl _, by omega⟩
  case round =>
    obtain ⟨k1, n1, c1, rfl, rfl, rfl, hk1, hn1, hc⟩ := hrel
    have HC := hide hc
    clear hc
    have hcb : c1 ≤ 1099511627776 := by have := HC.out; have := HS.out; omega
    by_cases h2 : 2 ≤ n1
    · have HFP := hide (fun (W : World) => firstPart_any n1 W h2 (by omega))
      have hp1 := hp_pos n1
      have hp2 := hp_lt h2
      have HL := hide (fun h => stepsL_left h2 (k := k1) h)
      have HR := hide (fun h => stepsL_right h2 (k := k1) h)
      by_cases hlt : k1 < hp n1
      · have HE := hide (HL.out hlt)
        clear HL HR
        generalize hp n1 = h at *
        go_wp2_with (go_at_call 36; ((with_reducible refine (HFP.out _).mono ?_); rintro e w' ⟨rfl, rfl⟩))
        go_round
        case rel => exact ⟨k1, h, c1 + 1, rfl, rfl, by go_num, hlt, by omega, by have := HC.out; have := HE.out; omega⟩
        case measure => simp [intOf]; omega
      · have HE := hide (HR.out (by omega))
        clear HL HR
        generalize hp n1 = h at *
        go_wp2_with (go_at_call 36; ((with_reducible refine (HFP.out _).mono ?_); rintro e w' ⟨rfl, rfl⟩))
        go_round
        case rel => exact ⟨k1 - h, n1 - h, c1 + 1, by rw [show ((k1 - h : Nat) : Int) = (k1 : Int) - h by omega], by rw [show ((n1 - h : Nat) : Int) = (n1 : Int) - h by omega], by go_num, by omega, by omega, by have := HC.out; have := HE.out; omega⟩
        case measure => simp [intOf]; omega
    · have HE := hide (stepsL_one (n := n1) (by omega) k1)
      go_wp2_with fail
      go_ret
      have h1 := HC.out
      have h2 := HE.out
      exact ⟨ret_num (by omega), rfl⟩
end Go.Proofs.YtnopibpakchejaaDoor
