/- Powers: squares and power. -/
import Derived.Test.YthimljcfmnehcaaDoorGPrd
import Derived.Test.YthimljcfmnehcaaDoorGShl
import Derived.Test.YthimljcfmnehcaaDoorGBrg
import Derived.Test.YthimljcfmnehcaaDoorGRng
import Derived.RangeFuncStops
import Derived.Shelf.Abstract
namespace Go.Proofs.YthimljcfmnehcaaDoor.Gp
open Go.RowKit Go.Shelf
attribute [local go_sem] Oper.semAt_some

/-! ## plain -/
theorem lt_bitLen : ∀ (k n : Nat), n < 2 ^ k → n < 18446744073709551616 → n < 2 ^ Lib.bitLen n
  | 0, n, h, _ => by
    have : n = 0 := by simpa using h
    subst this
    decide
  | k + 1, n, h, h2 => by
    by_cases h0 : n = 0
    · subst h0
      decide
    · have h3 := Lib.bitLen_half n h0 (by simpa using h2)
      have h4 := lt_bitLen k (n / 2) (by rw [Nat.pow_succ] at h; omega) (by omega)
      rw [h3, Nat.pow_add]
      omega
/-- a round of power: what is left of the exponent, and the product so far -/
def pst (p : Nat × Int) (x : Int) : Nat × Int := (p.1 / 2, if p.1 % 2 = 1 then mp (p.2 * x) else p.2)
def pfd (n : Nat) (pre : List Int) : Nat × Int := pre.foldl pst (n, 1)
theorem pfd_snoc (n : Nat) (pre : List Int) (x : Int) : pfd n (pre ++ [x]) = pst (pfd n pre) x := by simp [pfd]
theorem sqr_range {a : Int} (h0 : 0 ≤ a) (h1 : a < 2147483579) : ∀ k, 0 ≤ sqr a k ∧ sqr a k < 2147483579
  | 0 => ⟨h0, h1⟩
  | _ + 1 => ⟨mp_lo _, mp_hi _⟩
theorem pfd_inv (a : Int) (n : Nat) : ∀ k, (pfd n ((List.range k).map (sqr a))).1 = n / 2 ^ k ∧ mp ((pfd n ((List.range k).map (sqr a))).2 * sqr a k ^ (pfd n ((List.range k).map (sqr a))).1) = mp (a ^ n) ∧ 0 ≤ (pfd n ((List.range k).map (sqr a))).2 ∧ (pfd n ((List.range k).map (sqr a))).2 < 2147483579
  | 0 => by simp [pfd, sqr]
  | k + 1 => by
    obtain ⟨h1, h2, h3, h4⟩ := pfd_inv a n k
    rw [List.range_succ, List.map_append, List.map_singleton, pfd_snoc]
    generalize pfd n ((List.range k).map (sqr a)) = p at *
    obtain ⟨m, c⟩ := p
    simp only at h1 h2 h3 h4
    unfold pst
    simp only
    refine ⟨by rw [h1, Nat.pow_succ, Nat.div_div_eq_div_mul], ?_, ?_, ?_⟩
    · rw [← h2]
      show mp ((if m % 2 = 1 then mp (c * sqr a k) else c) * mp (sqr a k * sqr a k) ^ (m / 2)) = _
      by_cases h : m % 2 = 1
      · rw [if_pos h]; exact mpow_odd _ _ _ h
      · rw [if_neg h]; exact mpow_even _ _ _ (by omega)
    · split
      · exact mp_lo _
      · exact h3
    · split
      · exact mp_hi _
      · exact h4
theorem pfd_done (a : Int) (n : Nat) (hn : n < 18446744073709551616) : (pfd n ((List.range (Lib.bitLen n)).map (sqr a))).2 = mp (a ^ n) := by
  obtain ⟨h1, h2, h3, h4⟩ := pfd_inv a n (Lib.bitLen n)
  rw [Nat.div_eq_of_lt (lt_bitLen 64 n (by simpa using hn) hn)] at h1
  rw [h1, Int.pow_zero, Int.mul_one, mp_id h3 h4] at h2
  exact h2

/-! ## squares -/
theorem squares_any (a m : Int) (w : World) : Calls Tryd.prog 77 #[.int .i64 a, .int .i64 m] w fun e w' => e = .returned (.func (.func 79) #[] #[.pointer (some ⟨w.heap.size, 0, none⟩), .pointer (some ⟨w.heap.size + 1, 0, none⟩)]) ∧ w' = (w.alloc (.cells #[.int .i64 a] 3)).alloc (.cells #[.int .i64 m] 3) := by
  go_enter Tryd.func77, Tryd.ntmps77
  go_wp2_with fail
  go_ret
  exact ⟨rfl, rfl⟩

set_option maxRecDepth 100000 in
set_option maxHeartbeats 3200000 in
theorem squares_gives (n : Nat) (_hn : 1 ≤ n) (B1 B2 : Nat) (a : Int) (m : Nat) (W0 : World) (h1 : W0.cell? ⟨B1, 0, none⟩ = some (.int .i64 a)) (h2 : W0.cell? ⟨B2, 0, none⟩ = some (.int .i64 (m : Nat))) (ha : 0 ≤ a) (ha2 : a < 2147483579) (hm : m ≤ 9223372036854775806) :
    Gives Fence.wide n Tryd.prog 79 #[.pointer (some ⟨B1, 0, none⟩), .pointer (some ⟨B2, 0, none⟩)] (fun x : Int => #[.int .i64 x]) (fun x _ => 0 ≤ x ∧ x < 2147483579) (fun _ _ => True) (fun xs => xs = (List.range m).map (sqr a)) (m + 1) W0 := by
  intro ly J W hW hA hY h0
  have HY := hide hY
  have HA := hide hA
  have HRG := hide (sqr_range ha ha2)
  have d0 := (hW.cell (p := ⟨B1, 0, none⟩) (cell_lt h1)).trans h1
  have d1 := (hW.cell (p := ⟨B2, 0, none⟩) (cell_lt h2)).trans h2
  clear hY hA hW h1 h2 ha ha2
  refine callsIn_of_wp Tryd.func79 rfl trivial ?_ rfl
  simp only [Tryd.ntmps79, List.size_toArray, List.length_cons, List.length_nil, Nat.reduceAdd, Nat.reduceSub, Array.replicate_succ, Array.replicate_zero, List.push_toArray, List.append_toArray, List.nil_append, List.cons_append]
  gi_wp2
  gi_loopw [4, 7] (fun sq v wr => ∃ (k : Nat), k ≤ m ∧ v = .int .i64 k ∧ sq = .int .i64 (sqr a k) ∧ Hid (J ((List.range k).map (sqr a)) wr)) (fun _ v _ => m - (intOf v).toNat)
  case atStart => exact ⟨0, Nat.zero_le _, rfl, rfl, hide h0⟩
  case round =>
    obtain ⟨k, hk, rfl, rfl, HJ⟩ := hrel
    by_cases hlt : k < m
    · have hlt' : (k : Int) < m := by omega
      obtain ⟨fn, tmps, assign, body, hy, hR⟩ := HY.out ((List.range k).map (sqr a)) (sqr a k) wr HJ.out (HRG.out k) (by simp; omega)
      have HRR := hide hR
      have HPR := hide (fun W => product_any (sqr a k) (sqr a k) W (HRG.out k).1 (HRG.out k).2 (HRG.out k).1 (HRG.out k).2)
      have HN := hide (show (List.range (k + 1)).map (sqr a) = (List.range k).map (sqr a) ++ [sqr a k] by rw [List.range_succ, List.map_append, List.map_singleton])
      have HSQ := hide (show mp (sqr a k * sqr a k) = sqr a (k + 1) from rfl)
      clear hR
      gi_wp2
      refine HRR.out.mono ?_
      rintro e w3 ⟨rfl, hJ3, -⟩
      have HJ3 := hide hJ3
      clear hJ3
      gi_wp2
      refine ⟨trivial, ?_⟩
      refine (callsIn_wide.2 (HPR.out w3)).mono ?_
      rintro e w' ⟨rfl, rfl⟩
      rw [HSQ.out]
      gi_wp2
      go_roundw
      case rel => exact ⟨k + 1, by omega, by go_num, rfl, hide (by rw [HN.out]; exact HJ3.out)⟩
      case measure => simp [intOf]; omega
    · obtain rfl : k = m := by omega
      have hge : ¬ ((k : Int) < k) := by omega
      gi_wp2
      go_end0
      exact ⟨⟨_, rfl⟩, HJ.out⟩
end Go.Proofs.YthimljcfmnehcaaDoor.Gp
