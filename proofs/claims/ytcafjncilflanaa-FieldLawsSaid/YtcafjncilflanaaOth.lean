/- others: the points of a list except one. -/
import Derived.Test.YtcafjncilflanaaRng
import Derived.Test.YtcafjncilflanaaDif
namespace Go.Proofs.Ytcafjncilflanaa
open Go.RowKit
attribute [local go_sem] Oper.semAt_some

def ptV (p : Pt) : Value := .agg #[.int .i64 p.1, .int .i64 p.2]
theorem others_any (A : Option Addr) (n c : Nat) (i : Int) (w : World) : Calls Try.prog 26 #[.slice A n c, .int .i64 i] w fun e w' => e = .returned (.func (.func 29) #[] #[.pointer (some ⟨w.heap.size, 0, none⟩), .pointer (some ⟨w.heap.size + 1, 0, none⟩)]) ∧ w' = (w.alloc (.cells #[.slice A n c] 31)).alloc (.cells #[.int .i64 i] 3) := by
  go_enter Try.func26, Try.ntmps26
  go_wp2_with fail
  go_ret
  exact ⟨rfl, rfl⟩

theorem erase_same (l : List Pt) (k : Nat) (h : k < l.length) : (l.take (k + 1)).eraseIdx k = (l.take k).eraseIdx k := by
  have hl : (l.take k).length = k := by simp; omega
  rw [List.take_succ_eq_append_getElem h, List.eraseIdx_append_of_length_le (by omega), List.eraseIdx_of_length_le (l := l.take k) (by omega), hl, Nat.sub_self]
  simp
theorem erase_more (l : List Pt) (i k : Nat) (h : k < l.length) (hne : k ≠ i) : (l.take (k + 1)).eraseIdx i = (l.take k).eraseIdx i ++ [l[k]] := by
  rw [List.take_succ_eq_append_getElem h]
  rcases Nat.lt_or_ge i k with h1 | h1
  · rw [List.eraseIdx_append_of_lt_length (by simp; omega)]
  · rw [List.eraseIdx_of_length_le (by simp; omega), List.eraseIdx_of_length_le (by simp; omega)]

set_option maxRecDepth 100000 in
set_option maxHeartbeats 3200000 in
theorem others_gives (n : Nat) (_hn : 1 ≤ n) (B1 B2 : Nat) (A : Option Addr) (l : List Pt) (cap i : Nat) (W0 : World) (K : World → World → Prop)
    (hK : ∀ W, K W0 W → Pts W A l ∧ W.cell? ⟨B1, 0, none⟩ = some (.slice A l.length cap) ∧ W.cell? ⟨B2, 0, none⟩ = some (.int .i64 (i : Nat)))
    (hKt : ∀ A B C : World, K A B → K B C → K A C) (hKg : ∀ A B : World, Below A.heap.size A B → K A B) (hle : l.length ≤ cap) (hcap : cap ≤ 9223372036854775807) :
    Gives Fence.wide n Try.prog 29 #[.pointer (some ⟨B1, 0, none⟩), .pointer (some ⟨B2, 0, none⟩)] (fun q : Pt => #[ptV q]) (fun _ _ => True) K (fun xs => xs = l.eraseIdx i) (l.length + 1) W0 := by
  intro ly J W hW hA hY h0
  have HI := hide hK
  have HY := hide hY
  have HA := hide hA
  have HKT := hide hKt
  have HKG := hide hKg
  have HW0 := hide (hKg _ _ hW)
  have hc0 := (hK W (hKg _ _ hW)).2.1
  clear hK hY hA hKt hKg hW
  refine callsIn_of_wp Try.func29 rfl trivial ?_ rfl
  simp only [Try.ntmps29, List.size_toArray, List.length_cons, List.length_nil, Nat.reduceAdd, Nat.reduceSub, Array.replicate_succ, Array.replicate_zero, List.push_toArray, List.append_toArray, List.nil_append, List.cons_append]
  gi_wp2
  gi_loopw [4, 5, 8] (fun _ _ v wr => ∃ (k : Nat), k ≤ l.length ∧ v = .int .i64 k ∧ Hid (J ((l.take k).eraseIdx i) wr) ∧ Hid (K W0 wr)) (fun _ _ v _ => l.length - (intOf v).toNat)
  case atStart => exact ⟨0, Nat.zero_le _, rfl, hide (by simpa using h0), HW0⟩
  case round =>
    obtain ⟨k, hk, rfl, HJ, HW⟩ := hrel
    have e0 := (HI.out _ HW.out).2.2
    by_cases hlt : k < l.length
    · have hlt' : (k : Int) < l.length := by omega
      obtain ⟨b, o, rfl, d0, d1⟩ := (HI.out _ HW.out).1.at hlt
      have HLN := hide (show ((l.take k).eraseIdx i).length < l.length + 1 by
        have h1 := List.length_eraseIdx_le (l.take k) i
        have h2 := List.length_take_le k l
        omega)
      have HS := hide (fun h => h ▸ erase_same l k hlt : k = i → (l.take (k + 1)).eraseIdx i = (l.take k).eraseIdx i)
      have HM := hide (erase_more l i k hlt)
      rcases hq : l[k] with ⟨q1, q2⟩
      rw [hq] at d0 d1 HM
      simp only at d0 d1
      clear hq
      have e0a := fun o => ((below_new wr o).cell (p := ⟨B2, 0, none⟩) (cell_lt e0)).trans e0
      by_cases heq : k = i
      · have HN := hide (HS.out heq)
        have hqq : ((k : Int) == (i : Int)) = true := by simp [heq]
        have hqn : ((k : Int) != (i : Int)) = false := by simp [heq]
        clear heq
        gi_wp2
        refine ⟨fun f h => (by cases h), ?_⟩
        gi_wp2
        go_roundw
        case rel => exact ⟨k + 1, by omega, by go_num, hide (by rw [HN.out]; exact abides_below HA.out HJ.out (below_new wr _)), hide (HKT.out _ _ _ HW.out (HKG.out _ _ (below_new wr _)))⟩
        case measure => simp [intOf]; omega
      · have HN := hide (HM.out heq)
        have hqq : ((k : Int) == (i : Int)) = false := by simp; omega
        have hqn : ((k : Int) != (i : Int)) = true := by simp; omega
        have HW1 := hide (HKT.out _ _ _ HW.out (HKG.out _ _ (below_new wr (.cells #[.int .i64 q1, .int .i64 q2] 35))))
        obtain ⟨fn, tmps, assign, body, hy, hR⟩ := HY.out ((l.take k).eraseIdx i) (q1, q2) (wr.alloc (.cells #[.int .i64 q1, .int .i64 q2] 35)) (abides_below HA.out HJ.out (below_new wr _)) trivial HLN.out
        unfold ptV at hy
        dsimp only at hy
        have HRR := hide hR
        clear hR heq
        gi_wp2
        refine HRR.out.mono ?_
        rintro e w3 ⟨rfl, hJ3, hk3⟩
        have HW3 := hide (HKT.out _ _ _ HW1.out hk3)
        gi_wp2
        go_roundw
        case rel => exact ⟨k + 1, by omega, by go_num, hide (by rw [HN.out]; exact hJ3), HW3⟩
        case measure => simp [intOf]; omega
    · obtain rfl : k = l.length := by omega
      have hge : ¬ ((l.length : Int) < l.length) := by omega
      have HT := hide (show l.take l.length = l from List.take_length)
      gi_wp2
      go_end0
      exact ⟨⟨_, rfl⟩, by have := HJ.out; rwa [HT.out] at this⟩
end Go.Proofs.Ytcafjncilflanaa
