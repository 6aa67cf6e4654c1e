/- others: the pairs of a list except one. -/
import Derived.Test.YthmaakiibgdigaaRng
import Derived.Test.YthmaakiibgdigaaIdx
import Derived.Test.YthmaakiibgdigaaApp
namespace Go.Proofs.Ythmaakiibgdigaa
open Go.RowKit
variable {ok : Nat → Prop}
attribute [local go_sem] Oper.semAt_some

theorem others_any (A : Option Addr) (n c : Nat) (p : Int × Int) (w : World) : Calls Try.prog 36 #[.slice A n c, prV p] w fun e w' => e = .returned (.func (.func 46) #[] #[.pointer (some ⟨w.heap.size, 0, none⟩), .pointer (some ⟨w.heap.size + 1, 0, none⟩)]) ∧ w' = (w.alloc (.cells #[.slice A n c] 23)).alloc (.cells #[.int .i64 p.1, .int .i64 p.2] 55) := by
  obtain ⟨p1, p2⟩ := p
  go_enter Try.func36, Try.ntmps36
  go_wp2_with fail
  go_ret
  exact ⟨rfl, rfl⟩

def notP (p : Int × Int) (q : Int × Int) : Bool := !(q == p)
theorem below_abides {β : Type} {B : Nat} {J : β → World → Prop} (h : AbidesFrom B J) {s : β} {W : World} (o : Obj) (hJ : J s W) : J s (W.alloc o) := abides_below h hJ (below_new W o)

set_option maxRecDepth 100000 in
set_option maxHeartbeats 3200000 in
theorem others_gives (n : Nat) (_hn : 1 ≤ n) (B1 B2 : Nat) (A : Option Addr) (l : List (Int × Int)) (cap : Nat) (p : Int × Int) (W0 : World) (K : World → World → Prop)
    (hK : ∀ W, K W0 W → PrsIn ok ⟨A, l, cap⟩ W ∧ W.cell? ⟨B1, 0, none⟩ = some (.slice A l.length cap) ∧ W.cell? ⟨B2, 0, none⟩ = some (.int .i64 p.1) ∧ W.cell? ⟨B2, 1, none⟩ = some (.int .i64 p.2))
    (hKt : ∀ A B C : World, K A B → K B C → K A C) (hKg : ∀ A B : World, Below A.heap.size A B → K A B) (hlen : l.length ≤ 9223372036854775807) :
    Gives Fence.wide n Try.prog 46 #[.pointer (some ⟨B1, 0, none⟩), .pointer (some ⟨B2, 0, none⟩)] (fun q : Int × Int => #[prV q]) (fun _ _ => True) K (fun xs => xs = l.filter (notP p)) (l.length + 1) W0 := by
  intro ly J W hW hA hY h0
  obtain ⟨p1, p2⟩ := p
  have HI := hide hK
  have HY := hide hY
  have HA := hide hA
  have HKT := hide hKt
  have HKG := hide hKg
  have HW0 := hide (hKg _ _ hW)
  have hc0 := (hK W (hKg _ _ hW)).2.1
  clear hK hY hA hKt hKg hW
  refine callsIn_of_wp Try.func46 rfl trivial ?_ rfl
  simp only [Try.ntmps46, List.size_toArray, List.length_cons, List.length_nil, Nat.reduceAdd, Nat.reduceSub, Array.replicate_succ, Array.replicate_zero, List.push_toArray, List.append_toArray, List.nil_append, List.cons_append]
  gi_wp2
  gi_loopw [8, 5] (fun i _ wr => ∃ (k : Nat), k ≤ l.length ∧ i = .int .i64 k ∧ Hid (J ((l.take k).filter (notP (p1, p2))) wr) ∧ Hid (K W0 wr)) (fun i _ _ => l.length - (intOf i).toNat)
  case atStart => exact ⟨0, Nat.zero_le _, rfl, hide (by simpa using h0), HW0⟩
  case round =>
    obtain ⟨k, hk, rfl, HJ, HW⟩ := hrel
    obtain ⟨e0, e1⟩ := (HI.out _ HW.out).2.2
    by_cases hlt : k < l.length
    · have hlt' : (k : Int) < l.length := by omega
      obtain ⟨b, o, hA, hb0, d0, d1⟩ := (HI.out _ HW.out).1.at hlt
      simp only at hA
      subst hA
      have HTK := hide (show (l.take (k + 1)).filter (notP (p1, p2)) = (l.take k).filter (notP (p1, p2)) ++ (if notP (p1, p2) l[k] then [l[k]] else []) by
        rw [List.take_succ_eq_append_getElem hlt, List.filter_append]
        rw [List.filter_cons, List.filter_nil])
      have HLN := hide (show ((l.take k).filter (notP (p1, p2))).length < l.length + 1 by
        have h1 := List.length_filter_le (notP (p1, p2)) (l.take k)
        have h2 := List.length_take_le k l
        omega)
      rcases hq : l[k] with ⟨q1, q2⟩
      rw [hq] at d0 d1 HTK
      simp only at d0 d1
      clear hq
      have e0a := fun o => ((below_new wr o).cell (p := ⟨B2, 0, none⟩) (cell_lt e0)).trans e0
      have e1a := fun o => ((below_new wr o).cell (p := ⟨B2, 1, none⟩) (cell_lt e1)).trans e1
      by_cases heq : (q1, q2) = (p1, p2)
      · have HN := hide (show (l.take (k + 1)).filter (notP (p1, p2)) = (l.take k).filter (notP (p1, p2)) by
          rw [HTK.out, if_neg (by simp [notP, heq]), List.append_nil])
        have hqq : ∀ W, (binOp .neq 55 (.agg #[.int .i64 q1, .int .i64 q2]) (.agg #[.int .i64 p1, .int .i64 p2])).run Try.prog W = .ok (.bool false) W := fun W => by
          have := neq_pr (q1, q2) (p1, p2) W
          rwa [beq_iff_eq.2 heq] at this
        clear heq
        gi_wp2
        refine ⟨fun f h => (by cases h), ?_⟩
        gi_wp2
        go_roundw
        case rel => exact ⟨k + 1, by omega, by go_num, hide (by rw [HN.out]; exact below_abides HA.out _ HJ.out), hide (HKT.out _ _ _ HW.out (HKG.out _ _ (below_new wr _)))⟩
        case measure => simp [intOf]; omega
      · have HN := hide (show (l.take (k + 1)).filter (notP (p1, p2)) = (l.take k).filter (notP (p1, p2)) ++ [(q1, q2)] by
          rw [HTK.out, if_pos (by simpa [notP] using heq)])
        have hqq : ∀ W, (binOp .neq 55 (.agg #[.int .i64 q1, .int .i64 q2]) (.agg #[.int .i64 p1, .int .i64 p2])).run Try.prog W = .ok (.bool true) W := fun W => by
          have := neq_pr (q1, q2) (p1, p2) W
          rwa [beq_eq_false_iff_ne.2 heq] at this
        have HW1 := hide (HKT.out _ _ _ HW.out (HKG.out _ _ (below_new wr (.cells #[.int .i64 q1, .int .i64 q2] 55))))
        obtain ⟨fn, tmps, assign, body, hy, hR⟩ := HY.out ((l.take k).filter (notP (p1, p2))) (q1, q2) (wr.alloc (.cells #[.int .i64 q1, .int .i64 q2] 55)) (below_abides HA.out _ HJ.out) trivial HLN.out
        have HRR := hide hR
        clear hR heq
        gi_wp2
        refine HRR.out.mono ?_
        rintro e w3 ⟨rfl, hJ3, hk3⟩
        have HW3 := hide (HKT.out _ _ _ HW1.out hk3)
        gi_wp2
        go_roundw
        case rel => exact ⟨k + 1, by omega, by go_num, hide (by rw [HN.out]; exact hJ3), HW3⟩
        case measure => simp [intOf]; omega
    · obtain rfl : k = l.length := by omega
      have hge : ¬ ((l.length : Int) < l.length) := by omega
      have HT := hide (show l.take l.length = l from List.take_length)
      gi_wp2
      go_end0
      exact ⟨⟨_, rfl⟩, by have := HJ.out; rwa [HT.out] at this⟩
end Go.Proofs.Ythmaakiibgdigaa
