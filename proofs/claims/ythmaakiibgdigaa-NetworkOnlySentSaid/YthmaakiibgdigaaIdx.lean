/- Index and Contains of pairs. -/
import Derived.Test.YthmaakiibgdigaaAsk
import Derived.Outline
import Derived.ChangeKeysEq
import Derived.Laws.StructEq
namespace Go.Proofs.Ythmaakiibgdigaa
open Go.RowKit
variable {ok : Nat → Prop}

theorem equalIn_pr (d : Nat) (p q : Int × Int) (w : World) : (Op.equalIn (d + 2) 55 (prV p) (prV q)).run Try.prog w = .ok (p == q) w := by
  obtain ⟨p1, p2⟩ := p
  obtain ⟨q1, q2⟩ := q
  obtain ⟨i, hi⟩ := info_of_underlying Try.underlying3
  have hc : Try.prog.cellsOf 3 = 1 := by kernel_rfl
  have ha : ∀ w, (isAgg 3).run Try.prog w = .ok false w := Try.isAgg3
  rw [run_equalIn_array w (d + 1) _ _ Try.underlying55 hi, hc]
  simp only [List.range_succ, List.range_zero, List.nil_append, List.cons_append, Op.eqItems, Sem.run_bind, part, ha, Result.andThen_ok, Nat.mul_one, List.getElem?_toArray, List.getElem?_cons_zero, List.getElem?_cons_succ]
  have e : ((p1, p2) == (q1, q2)) = ((p1 == q1) && (p2 == q2)) := rfl
  rw [e]
  cases h1 : (p1 == q1) <;> cases h2 : (p2 == q2) <;> simp [run_equalIn_int _ d 3 .i64 .i64 _ _ Try.underlying3, h1, h2]
/-- As the walk meets it. -/
theorem eql_pr (p q : Int × Int) (w : World) : (binOp .eql 55 (prV p) (prV q)).run Try.prog w = .ok (.bool (p == q)) w := by
  rw [run_eql_struct, equalIn_pr 9998 p q w]
  rfl
theorem neq_pr (p q : Int × Int) (w : World) : (binOp .neq 55 (prV p) (prV q)).run Try.prog w = .ok (.bool (!(p == q))) w := by
  rw [run_neq_struct, equalIn_pr 9998 p q w]
  rfl

set_option maxRecDepth 10000 in
set_option maxHeartbeats 1600000 in
theorem index_any (A : Option Addr) (l : List (Int × Int)) (cap : Nat) (p : Int × Int) (w : World) (hi : PrsIn ok ⟨A, l, cap⟩ w) : Calls Try.prog 51 #[.slice A l.length cap, prV p] w fun e w' => ∃ k : Int, e = .returned (.int .i64 k) ∧ (0 ≤ k ↔ p ∈ l) ∧ Below w.heap.size w w' := by
  obtain ⟨p1, p2⟩ := p
  have HI := hide hi
  have hle : l.length ≤ cap := hi.a.le
  have hcap : cap ≤ 9223372036854775807 := hi.a.top
  have HB := hide (below_new w (.cells #[.int .i64 p1, .int .i64 p2] 55))
  have HX := hide (Blk.new w 55 [.int .i64 p1, .int .i64 p2])
  have HZ := hide (show w.heap.size < (w.alloc (.cells #[.int .i64 p1, .int .i64 p2] 55)).heap.size by simp)
  clear hi
  go_enter Try.func51, Try.ntmps51
  go_wp2_with fail
  generalize hw1 : (w.alloc (.cells #[.int .i64 p1, .int .i64 p2] 55)) = w1 at *
  clear hw1
  go_loopw [8, 5] (fun i _ wr => ∃ k : Nat, k ≤ l.length ∧ i = .int .i64 k ∧ Hid (∀ j (h : j < l.length), j < k → l[j] ≠ (p1, p2)) ∧ Hid (Below w1.heap.size w1 wr)) (fun i _ _ => l.length - (intOf i).toNat)
  case atStart => exact ⟨0, Nat.zero_le _, rfl, hide (by intros; omega), hide (Below.refl _ _)⟩
  case round =>
    obtain ⟨k, hk, rfl, hw, hb⟩ := hrel
    obtain ⟨e0, e1⟩ := (HX.out.below hb.out HZ.out).c2
    by_cases hlt : k < l.length
    · obtain ⟨b, o, hA, hb0, c0, c1⟩ := ((HI.out.below HB.out).below hb.out).at hlt
      simp only at hA
      subst hA
      by_cases heq : l[k] = (p1, p2)
      · have HM := hide (show (p1, p2) ∈ l from heq ▸ List.getElem_mem hlt)
        rw [heq] at c0 c1
        clear heq
        have hq : ∀ W, (binOp .eql 55 (.agg #[.int .i64 p1, .int .i64 p2]) (.agg #[.int .i64 p1, .int .i64 p2])).run Try.prog W = .ok (.bool true) W := fun W => by
          have := eql_pr (p1, p2) (p1, p2) W
          rwa [beq_self_eq_true] at this
        go_wp2_with fail
        go_quiet (fail)
        go_wp2_with fail
        go_ret
        exact ⟨_, rfl, ⟨fun _ => HM.out, fun _ => by omega⟩, below_drewN (HB.out.trans (hb.out.mono HB.out.size)) _⟩
      · have HW := hide (show ∀ j (h : j < l.length), j < k + 1 → l[j] ≠ (p1, p2) from fun j h hj => by
          by_cases e : j = k
          · subst e; exact heq
          · exact hw.out j h (by omega))
        rcases hq : l[k] with ⟨q1, q2⟩
        rw [hq] at c0 c1 heq
        clear hq
        have hq : ∀ W, (binOp .eql 55 (.agg #[.int .i64 p1, .int .i64 p2]) (.agg #[.int .i64 q1, .int .i64 q2])).run Try.prog W = .ok (.bool false) W := fun W => by
          have := eql_pr (p1, p2) (q1, q2) W
          rwa [beq_eq_false_iff_ne.2 (fun e => heq e.symm)] at this
        clear heq
        go_wp2_with fail
        go_quiet (fail)
        go_wp2_with fail
        go_roundw
        case rel => exact ⟨k + 1, by omega, by go_num, HW, hide (below_drewN hb.out _)⟩
        case measure => simp [intOf]; omega
    · obtain rfl : k = l.length := by omega
      have HN := hide (show ¬ (p1, p2) ∈ l from fun h => by
        obtain ⟨j, hj, e⟩ := List.getElem_of_mem h
        exact hw.out j hj hj e)
      go_wp2_with fail
      go_ret
      exact ⟨_, rfl, ⟨fun h => by omega, fun h => absurd h HN.out⟩, HB.out.trans (hb.out.mono HB.out.size)⟩

set_option maxRecDepth 10000 in
theorem contains_any (A : Option Addr) (l : List (Int × Int)) (cap : Nat) (p : Int × Int) (w : World) (hi : PrsIn ok ⟨A, l, cap⟩ w) : Calls Try.prog 41 #[.slice A l.length cap, prV p] w fun e w' => e = .returned (.bool (l.contains p)) ∧ Below w.heap.size w w' := by
  obtain ⟨p1, p2⟩ := p
  have HC := hide (index_any A l cap (p1, p2) _ (hi.below (below_new w (.cells #[.int .i64 p1, .int .i64 p2] 55))))
  have HB := hide (below_new w (.cells #[.int .i64 p1, .int .i64 p2] 55))
  have HT := hide (show (p1, p2) ∈ l → l.contains (p1, p2) = true from fun h => by simpa using h)
  have HF := hide (show ¬ (p1, p2) ∈ l → l.contains (p1, p2) = false from fun h => by simpa using h)
  generalize l.contains (p1, p2) = r at *
  clear hi
  go_enter Try.func41, Try.ntmps41
  go_wp2_with fail
  refine HC.out.mono ?_
  rintro e w1 ⟨k, rfl, hk, hb⟩
  have HK := hide (below_one HB.out hb)
  clear hb
  by_cases hm : (p1, p2) ∈ l
  · have h0 := hk.2 hm
    obtain rfl := HT.out hm
    clear hk hm
    go_wp2_with fail
    go_ret
    exact ⟨rfl, HK.out⟩
  · have h0 : decide (0 ≤ k) = false := decide_eq_false (mt hk.1 hm)
    obtain rfl := HF.out hm
    clear hk hm
    go_wp2_with fail
    go_ret
    exact ⟨rfl, HK.out⟩
end Go.Proofs.Ythmaakiibgdigaa
