/- slices.Backward over writes: what comes are the writes, from the last to the first. -/
import Derived.RangeFuncBox
import Derived.RangeFuncCalls
import Derived.RangeFuncLeaves
import Derived.RangeFuncWrites
import Derived.RangeFuncNested
import Derived.Shelf.Abstract
import Derived.WalkKit
import Derived.OwnWalkIn
import Derived.TacticsInMore
import Derived.LoopNIn
import Derived.LoopIn
import Derived.RegionIn
import Derived.Sort.QuietIn
import Derived.Sort.QuietTacIn
import Derived.Test.YtfhfmnlkpcmgfaaRRea
namespace Go.Proofs.Ytfhfmnlkpcmgfaa
open Go.RowKit Go.Shelf
variable {n0 : Nat}

attribute [local go_sem] Oper.semAt_some

/-- The last k indices, from the last on. -/
def downs {m : Nat} (k : Nat) : List (Fin m) := (List.finRange m).reverse.take k
theorem downs_len {m k : Nat} (h : k ≤ m) : (downs (m := m) k).length = k := by simp [downs, h]
theorem downs_next {m j : Nat} (h : j < m) : downs (m := m) (m - j) = downs (m - (j + 1)) ++ [⟨j, h⟩] := by
  unfold downs
  rw [show m - j = (m - (j + 1)) + 1 by omega, List.take_succ_eq_append_getElem (by simp; omega)]
  congr 2
  rw [List.getElem_reverse]
  simp
  omega
def encW (ps : List Wr) (x : Fin ps.length) : Array Value := #[.int .i64 (x.1 : Nat), (ps[x.1]).v]

set_option maxRecDepth 100000 in
set_option maxHeartbeats 1000000 in
theorem back_in (n : Nat) (_hn : 1 ≤ n) (l Bs : Nat) (A : Option Addr) (ps : List Wr) (cap : Nat) (W0 : World) (hP : WrsIn n0 A ps cap W0) (hlen : ps.length ≤ 4096) (hs : Bs < W0.heap.size) (J Jx : List (Fin ps.length) → World → Prop)
    (hY : ∀ pre x W, J pre W → pre.length < ps.length → YieldAt Fence.wide (n - 1) Try.prog l (encW ps x) W fun e W' =>
      (e = .returned (.bool true) ∧ J (pre ++ [x]) W' ∧ Below W0.heap.size W W') ∨ (e = .returned (.bool false) ∧ Jx (pre ++ [x]) W'))
    (W : World) (hW : Below W0.heap.size W0 W) (hBs : W.cell? ⟨Bs, 0, none⟩ = some (.slice A ps.length cap)) (h0 : J [] W) :
    CallsIn Fence.wide n Try.prog 39 #[.func (.yield l) #[] #[], .pointer (some ⟨Bs, 0, none⟩)] W fun e W' => (∃ v, e = .returned v) ∧
      ((∃ ys, ys = downs ps.length ∧ J ys W') ∨ (∃ pre, (∃ k, k ≤ ps.length ∧ pre = downs k) ∧ Jx pre W')) := by
  have HP := hide hP
  clear hP
  refine callsIn_of_wp Try.func39 rfl trivial ?_ rfl
  simp only [Try.ntmps39, List.size_toArray, List.length_cons, List.length_nil, Nat.reduceAdd, Nat.reduceSub, Array.replicate_succ, Array.replicate_zero, List.push_toArray, List.append_toArray, List.nil_append, List.cons_append]
  gi_wp2
  gi_loopw [3] (fun i wr => ∃ j : Nat, j ≤ ps.length ∧ i = .int .i64 ((j : Int) - 1) ∧ J (downs (ps.length - j)) wr ∧ Below W0.heap.size W wr) (fun i _ => (intOf i + 1).toNat)
  case atStart => exact ⟨ps.length, Nat.le_refl _, rfl, by simpa [downs] using h0, Below.refl _ _⟩
  case round =>
    obtain ⟨j, hj, rfl, hJs, hK⟩ := hrel
    have c1 : wr.cell? ⟨Bs, 0, none⟩ = some (.slice A ps.length cap) := (hK.cell (p := ⟨Bs, 0, none⟩) hs).trans hBs
    cases j with
    | zero =>
      have e : ((0 : Nat) : Int) - 1 = -1 := rfl
      rw [e]
      gi_wp2
      go_end0
      exact ⟨⟨_, rfl⟩, .inl ⟨_, rfl, by simpa using hJs⟩⟩
    | succ j =>
      have e : ((j + 1 : Nat) : Int) - 1 = j := by omega
      rw [e]
      have HDN := hide (downs_next (m := ps.length) (j := j) (by omega))
      obtain ⟨b, o, rfl, hb, d0, d1⟩ := (HP.out.below (hW.trans hK)).at (k := j) (by omega)
      obtain ⟨fn, tmps, assign, body, hy, hR⟩ := hY (downs (ps.length - (j + 1))) ⟨j, by omega⟩ wr hJs (by rw [downs_len (by omega)]; omega)
      unfold encW at hy
      dsimp only at hy
      clear e
      gi_wp2
      refine hR.mono ?_
      rintro e W3 (⟨rfl, hJ3, hk3⟩ | ⟨rfl, hJx3⟩)
      · gi_wp2
        go_roundw
        case rel => exact ⟨j, by omega, by go_num, by rw [HDN.out]; exact hJ3, hK.trans hk3⟩
        case measure => simp [intOf]
      · gi_wp2
        refine bodyPost_ret (results_none rfl _ _ _) rfl ?_
        exact ⟨⟨_, rfl⟩, .inr ⟨_, ⟨ps.length - j, by omega, HDN.out.symm⟩, hJx3⟩⟩
end Go.Proofs.Ytfhfmnlkpcmgfaa
