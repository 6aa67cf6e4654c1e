/- slices.Chunk over bytes, by 64: what comes are the blocks, in order. -/
import Derived.RangeFuncBox
import Derived.RangeFuncCalls
import Derived.RangeFuncLeaves
import Derived.RangeFuncWrites
import Derived.Shelf.Abstract
import Derived.WalkKit
import Derived.OwnWalkIn
import Derived.TacticsInMore
import Derived.LoopNIn
import Derived.LoopIn
import Derived.RegionIn
import Derived.Sort.QuietIn
import Derived.Sort.QuietTacIn
import Derived.Test.YtalgceplcahgbaaDoorBase
namespace Go.Proofs.YtalgceplcahgbaaDoor
open Go.RowKit Go.Shelf

attribute [local go_sem] Oper.semAt_some

/-- All blocks below 'n' but 'S' are kept. -/
def Kx (S n : Nat) (W W' : World) : Prop := W.heap.size ≤ W'.heap.size ∧ ∀ k, k < n → k ≠ S → W'.heap[k]? = W.heap[k]?
theorem Kx.refl (S n : Nat) (W : World) : Kx S n W W := ⟨Nat.le_refl _, fun _ _ _ => rfl⟩
theorem Kx.trans {S n : Nat} {A B C : World} (h : Kx S n A B) (k : Kx S n B C) : Kx S n A C := ⟨Nat.le_trans h.1 k.1, fun i hi hs => (k.2 i hi hs).trans (h.2 i hi hs)⟩
theorem Kx.put {S n : Nat} (W : World) (l : Nat) (o : Obj) (h : n ≤ l) : Kx S n W (W.putObj l o) := ⟨by simp [World.putObj], fun k hk _ => World.putObj_heap_other (by omega)⟩

/-- The first k indices. -/
def ups {m : Nat} (k : Nat) : List (Fin m) := (List.finRange m).take k
theorem ups_len {m k : Nat} (h : k ≤ m) : (ups (m := m) k).length = k := by simp [ups, h]
theorem ups_succ {m k : Nat} (h : k < m) : ups (m := m) (k + 1) = ups k ++ [⟨k, h⟩] := by
  unfold ups
  rw [List.take_succ_eq_append_getElem (by simpa using h)]
  simp

/-- What comes: block j. -/
def encB (b off : Nat) {m : Nat} (j : Fin m) : Array Value := #[.slice (some ⟨b, off + 64 * j.1, none⟩) 64 64]

set_option maxRecDepth 100000 in
set_option maxHeartbeats 1000000 in
theorem chunk1_in (n : Nat) (hn : 1 ≤ n) (l Bs Bn S n₀ b off m cap : Nat) (hm : m ≤ 1000000000) (hcap : 64 * m ≤ cap)
    (hs : Bs < n₀ ∧ Bs ≠ S) (hn' : Bn < n₀ ∧ Bn ≠ S) (J Jx : List (Fin m) → World → Prop)
    (hY : ∀ pre x W, J pre W → pre.length < m → YieldAt Fence.wide (n - 1) Tryd.prog l (encB b off x) W fun e W' =>
      (e = .returned (.bool true) ∧ J (pre ++ [x]) W' ∧ Kx S n₀ W W') ∨ (e = .returned (.bool false) ∧ Jx (pre ++ [x]) W'))
    (B0 : Nat) (hJ : AbidesFrom B0 J) (W : World) (hBs : W.cell? ⟨Bs, 0, none⟩ = some (.slice (some ⟨b, off, none⟩) (64 * m : Nat) cap)) (hBn : W.cell? ⟨Bn, 0, none⟩ = some (.int .i64 64)) (h0 : J [] W) :
    CallsIn Fence.wide n Tryd.prog 75 #[.func (.yield l) #[] #[], .pointer (some ⟨Bs, 0, none⟩), .pointer (some ⟨Bn, 0, none⟩)] W fun e W' => (∃ v, e = .returned v) ∧
      ((∃ ys, ys = ups m ∧ J ys W') ∨ (∃ pre, (∃ k, k ≤ m ∧ pre = ups k) ∧ Jx pre W')) := by
  refine callsIn_of_wp Tryd.func75 rfl trivial ?_ rfl
  simp only [Tryd.ntmps75, List.size_toArray, List.length_cons, List.length_nil, Nat.reduceAdd, Nat.reduceSub, Array.replicate_succ, Array.replicate_zero, List.push_toArray, List.append_toArray, List.nil_append, List.cons_append]
  gi_wp2
  gi_loopw [4] (fun i wr => ∃ k : Nat, k ≤ m ∧ i = .int .i64 (64 * (k : Int)) ∧ J (ups k) wr ∧ Kx S n₀ W wr) (fun i _ => 64 * m - (intOf i).toNat)
  case atStart => exact ⟨0, Nat.zero_le _, rfl, by simpa [ups] using h0, Kx.refl _ _ _⟩
  case round =>
    obtain ⟨k, hk, rfl, hJs, hK⟩ := hrel
    have c1 : wr.cell? ⟨Bs, 0, none⟩ = some (.slice (some ⟨b, off, none⟩) (64 * m : Nat) cap) := (World.cell?_of_block (a := ⟨Bs, 0, none⟩) (hK.2 Bs hs.1 hs.2)).trans hBs
    have c2 : wr.cell? ⟨Bn, 0, none⟩ = some (.int .i64 64) := (World.cell?_of_block (a := ⟨Bn, 0, none⟩) (hK.2 Bn hn'.1 hn'.2)).trans hBn
    by_cases hlt : k < m
    · have hlt' : (k : Int) < m := by omega
      gi_wp2
      gi_quiet (fail)
      have hJn : J (ups k) (wr.drewN nq) := hJ _ wr _ none hJs ⟨rfl, rfl, rfl, Nat.le_refl _, fun _ _ _ => rfl⟩ (fun r e => by cases e)
      have hKn : Kx S n₀ W (wr.drewN nq) := hK
      generalize wr.drewN nq = w1 at *
      obtain ⟨fn, tmps, assign, body, hy, hR⟩ := hY (ups k) ⟨k, hlt⟩ w1 hJn (by rw [ups_len hk]; exact hlt)
      unfold encB at hy
      dsimp only at hy
      clear c1 c2
      have c1 : w1.cell? ⟨Bs, 0, none⟩ = some (.slice (some ⟨b, off, none⟩) (64 * m : Nat) cap) := (World.cell?_of_block (a := ⟨Bs, 0, none⟩) (hKn.2 Bs hs.1 hs.2)).trans hBs
      gi_wp2
      refine hR.mono ?_
      rintro e W3 (⟨rfl, hJ3, hk3⟩ | ⟨rfl, hJx3⟩)
      · have hK3 := hKn.trans hk3
        have c2 : W3.cell? ⟨Bn, 0, none⟩ = some (.int .i64 64) := (World.cell?_of_block (a := ⟨Bn, 0, none⟩) (hK3.2 Bn hn'.1 hn'.2)).trans hBn
        gi_wp2
        go_roundw
        case rel => exact ⟨k + 1, by omega, by go_num, by rw [ups_succ hlt]; exact hJ3, hK3⟩
        case measure => simp [intOf]; omega
      · gi_wp2
        refine bodyPost_ret (results_none rfl _ _ _) rfl ?_
        exact ⟨⟨_, rfl⟩, .inr ⟨_, ⟨k + 1, by omega, (ups_succ hlt).symm⟩, hJx3⟩⟩
    · have hge : (m : Int) ≤ k := by omega
      gi_wp2
      go_end0
      obtain rfl : k = m := by omega
      exact ⟨⟨_, rfl⟩, .inl ⟨_, rfl, hJs⟩⟩

set_option maxRecDepth 100000 in
set_option maxHeartbeats 1000000 in
/-- No bytes: no round. -/
theorem chunk1_e (n : Nat) (l Bs Bn : Nat) (a : Option Addr) (cap : Nat) {β : Type} (J : List β → World → Prop) (W : World) (hBs : W.cell? ⟨Bs, 0, none⟩ = some (.slice a 0 cap)) (h0 : J [] W) :
    CallsIn Fence.wide n Tryd.prog 75 #[.func (.yield l) #[] #[], .pointer (some ⟨Bs, 0, none⟩), .pointer (some ⟨Bn, 0, none⟩)] W fun e W' => (∃ v, e = .returned v) ∧ J [] W' := by
  refine callsIn_of_wp Tryd.func75 rfl trivial ?_ rfl
  simp only [Tryd.ntmps75, List.size_toArray, List.length_cons, List.length_nil, Nat.reduceAdd, Nat.reduceSub, Array.replicate_succ, Array.replicate_zero, List.push_toArray, List.append_toArray, List.nil_append, List.cons_append]
  gi_wp2
  gi_loopw [4] (fun i wr => i = .int .i64 0 ∧ wr = W) (fun _ _ => 0)
  case atStart => exact ⟨rfl, rfl⟩
  case round =>
    obtain ⟨rfl, rfl⟩ := hrel
    gi_wp2
    go_end0
    exact ⟨⟨_, rfl⟩, h0⟩

/-- Bytes as a slice: m blocks of 64 at a place, or none. -/
def Chunks (a : Option Addr) (len cap b off m : Nat) : Prop := (len = 0 ∧ m = 0) ∨ (a = some ⟨b, off, none⟩ ∧ len = 64 * m ∧ len ≤ cap)

theorem chunk_stops (n : Nat) (hn : 1 ≤ n) (Bs Bn S n₀ b off m len cap : Nat) (a : Option Addr) (hm : m ≤ 1000000000) (hA : Chunks a len cap b off m) (w : World)
    (hs : Bs < n₀ ∧ Bs ≠ S) (hn' : Bn < n₀ ∧ Bn ≠ S) (hw : Bs < w.heap.size ∧ Bn < w.heap.size)
    (hBs : w.cell? ⟨Bs, 0, none⟩ = some (.slice a len cap)) (hBn : w.cell? ⟨Bn, 0, none⟩ = some (.int .i64 64)) :
    SeqStopsK Fence.wide n Tryd.prog 75 #[.pointer (some ⟨Bs, 0, none⟩), .pointer (some ⟨Bn, 0, none⟩)] (encB b off (m := m)) (Kx S n₀) (fun ys => ys = ups m) (fun pre => ∃ k, k ≤ m ∧ pre = ups k) m w := fun l J Jx W hW hJ _ hY h0 => by
  have c1 := (hW.cell (p := ⟨Bs, 0, none⟩) hw.1).trans hBs
  have c2 := (hW.cell (p := ⟨Bn, 0, none⟩) hw.2).trans hBn
  rcases hA with ⟨rfl, rfl⟩ | ⟨rfl, rfl, hle⟩
  · exact (chunk1_e n l Bs Bn a cap J W c1 h0).mono fun e W' ⟨he, hj⟩ => ⟨he, .inl ⟨_, rfl, hj⟩⟩
  · exact chunk1_in n hn l Bs Bn S n₀ b off m cap hm hle hs hn' J Jx hY _ hJ W c1 c2 h0

set_option maxHeartbeats 400000 in
theorem chunk_any (a : Option Addr) (len cap : Nat) (w : World) :
    Calls Tryd.prog 48 #[.slice a len cap, .int .i64 64] w fun e w' => e = .returned (.func (.func 75) #[] #[.pointer (some ⟨w.heap.size, 0, none⟩), .pointer (some ⟨w.heap.size + 1, 0, none⟩)]) ∧ w' = (w.alloc (.cells #[.slice a len cap] 22)).alloc (.cells #[.int .i64 64] 3) := by
  go_enter Tryd.func48, Tryd.ntmps48
  go_wp2_with fail
  go_ret
  exact ⟨rfl, rfl⟩
end Go.Proofs.YtalgceplcahgbaaDoor
