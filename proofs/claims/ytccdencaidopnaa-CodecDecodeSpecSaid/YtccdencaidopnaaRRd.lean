/- The reference's reader: next. -/
import Derived.Test.YtccdencaidopnaaDecE
namespace Go.Proofs.Ytccdencaidopnaa
open Go.RowKit

/-- The reference's reader at its block: the bytes, where it is, whether it has met an end. -/
structure RR (R : Nat) (a : Option Addr) (l : List UInt8) (cap at' : Nat) (bd : Bool) (w : World) : Prop where
  block : w.heap[R]? = some (.cells #[.slice a l.length cap, .int .i64 (at' : Nat), .bool bd] 60 (0, 0))
  bytes : ∀ i (h : i < l.length), ∃ b o, a = some ⟨b, o, none⟩ ∧ b ≠ R ∧ b < w.heap.size ∧ w.cell? ⟨b, o + i, none⟩ = some (.int .u8 (l[i].toNat : Nat))

theorem RR.cells {R : Nat} {a : Option Addr} {l : List UInt8} {cap at' : Nat} {bd : Bool} {w : World} (h : RR R a l cap at' bd w) :
    w.cell? ⟨R, 0, none⟩ = some (.slice a l.length cap) ∧ w.cell? ⟨R, 1, none⟩ = some (.int .i64 (at' : Nat)) ∧ w.cell? ⟨R, 2, none⟩ = some (.bool bd) ∧ (∀ i, w.frozen? ⟨R, i, none⟩ = false) :=
  ⟨by rw [cell_of_row w R 0 _ _ _ h.block]; rfl, by rw [cell_of_row w R 1 _ _ _ h.block]; rfl, by rw [cell_of_row w R 2 _ _ _ h.block]; rfl, fun i => frozen_of_row w R i _ _ h.block⟩

theorem RR.lt {R : Nat} {a : Option Addr} {l : List UInt8} {cap at' : Nat} {bd : Bool} {w : World} (h : RR R a l cap at' bd w) : R < w.heap.size := (Array.getElem?_eq_some_iff.1 h.block).1

/-- Bytes that lie in another block stay. -/
theorem RR.move {R : Nat} {a : Option Addr} {l : List UInt8} {cap at' : Nat} {bd : Bool} {w w' : World} (h : RR R a l cap at' bd w) (hg : w.grownBy w' (some R)) : ∀ i (h : i < l.length), ∃ b o, a = some ⟨b, o, none⟩ ∧ b ≠ R ∧ b < w'.heap.size ∧ w'.cell? ⟨b, o + i, none⟩ = some (.int .u8 (l[i].toNat : Nat)) := by
  intro i hi
  obtain ⟨b, o, ha, hb, hlt, hc⟩ := h.bytes i hi
  refine ⟨b, o, ha, hb, Nat.lt_of_lt_of_le hlt hg.size, ?_⟩
  rw [World.cell?_of_block (a := ⟨b, o + i, none⟩) (hg.block b hlt (by intro e; injection e with e; exact hb e))]
  exact hc

theorem RR.alloc {R : Nat} {a : Option Addr} {l : List UInt8} {cap at' : Nat} {bd : Bool} {w : World} (h : RR R a l cap at' bd w) (o : Obj) : RR R a l cap at' bd (w.alloc o) :=
  ⟨by rw [Below.heap_alloc _ _ _ h.lt]; exact h.block, h.move (only_alloc (only_refl _ _) o)⟩
theorem RR.drew {R : Nat} {a : Option Addr} {l : List UInt8} {cap at' : Nat} {bd : Bool} {w : World} (h : RR R a l cap at' bd w) : RR R a l cap at' bd w.drew := ⟨h.block, h.bytes⟩

theorem RR.step {R : Nat} {a : Option Addr} {l : List UInt8} {cap at' : Nat} {bd : Bool} {w : World} (h : RR R a l cap at' bd w) (n : Nat) : RR R a l cap n bd (w.setCell ⟨R, 1, none⟩ (.int .i64 n)) ∧ w.grownBy (w.setCell ⟨R, 1, none⟩ (.int .i64 n)) (some R) := by
  have hg := only_setCell (a := w) (g := R) (only_refl w _) (p := ⟨R, 1, none⟩) (.inl rfl) (.int .i64 n)
  exact ⟨⟨by rw [heap_setCell_same w R 1 _ _ _ h.block]; rfl, h.move hg⟩, hg⟩
theorem RR.mark {R : Nat} {a : Option Addr} {l : List UInt8} {cap at' : Nat} {bd : Bool} {w : World} (h : RR R a l cap at' bd w) : RR R a l cap at' true (w.setCell ⟨R, 2, none⟩ (.bool true)) ∧ w.grownBy (w.setCell ⟨R, 2, none⟩ (.bool true)) (some R) := by
  have hg := only_setCell (a := w) (g := R) (only_refl w _) (p := ⟨R, 2, none⟩) (.inl rfl) (.bool true)
  exact ⟨⟨by rw [heap_setCell_same w R 2 _ _ _ h.block]; rfl, h.move hg⟩, hg⟩

set_option maxRecDepth 10000 in
set_option maxHeartbeats 800000 in
theorem next_end (R : Nat) (a : Option Addr) (l : List UInt8) (cap at' : Nat) (bd : Bool) (w : World) (hr : RR R a l cap at' bd w) (h : l.length ≤ at') :
    Calls Try.prog 53 #[.pointer (some ⟨R, 0, none⟩)] w fun e w' => e = .returned (.int .u8 0) ∧ RR R a l cap at' true w' ∧ w.grownBy w' (some R) := by
  have HM := hide hr.mark
  obtain ⟨c0, c1, c2, cf⟩ := hr.cells
  have hge : decide ((l.length : Int) ≤ at') = true := by simp; omega
  go_enter Try.func53, Try.ntmps53
  go_wp2_with fail
  go_region
  all_goals (
    go_wp2_with fail
    go_ret
    exact ⟨rfl, HM.out.1.drew, only_drew HM.out.2⟩)

set_option maxRecDepth 10000 in
set_option maxHeartbeats 800000 in
theorem next_ok (R : Nat) (a : Option Addr) (l : List UInt8) (cap at' : Nat) (bd : Bool) (w : World) (hr : RR R a l cap at' bd w) (hl : l.length ≤ 1000000000) (h : at' < l.length) :
    Calls Try.prog 53 #[.pointer (some ⟨R, 0, none⟩)] w fun e w' => e = .returned (.int .u8 (l[at'].toNat : Nat)) ∧ RR R a l cap (at' + 1) bd w' ∧ w.grownBy w' (some R) := by
  have HM := hide (hr.step (at' + 1))
  have hcast : ((at' + 1 : Nat) : Int) = (at' : Int) + 1 := by omega
  obtain ⟨c0, c1, c2, cf⟩ := hr.cells
  obtain ⟨b, o, rfl, hb, hlt, hc⟩ := hr.bytes at' h
  have hlt' : (at' : Int) < l.length := by omega
  have hge : decide ((l.length : Int) ≤ at') = false := by simp; omega
  go_enter Try.func53, Try.ntmps53
  go_wp2_with fail
  go_region
  go_wp2_with fail
  rw [hcast] at HM
  change Code.wp _ _ _ _ ((w.setCell ⟨R, 1, none⟩ (.int .i64 ((at' : Int) + 1))).drew)
  obtain ⟨d0, d1, d2, df⟩ := HM.out.1.cells
  obtain ⟨b2, o2, e2, hb2, hlt2, hc2⟩ := HM.out.1.bytes at' h
  simp only [Option.some.injEq, Addr.mk.injEq, and_true] at e2
  obtain ⟨rfl, rfl⟩ := e2
  rw [hcast] at d1
  generalize w.setCell ⟨R, 1, none⟩ (.int .i64 ((at' : Int) + 1)) = W1 at *
  clear c0 c1 c2 cf hc hge
  go_region
  go_wp2_with fail
  go_ret
  exact ⟨rfl, HM.out.1.drew.drew, only_drew (only_drew HM.out.2)⟩
end Go.Proofs.Ytccdencaidopnaa
