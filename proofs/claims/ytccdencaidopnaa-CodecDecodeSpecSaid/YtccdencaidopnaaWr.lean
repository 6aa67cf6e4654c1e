/- The writer of the program: newWriter, and what value, writeInt, writeText and writeList append to what is written so far. -/
import Derived.Test.YtccdencaidopnaaApp
import Derived.Test.YtccdencaidopnaaSize
import Derived.Deep.RegionLaw
import Derived.Deep.AppendLies
import Derived.StillTailTactics
namespace Go.Proofs.Ytccdencaidopnaa
open Go.RowKit

theorem run_make_rowN {P : Program} (t e : TypeId) (i : TypeInfo) (z : Value) (ht : P.underlying t = some (.slice e)) (hi : P.info? e = some i) (hz : i.zero = some z)
    (kl kc : IntKind) (n c : Nat) (hnc : n ≤ c) (hbytes : i.bytes * c ≤ 281474976710656) (h63 : c ≤ 9223372036854775807) (w : World) :
    (Instr.makeSlice t (.int kl (n : Int)) (.int kc (c : Int))).run P w = .ok (.slice (some ⟨w.heap.size, 0, none⟩) n c) (w.alloc (.cells (madeCells z.cells (c * i.size)) e)) := by
  have hb : (i.bytes : Int) * (c : Int) ≤ 281474976710656 := by
    have h : ((i.bytes * c : Nat) : Int) ≤ 281474976710656 := by omega
    rwa [Int.natCast_mul] at h
  have hr := run_make (P := P) w t e i z ht hi hz kl kc n c (by omega) (by omega) hb (by omega)
  simp only [Int.toNat_natCast] at hr
  exact hr

/-- The writer's block: what is written so far, and the four functions. -/
def wtr (v : Value) : Obj := .cells #[v, .nilFunc, .func (.func 40) #[] #[], .func (.func 41) #[] #[], .func (.func 42) #[] #[]] 54 (0, 0)

set_option maxHeartbeats 400000 in
theorem newWriter_any (n : Nat) (w : World) (hn : n ≤ 4294967296) : Calls Try.prog 26 #[.int .i64 n] w fun e w' =>
    ∃ B v, e = .returned (.pointer (some ⟨B, 0, none⟩)) ∧ w.heap.size ≤ B ∧ w'.heap[B]? = some (wtr v) ∧ w'.ownsRow w.heap.size 5 1 v 0 [] ∧ Below w.heap.size w w' := by
  obtain ⟨i0, hi, hz0, hz1, hz2⟩ := info_parts Try.info5
  have hmk : ∀ W : World, (Instr.makeSlice 27 (.int .i64 0) (.int .i64 n)).run Try.prog W = .ok (.slice (some ⟨W.heap.size, 0, none⟩) 0 n) (W.alloc (.cells (madeCells #[.int .u8 0] n) 5)) := by
    intro W
    have := run_make_rowN (P := Try.prog) 27 5 i0 (.int .u8 0) Try.underlying27 hi hz0 .i64 .i64 0 n (by omega) (by rw [hz2]; omega) (by omega) W
    rw [hz1, Nat.mul_one] at this
    exact this
  clear hi hz0 hz1 hz2
  go_enter Try.func26, Try.ntmps26
  go_wp2_with fail
  go_ret
  refine ⟨w.heap.size + 1, .slice (some ⟨w.heap.size, 0, none⟩) 0 n, rfl, by omega, ?_, ?_, ?_⟩
  · rw [show w.heap.size + 1 = (w.alloc (Obj.cells (madeCells #[Value.int .u8 0] n) 5)).heap.size by simp]
    exact heap_alloc_new _ _
  · exact (World.ownsRow_made w _ n (Nat.le_refl _) (by unfold maxLen; omega) (by simp [madeCells])).alloc _
  · exact (below_new _ _).alloc (by simp) _

/-- The writer as it stands: its block 'B', what is written so far. -/
structure WS (base B : Nat) (v : Value) (xs : List UInt8) (w : World) : Prop where
  at_ : base ≤ B
  block : w.heap[B]? = some (wtr v)
  own : w.ownsRow base 5 1 v xs.length (bs xs)

theorem WS.ne {base B : Nat} {v : Value} {xs : List UInt8} {w : World} (h : WS base B v xs w) : v.ownBlock ≠ some B := by
  intro e
  rcases h.own.2 with ⟨rfl, _⟩ | ⟨g, cap, cur, rfl, _, hg, _⟩
  · simp [Value.ownBlock] at e
  · simp [Value.ownBlock] at e
    subst e
    rw [h.block] at hg
    injection hg with hg
    injection hg with _ h2
    cases h2

theorem WS.lt {base B : Nat} {v : Value} {xs : List UInt8} {w : World} (h : WS base B v xs w) : B < w.heap.size := (Array.getElem?_eq_some_iff.1 h.block).1

theorem WS.cell {base B : Nat} {v : Value} {xs : List UInt8} {w : World} (h : WS base B v xs w) : w.cell? ⟨B, 0, none⟩ = some v ∧ w.frozen? ⟨B, 0, none⟩ = false ∧
    w.cell? ⟨B, 2, none⟩ = some (.func (.func 40) #[] #[]) ∧ w.cell? ⟨B, 3, none⟩ = some (.func (.func 41) #[] #[]) ∧ w.cell? ⟨B, 4, none⟩ = some (.func (.func 42) #[] #[]) :=
  ⟨by rw [cell_of_row w B 0 _ _ _ h.block]; rfl, frozen_of_row w B 0 _ _ h.block, by rw [cell_of_row w B 2 _ _ _ h.block]; rfl, by rw [cell_of_row w B 3 _ _ _ h.block]; rfl, by rw [cell_of_row w B 4 _ _ _ h.block]; rfl⟩

theorem WS.alloc {base B : Nat} {v : Value} {xs : List UInt8} {w : World} (h : WS base B v xs w) (o : Obj) : WS base B v xs (w.alloc o) :=
  ⟨h.at_, by rw [Below.heap_alloc _ _ _ h.lt]; exact h.block, h.own.alloc o⟩

theorem WS.drew {base B : Nat} {v : Value} {xs : List UInt8} {w : World} (h : WS base B v xs w) : WS base B v xs w.drew := ⟨h.at_, h.block, h.own⟩

/-- What is written grows, and the new slice is stored into the writer. -/
theorem WS.store {base B : Nat} {v v' : Value} {xs ys : List UInt8} {w w' : World} (h : WS base B v xs w) (hk : Keeps base w w') (hown : w'.ownsRow base 5 1 v' ys.length (bs ys)) :
    WS base B v' ys (w'.setCell ⟨B, 0, none⟩ v') ∧ Below base w (w'.setCell ⟨B, 0, none⟩ v') := by
  have hb := hk.other B _ 54 (by decide) h.block
  have hne : v'.ownBlock ≠ some B := by
    intro e
    rcases hown.2 with ⟨rfl, _⟩ | ⟨g, cap, cur, rfl, _, hg, _⟩
    · simp [Value.ownBlock] at e
    · simp [Value.ownBlock] at e
      subst e
      rw [hb] at hg
      injection hg with hg
      injection hg with _ h2
      cases h2
  refine ⟨⟨h.at_, ?_, ?_⟩, hk.below.setCell h.at_ _⟩
  · rw [heap_setCell_same w' B 0 _ _ _ hb]; rfl
  · exact hown.kept (row := some B) ⟨rfl, rfl, rfl, by simp [World.setCell], fun k _ hk => Below.heap_setCell _ _ _ _ (by intro e; exact hk (by rw [e]))⟩ (.inr hne)

/-- Behind an append to what is written, ahead of the store. -/
theorem WS.after {base B : Nat} {v : Value} {xs : List UInt8} {w w1 : World} (h : WS base B v xs w) (hg : w.grownBy w1 v.ownBlock) :
    w1.cell? ⟨B, 0, none⟩ = some v ∧ w1.frozen? ⟨B, 0, none⟩ = false := by
  have hb : w1.heap[B]? = some (wtr v) := (hg.block B h.lt (Ne.symm h.ne)).trans h.block
  exact ⟨by rw [cell_of_row w1 B 0 _ _ _ hb]; rfl, frozen_of_row w1 B 0 _ _ hb⟩

/-- A boxed value. -/
def Box (w : World) (X : Nat) (t : VT) : Prop := w.heap[X]? = some (.cells #[.int .i64 t.kind, .int .i64 t.num, .string t.str, t.sl] 24 (0, 0))
theorem Box.cells {w : World} {X : Nat} {t : VT} (h : Box w X t) : w.cell? ⟨X, 0, none⟩ = some (.int .i64 t.kind) ∧ w.cell? ⟨X, 1, none⟩ = some (.int .i64 t.num) ∧ w.cell? ⟨X, 2, none⟩ = some (.string t.str) ∧ w.cell? ⟨X, 3, none⟩ = some t.sl :=
  ⟨by rw [cell_of_row w X 0 _ _ _ h]; rfl, by rw [cell_of_row w X 1 _ _ _ h]; rfl, by rw [cell_of_row w X 2 _ _ _ h]; rfl, by rw [cell_of_row w X 3 _ _ _ h]; rfl⟩

/-- All that stands while a value is written: the writer, the value, its box. -/
structure St (base B X : Nat) (v : Value) (xs : List UInt8) (t : VT) (w0 w : World) : Prop where
  ws : WS base B v xs w
  hin : t.In w
  box : Box w X t
  below : Below base w0 w
  size : base ≤ w.heap.size

theorem St.start {base B : Nat} {v : Value} {xs : List UInt8} {t : VT} {w : World} (h : WS base B v xs w) (hin : t.In w) (hb : base ≤ w.heap.size) :
    St base B w.heap.size v xs t w (w.alloc (.cells #[.int .i64 t.kind, .int .i64 t.num, .string t.str, t.sl] 24)) :=
  ⟨h.alloc _, hin.alloc _, heap_alloc_new w _, (Below.refl _ _).alloc hb _, by simp; omega⟩

theorem St.alloc {base B X : Nat} {v : Value} {xs : List UInt8} {t : VT} {w0 w : World} (h : St base B X v xs t w0 w) (o : Obj) : St base B X v xs t w0 (w.alloc o) :=
  ⟨h.ws.alloc o, h.hin.alloc o, by unfold Box; rw [Below.heap_alloc _ _ _ (Array.getElem?_eq_some_iff.1 h.box).1]; exact h.box, h.below.alloc h.size o, by have := h.size; simp; omega⟩
theorem St.drew {base B X : Nat} {v : Value} {xs : List UInt8} {t : VT} {w0 w : World} (h : St base B X v xs t w0 w) : St base B X v xs t w0 w.drew :=
  ⟨h.ws.drew, h.hin.below (B := w.heap.size) (Below.refl _ _).drew (Nat.le_refl _), h.box, h.below.drew, h.size⟩

theorem St.store {base B X : Nat} {v v' : Value} {xs ys : List UInt8} {t : VT} {w0 w w' : World} (h : St base B X v xs t w0 w) (hX : X ≠ B) (hstay : ∀ W, Below base w W → t.In W) (hk : Keeps base w w') (hown : w'.ownsRow base 5 1 v' ys.length (bs ys)) :
    St base B X v' ys t w0 (w'.setCell ⟨B, 0, none⟩ v') := by
  obtain ⟨a, b⟩ := h.ws.store hk hown
  have hx := hk.other X _ 24 (by decide) h.box
  exact ⟨a, hstay _ b, by unfold Box; rw [Below.heap_setCell _ _ _ _ (by simpa using hX)]; exact hx, h.below.trans b, Nat.le_trans h.size b.size⟩

end Go.Proofs.Ytccdencaidopnaa
