/- What is kept of memory: all but one block and what is new; blocks of words; blocks of bytes. -/
import Derived.Test.YtalgceplcahgbaaDoorWord
import Derived.Laws.Rows
import Derived.Laws.Tables
import Derived.Deep.MidRow
import Derived.Deep.WholeRow
import Derived.Below
namespace Go.Proofs.YtalgceplcahgbaaDoor
open Go.RowKit

theorem only_refl (w : World) (r : Option Nat) : w.grownBy w r := ⟨rfl, rfl, rfl, Nat.le_refl _, fun _ _ _ => rfl⟩
theorem only_trans {a b c : World} {r : Option Nat} (h : a.grownBy b r) (k : b.grownBy c r) : a.grownBy c r :=
  ⟨k.os.trans h.os, k.tape.trans h.tape, k.output.trans h.output, Nat.le_trans h.size k.size, fun i hi hr => (k.block i (Nat.lt_of_lt_of_le hi h.size) hr).trans (h.block i hi hr)⟩
theorem only_drewN {a w : World} {row : Option Nat} (h : a.grownBy w row) (n : Nat) : a.grownBy (w.drewN n) row := ⟨h.os, h.tape, h.output, h.size, h.block⟩
theorem only_drew {a w : World} {row : Option Nat} (h : a.grownBy w row) : a.grownBy w.drew row := ⟨h.os, h.tape, h.output, h.size, h.block⟩
theorem only_alloc {a w : World} {row : Option Nat} (h : a.grownBy w row) (o : Obj) : a.grownBy (w.alloc o) row :=
  ⟨h.os, h.tape, h.output, Nat.le_trans h.size (by simp), fun i hi hr => by rw [Below.heap_alloc _ _ _ (Nat.lt_of_lt_of_le hi h.size)]; exact h.block i hi hr⟩
theorem only_setCell {a w : World} {g : Nat} (h : a.grownBy w (some g)) {p : Addr} (hp : p.block = g ∨ a.heap.size ≤ p.block) (u : Value) : a.grownBy (w.setCell p u) (some g) :=
  ⟨h.os, h.tape, h.output, Nat.le_trans h.size (by simp [World.setCell]), fun i hi hr => by
    rw [Below.heap_setCell _ _ _ _ (by rcases hp with hp | hp <;> (intro e; subst e); exact hr (by rw [hp]); omega)]
    exact h.block i hi hr⟩
theorem only_of_below {a w : World} (h : Below a.heap.size a w) (row : Option Nat) : a.grownBy w row := ⟨h.os, h.tape, h.output, h.size, fun i hi _ => h.block i hi⟩
theorem below_of_only {a b w : World} {g : Nat} (h : Below a.heap.size a b) (k : b.grownBy w (some g)) (hg : a.heap.size ≤ g) : Below a.heap.size a w :=
  ⟨k.os.trans h.os, k.tape.trans h.tape, k.output.trans h.output, Nat.le_trans h.size k.size, fun i hi => (k.block i (Nat.lt_of_lt_of_le hi h.size) (by intro e; injection e with e; omega)).trans (h.block i hi)⟩
theorem only_none {a w : World} (h : a.grownBy w none) : Below a.heap.size a w := ⟨h.os, h.tape, h.output, h.size, fun i hi => h.block i hi (by simp)⟩
theorem below_one {a w w' : World} (h : Below a.heap.size a w) (hb : Below w.heap.size w w') : Below a.heap.size a w' := h.trans (hb.mono h.size)
theorem below_new (w : World) (o : Obj) : Below w.heap.size w (w.alloc o) := (Below.refl _ _).alloc (Nat.le_refl _) _
theorem below_drewN {B : Nat} {a w : World} (h : Below B a w) (n : Nat) : Below B a (w.drewN n) := ⟨h.os, h.tape, h.output, h.size, h.block⟩
theorem below_setRow {B : Nat} {a w : World} (h : Below B a w) {g : Nat} (hg : B ≤ g) (cs : Array Value) : Below B a (w.setRow g cs) :=
  ⟨h.os, h.tape, h.output, by simpa using h.size, fun i hi => (setRow_other w g i cs (by omega)).trans (h.block i hi)⟩
theorem only_setRow {a w : World} {g : Nat} (h : a.grownBy w (some g)) {x : Nat} (hp : x = g ∨ a.heap.size ≤ x) (cs : Array Value) : a.grownBy (w.setRow x cs) (some g) :=
  ⟨h.os, h.tape, h.output, by simpa using h.size, fun i hi hr => (setRow_other w x i cs (by rcases hp with hp | hp <;> (intro e; subst e); exact hr (by rw [hp]); omega)).trans (h.block i hi hr)⟩
theorem cell_lt {w : World} {a : Addr} {v : Value} (h : w.cell? a = some v) : a.block < w.heap.size := by
  unfold World.cell? at h
  split at h
  · rename_i hb; exact (Array.getElem?_eq_some_iff.1 hb).1
  · cases h
theorem heap_drewN (w : World) (n : Nat) : (w.drewN n).heap = w.heap := rfl

/-- A block of cells. -/
def Blk (w : World) (X T : Nat) (cs : List Value) : Prop := w.heap[X]? = some (.cells cs.toArray T (0, 0))
section
variable {w : World} {X T : Nat} {cs : List Value}
theorem Blk.lt (h : Blk w X T cs) : X < w.heap.size := (Array.getElem?_eq_some_iff.1 h).1
theorem Blk.cell (h : Blk w X T cs) (i : Nat) : w.cell? ⟨X, i, none⟩ = cs[i]? := by rw [cell_of_row w X i _ _ _ h]; simp
theorem Blk.free (h : Blk w X T cs) (i : Nat) : w.frozen? ⟨X, i, none⟩ = false := frozen_of_row w X i _ _ h
theorem Blk.new (w : World) (T : Nat) (cs : List Value) : Blk (w.alloc (.cells cs.toArray T)) w.heap.size T cs := heap_alloc_new w _
theorem Blk.alloc (h : Blk w X T cs) (o : Obj) : Blk (w.alloc o) X T cs := (Below.heap_alloc _ _ _ h.lt).trans h
theorem Blk.drewN (h : Blk w X T cs) (n : Nat) : Blk (w.drewN n) X T cs := h
theorem Blk.drew (h : Blk w X T cs) : Blk w.drew X T cs := h
theorem Blk.set (h : Blk w X T cs) (i : Nat) (v : Value) : Blk (w.setCell ⟨X, i, none⟩ v) X T (cs.set i v) := by
  have := heap_setCell_same w X i _ T v h
  rw [Blk, this]; simp
theorem Blk.apart (h : Blk w X T cs) {p : Addr} (hp : X ≠ p.block) (v : Value) : Blk (w.setCell p v) X T cs := (heap_setCell_other w p X v hp).trans h
theorem Blk.only (h : Blk w X T cs) {w' : World} {g : Nat} (hg : w.grownBy w' (some g)) (hne : X ≠ g) : Blk w' X T cs := (hg.block X h.lt (by intro e; injection e with e; exact hne e)).trans h
theorem Blk.below (h : Blk w X T cs) {w' : World} {B : Nat} (hb : Below B w w') (hX : X < B) : Blk w' X T cs := (hb.block X hX).trans h
theorem Blk.row (h : Blk w X T cs) (ds : List Value) : Blk (w.setRow X ds.toArray) X T ds := setRow_heap w X _ _ T _ h
end

/-- Words as cells. -/
def uc (xs : List U32) : List Value := xs.map uv
theorem uc_get {xs : List U32} {i : Nat} (h : i < xs.length) : (uc xs)[i]? = some (uv xs[i]) := by simp [uc, h]
theorem uc_set (xs : List U32) (i : Nat) (x : U32) : (uc xs).set i (uv x) = uc (xs.set i x) := by simp [uc, List.map_set]
theorem uc_one (xs : List U32) : ∀ v ∈ uc xs, v.oneCell' = true := by
  intro v hv
  obtain ⟨x, _, rfl⟩ := List.mem_map.1 hv
  rfl
theorem uc_len (xs : List U32) : (uc xs).length = xs.length := by simp [uc]

/-- Bytes as cells. -/
def bc (l : List UInt8) : List Value := l.map fun c => .int .u8 (c.toNat : Nat)
theorem bc_get {l : List UInt8} {i : Nat} (h : i < l.length) : (bc l)[i]? = some (.int .u8 (l[i].toNat : Nat)) := by simp [bc, h]
theorem bc_set (l : List UInt8) (i : Nat) (x : UInt8) : (bc l).set i (.int .u8 (x.toNat : Nat)) = bc (l.set i x) := by simp [bc, List.map_set]
theorem bc_len (l : List UInt8) : (bc l).length = l.length := by simp [bc]
theorem bc_append (l m : List UInt8) : bc (l ++ m) = bc l ++ bc m := by simp [bc]
theorem bc_one (l : List UInt8) : ∀ v ∈ bc l, v.oneCell' = true := by
  intro v hv
  obtain ⟨x, _, rfl⟩ := List.mem_map.1 hv
  rfl

theorem Bs.of_blk {w : World} {X T : Nat} {l : List UInt8} (h : Blk w X T (bc l)) (o n : Nat) : Bs w X o ((l.drop o).take n) := by
  intro i hi
  have hi' : o + i < l.length := by simp at hi; omega
  rw [h.cell, bc_get hi']
  simp
theorem Bs.blk {w : World} {X T : Nat} {l : List UInt8} (h : Blk w X T (bc l)) : Bs w X 0 l := by
  intro i hi
  rw [h.cell, Nat.zero_add, bc_get hi]
theorem Bs.move {w w' : World} {b o : Nat} {l : List UInt8} (h : Bs w b o l) (he : w'.heap[b]? = w.heap[b]?) : Bs w' b o l := by
  intro i hi
  rw [World.cell?_of_block (a := ⟨b, o + i, none⟩) he]
  exact h i hi
theorem Bs.lt {w : World} {b o : Nat} {l : List UInt8} (h : Bs w b o l) (hl : 0 < l.length) : b < w.heap.size := cell_lt (h 0 hl)
theorem Bs.below {w w' : World} {b o : Nat} {l : List UInt8} {B : Nat} (h : Bs w b o l) (hb : Below B w w') (hB : b < B) : Bs w' b o l := h.move (hb.block b hB)
theorem Bs.only {w w' : World} {b o g : Nat} {l : List UInt8} (h : Bs w b o l) (hg : w.grownBy w' (some g)) (hne : b ≠ g) (hlt : b < w.heap.size) : Bs w' b o l := h.move (hg.block b hlt (by intro e; injection e with e; exact hne e))
theorem Bs.drop {w : World} {b o : Nat} {l : List UInt8} (h : Bs w b o l) (n : Nat) : Bs w b (o + n) (l.drop n) := by
  intro i hi
  have := h (n + i) (by simp at hi; omega)
  rw [Nat.add_assoc, this]
  simp
theorem Bs.take {w : World} {b o : Nat} {l : List UInt8} (h : Bs w b o l) (n : Nat) : Bs w b o (l.take n) := by
  intro i hi
  rw [h i (by simp at hi; omega)]
  simp
theorem Bs.nil (w : World) (b o : Nat) : Bs w b o [] := fun i hi => by simp at hi
end Go.Proofs.YtalgceplcahgbaaDoor
