
/- What is kept of memory: all but one block and what is new; blocks. -/
import Derived.Test.YtgigccgklahddaaProg
import Derived.ProofKit
import Derived.Laws.Tables
import Derived.Below
import Derived.WalkKit
import Derived.WalkSpells
import Derived.WalkLawsBesides
import Derived.BigQuiet
import Derived.Deep.QuietTactic
import Derived.Laws.BitsAllLaws
import Derived.LoopN
import Derived.IntWalk
import Derived.Laws.Rows
import Derived.Laws.Tables
import Derived.Deep.MidRow
import Derived.Deep.WholeRow
import Derived.Deep.AppendLies
import Derived.StillTailTactics
import Derived.Below
namespace Go.Proofs.Ytgigccgklahddaa
open Go.RowKit

/-- A fact that the simplifier does not look into. -/
theorem hide {p : Prop} (h : p) : Hid p := h
theorem below_dn (S : Nat) (w : World) (n : Nat) : Below S w (w.drewN n) := ⟨rfl, rfl, rfl, Nat.le_refl _, fun _ _ => rfl⟩

theorem only_refl (w : World) (r : Option Nat) : w.grownBy w r := ⟨rfl, rfl, rfl, Nat.le_refl _, fun _ _ _ => rfl⟩
theorem only_trans {a b c : World} {r : Option Nat} (h : a.grownBy b r) (k : b.grownBy c r) : a.grownBy c r :=
  ⟨k.os.trans h.os, k.tape.trans h.tape, k.output.trans h.output, Nat.le_trans h.size k.size, fun i hi hr => (k.block i (Nat.lt_of_lt_of_le hi h.size) hr).trans (h.block i hi hr)⟩
theorem only_drewN {a w : World} {row : Option Nat} (h : a.grownBy w row) (n : Nat) : a.grownBy (w.drewN n) row := ⟨h.os, h.tape, h.output, h.size, h.block⟩
theorem only_drew {a w : World} {row : Option Nat} (h : a.grownBy w row) : a.grownBy w.drew row := ⟨h.os, h.tape, h.output, h.size, h.block⟩
theorem only_alloc {a w : World} {row : Option Nat} (h : a.grownBy w row) (o : Obj) : a.grownBy (w.alloc o) row :=
  ⟨h.os, h.tape, h.output, Nat.le_trans h.size (by simp), fun i hi hr => by rw [Below.heap_alloc _ _ _ (Nat.lt_of_lt_of_le hi h.size)]; exact h.block i hi hr⟩
theorem only_setCell {a w : World} {g : Nat} (h : a.grownBy w (some g)) {p : Addr} (hp : p.block = g ∨ a.heap.size ≤ p.block) (u : Value) : a.grownBy (w.setCell p u) (some g) :=
  ⟨h.os, h.tape, h.output, Nat.le_trans h.size (by simp [World.setCell]), fun i hi hr => by
    rw [Below.heap_setCell _ _ _ _ (by rcases hp with hp | hp <;> (intro e; subst e); exact hr (by rw [hp]); omega)]
    exact h.block i hi hr⟩
theorem only_of_below {a w : World} (h : Below a.heap.size a w) (row : Option Nat) : a.grownBy w row := ⟨h.os, h.tape, h.output, h.size, fun i hi _ => h.block i hi⟩
theorem below_of_only {a b w : World} {g : Nat} (h : Below a.heap.size a b) (k : b.grownBy w (some g)) (hg : a.heap.size ≤ g) : Below a.heap.size a w :=
  ⟨k.os.trans h.os, k.tape.trans h.tape, k.output.trans h.output, Nat.le_trans h.size k.size, fun i hi => (k.block i (Nat.lt_of_lt_of_le hi h.size) (by intro e; injection e with e; omega)).trans (h.block i hi)⟩
theorem only_none {a w : World} (h : a.grownBy w none) : Below a.heap.size a w := ⟨h.os, h.tape, h.output, h.size, fun i hi => h.block i hi (by simp)⟩
theorem below_one {a w w' : World} (h : Below a.heap.size a w) (hb : Below w.heap.size w w') : Below a.heap.size a w' := h.trans (hb.mono h.size)
theorem below_ofdrew {w w1 : World} (h : Below w.drew.heap.size w.drew w1) : Below w.heap.size w w1 := ⟨h.os, h.tape, h.output, h.size, h.block⟩
theorem below_ofdrewN {w w1 : World} {n : Nat} (h : Below (w.drewN n).heap.size (w.drewN n) w1) : Below w.heap.size w w1 := ⟨h.os, h.tape, h.output, h.size, h.block⟩
theorem below_new (w : World) (o : Obj) : Below w.heap.size w (w.alloc o) := (Below.refl _ _).alloc (Nat.le_refl _) _
theorem below_drewN {B : Nat} {a w : World} (h : Below B a w) (n : Nat) : Below B a (w.drewN n) := ⟨h.os, h.tape, h.output, h.size, h.block⟩
theorem below_setRow {B : Nat} {a w : World} (h : Below B a w) {g : Nat} (hg : B ≤ g) (cs : Array Value) : Below B a (w.setRow g cs) :=
  ⟨h.os, h.tape, h.output, by simpa using h.size, fun i hi => (setRow_other w g i cs (by omega)).trans (h.block i hi)⟩
theorem only_setRow {a w : World} {g : Nat} (h : a.grownBy w (some g)) {x : Nat} (hp : x = g ∨ a.heap.size ≤ x) (cs : Array Value) : a.grownBy (w.setRow x cs) (some g) :=
  ⟨h.os, h.tape, h.output, by simpa using h.size, fun i hi hr => (setRow_other w x i cs (by rcases hp with hp | hp <;> (intro e; subst e); exact hr (by rw [hp]); omega)).trans (h.block i hi hr)⟩
theorem cell_lt {w : World} {a : Addr} {v : Value} (h : w.cell? a = some v) : a.block < w.heap.size := by
  unfold World.cell? at h
  split at h
  · rename_i hb; exact (Array.getElem?_eq_some_iff.1 hb).1
  · cases h
theorem heap_drewN (w : World) (n : Nat) : (w.drewN n).heap = w.heap := rfl

/-- A block of cells. -/
def Blk (w : World) (X T : Nat) (cs : List Value) : Prop := w.heap[X]? = some (.cells cs.toArray T (0, 0))
section
variable {w : World} {X T : Nat} {cs : List Value}
theorem Blk.lt (h : Blk w X T cs) : X < w.heap.size := (Array.getElem?_eq_some_iff.1 h).1
theorem Blk.cell (h : Blk w X T cs) (i : Nat) : w.cell? ⟨X, i, none⟩ = cs[i]? := by rw [cell_of_row w X i _ _ _ h]; simp
theorem Blk.free (h : Blk w X T cs) (i : Nat) : w.frozen? ⟨X, i, none⟩ = false := frozen_of_row w X i _ _ h
theorem Blk.new (w : World) (T : Nat) (cs : List Value) : Blk (w.alloc (.cells cs.toArray T)) w.heap.size T cs := heap_alloc_new w _
theorem Blk.alloc (h : Blk w X T cs) (o : Obj) : Blk (w.alloc o) X T cs := (Below.heap_alloc _ _ _ h.lt).trans h
theorem Blk.drewN (h : Blk w X T cs) (n : Nat) : Blk (w.drewN n) X T cs := h
theorem Blk.drew (h : Blk w X T cs) : Blk w.drew X T cs := h
theorem Blk.set (h : Blk w X T cs) (i : Nat) (v : Value) : Blk (w.setCell ⟨X, i, none⟩ v) X T (cs.set i v) := by
  have := heap_setCell_same w X i _ T v h
  rw [Blk, this]; simp
theorem Blk.apart (h : Blk w X T cs) {p : Addr} (hp : X ≠ p.block) (v : Value) : Blk (w.setCell p v) X T cs := (heap_setCell_other w p X v hp).trans h
theorem Blk.only (h : Blk w X T cs) {w' : World} {g : Nat} (hg : w.grownBy w' (some g)) (hne : X ≠ g) : Blk w' X T cs := (hg.block X h.lt (by intro e; injection e with e; exact hne e)).trans h
theorem Blk.below (h : Blk w X T cs) {w' : World} {B : Nat} (hb : Below B w w') (hX : X < B) : Blk w' X T cs := (hb.block X hX).trans h
theorem Blk.row (h : Blk w X T cs) (ds : List Value) : Blk (w.setRow X ds.toArray) X T ds := setRow_heap w X _ _ T _ h
end

end Go.Proofs.Ytgigccgklahddaa
