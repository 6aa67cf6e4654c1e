/- The scanner: rest, passWhite, refuse. -/
import Derived.Test.YtemapfhiiefieaaDoorKee
namespace Go.Proofs.YtemapfhiiefieaaDoor
open Go.RowKit

/-- A token. -/
structure Tk where
  kind : Nat
  text : List UInt8
  n : Nat
  pos : Nat
def Tk.cs (t : Tk) : List Value := [.int .i64 (t.kind : Nat), .string (str t.text), .int .i64 (t.n : Nat), .int .i64 (t.pos : Nat)]
def tcs (l : List Tk) : List Value := l.flatMap Tk.cs
theorem tcs_snoc (l : List Tk) (t : Tk) : tcs (l ++ [t]) = tcs l ++ t.cs := by simp [tcs]

abbrev fn (f : Nat) : Value := .func (.func f) #[] #[]
/-- The scanner's block. -/
abbrev scs (l : List UInt8) (a : Nat) (v : Value) : List Value := [.string (str l), .int .i64 (a : Nat), v, fn 42, fn 43, fn 44, fn 45, fn 46, fn 42]
/-- The scanner in memory: its source, where it is, its tokens. -/
structure Sc (S : Nat) (l : List UInt8) (a : Nat) (v : Value) (ts : List Tk) (w : World) : Prop where
  block : Blk w S 49 (scs l a v)
  own : w.ownsRow (S + 1) 35 4 v ts.length (tcs ts)
  tab : Tab w
  pos : 0 < S
theorem Sc.drewN {S : Nat} {l : List UInt8} {a : Nat} {v : Value} {ts : List Tk} {w : World} (h : Sc S l a v ts w) (n : Nat) : Sc S l a v ts (w.drewN n) := ⟨h.block, World.ownsRow.kept h.own (only_drewN (only_refl w none) n) (by cases v.ownBlock with | none => exact .inl rfl | some x => exact .inr (by simp)), h.tab, h.pos⟩
theorem Sc.drew {S : Nat} {l : List UInt8} {a : Nat} {v : Value} {ts : List Tk} {w : World} (h : Sc S l a v ts w) : Sc S l a v ts w.drew := ⟨h.block, h.own.drew, h.tab, h.pos⟩
theorem tab_below {w w' : World} {B : Nat} (h : Tab w) (hb : Below B w w') (hB : 0 < B) : Tab w' := fun i hi => by
  rw [World.cell?_of_block (a := ⟨0, i, none⟩) (hb.block 0 hB)]; exact h i hi
theorem Sc.cells {S : Nat} {l : List UInt8} {a : Nat} {v : Value} {ts : List Tk} {w : World} (h : Sc S l a v ts w) : w.cell? ⟨S, 0, none⟩ = some (.string (str l)) ∧ w.cell? ⟨S, 1, none⟩ = some (.int .i64 (a : Nat)) ∧ w.cell? ⟨S, 2, none⟩ = some v ∧ (∀ i, w.frozen? ⟨S, i, none⟩ = false) :=
  ⟨by rw [h.block.cell]; rfl, by rw [h.block.cell]; rfl, by rw [h.block.cell]; rfl, h.block.free⟩
/-- The place moves on. -/
theorem Sc.move {S : Nat} {l : List UInt8} {a : Nat} {v : Value} {ts : List Tk} {w : World} (h : Sc S l a v ts w) (b : Nat) : Sc S l b v ts (w.setCell ⟨S, 1, none⟩ (.int .i64 (b : Nat))) := by
  refine ⟨h.block.set 1 _, ?_, tab_below h.tab ((Below.refl _ _).setCell (Nat.le_refl S) _) h.pos, h.pos⟩
  exact World.ownsRow.kept h.own (only_setCell (only_refl w (some S)) (.inl rfl) _) (.inr (by intro e; have := (h.own.lt S e).1; omega))

/-- What a reader leaves. -/
def RP (S : Nat) (l : List UInt8) (b : Nat) (ts : List Tk) (w w' : World) : Prop := (∃ v, Sc S l b v ts w') ∧ Below S w w'

theorem str_drop (l : List UInt8) (k : Nat) : (str l).extract k (str l).size = str (l.drop k) := by
  apply ByteArray.ext
  simp [ByteArray.data_extract, ByteArray.size]
  exact List.take_of_length_le (by simp)

set_option maxRecDepth 10000 in
set_option maxHeartbeats 800000 in
theorem rest_any (S : Nat) (l : List UInt8) (a : Nat) (v : Value) (ts : List Tk) (w : World) (h : Sc S l a v ts w) (ha : a ≤ l.length) :
    Calls Tryd.prog 54 #[.pointer (some ⟨S, 0, none⟩)] w fun e w' => e = .returned (.string (str (l.drop a))) ∧ (∃ n, w' = w.drewN n) := by
  obtain ⟨c0, c1, _, _⟩ := h.cells
  have hs := str_size l
  have hd := str_drop l a
  rw [hs] at hd
  have i1 : (0 : Int) ≤ (a : Int) := by omega
  have i2 : (a : Int) ≤ (l.length : Int) := by omega
  clear h
  go_enter Tryd.func54, Tryd.ntmps54
  go_wp2_with fail
  go_quiet (fail)
  go_wp2_with fail
  go_ret
  exact ⟨rfl, _, rfl⟩

set_option maxRecDepth 10000 in
set_option maxHeartbeats 800000 in
theorem passWhite_any (S : Nat) (l : List UInt8) (a : Nat) (v : Value) (ts : List Tk) (w : World) (h : Sc S l a v ts w) (ha : a < l.length) (hl : l.length ≤ 1000000000) :
    Calls Tryd.prog 43 #[.pointer (some ⟨S, 0, none⟩)] w fun e w' => e = .returned (.tuple #[]) ∧ RP S l (a + 1) ts w w' := by
  have HM := hide (h.move (a + 1))
  have hcast : ((a + 1 : Nat) : Int) = (a : Int) + 1 := by omega
  rw [hcast] at HM
  have HB := hide ((Below.refl S w).setCell (p := ⟨S, 1, none⟩) (Nat.le_refl S) (.int .i64 ((a : Int) + 1)))
  obtain ⟨c0, c1, c2, cf⟩ := h.cells
  have ha9 : (a : Int) ≤ 1000000000 := by omega
  clear h hcast
  go_enter Tryd.func43, Tryd.ntmps43
  go_wp2_with fail
  go_end0
  exact ⟨rfl, ⟨_, HM.out⟩, HB.out⟩

/-- The panic of a wrong token. -/
abbrev wrong (a : Nat) : Ending := .panicked [{ v := .iface 42 (.int .i64 (a : Nat)), recovered := false }]
set_option maxRecDepth 10000 in
set_option maxHeartbeats 800000 in
theorem refuse_any (S : Nat) (l : List UInt8) (a : Nat) (v : Value) (ts : List Tk) (w : World) (h : Sc S l a v ts w) :
    Calls Tryd.prog 42 #[.pointer (some ⟨S, 0, none⟩)] w fun e w' => e = wrong a ∧ w' = w := by
  obtain ⟨c0, c1, c2, cf⟩ := h.cells
  clear h
  go_enter Tryd.func42, Tryd.ntmps42
  go_wp2_with fail
  exact ⟨rfl, rfl, rfl⟩
end Go.Proofs.YtemapfhiiefieaaDoor
