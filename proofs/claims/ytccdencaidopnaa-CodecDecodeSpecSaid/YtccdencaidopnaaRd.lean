/- The reader of the program: take, numeral, end. -/
import Derived.Test.YtccdencaidopnaaPure
import Derived.Deep.RegionLaw
namespace Go.Proofs.Ytccdencaidopnaa
open Go.RowKit

/-- The panic of the reader. -/
abbrev bad : Ending := .panicked [{ v := .iface 28 (.int .i64 10), recovered := false }]

/-- What remains to be read: its block 'R', where the bytes lie. -/
structure Rd (Bb R : Nat) (a : Option Addr) (l : List UInt8) (w : World) : Prop where
  block : w.heap[R]? = some (.cells #[.slice a l.length l.length] 57 (0, 0))
  plain : ∀ p, a = some p → p.spot = none ∧ p.block = Bb
  bytes : ∀ i (h : i < l.length), ∃ b o, a = some ⟨b, o, none⟩ ∧ b ≠ R ∧ b < w.heap.size ∧ w.cell? ⟨b, o + i, none⟩ = some (.int .u8 (l[i].toNat : Nat))

theorem Rd.cell {Bb R : Nat} {a : Option Addr} {l : List UInt8} {w : World} (h : Rd Bb R a l w) : w.cell? ⟨R, 0, none⟩ = some (.slice a l.length l.length) ∧ w.frozen? ⟨R, 0, none⟩ = false :=
  ⟨by rw [cell_of_row w R 0 _ _ _ h.block]; rfl, frozen_of_row w R 0 _ _ h.block⟩

theorem Rd.lt {Bb R : Nat} {a : Option Addr} {l : List UInt8} {w : World} (h : Rd Bb R a l w) : R < w.heap.size := (Array.getElem?_eq_some_iff.1 h.block).1

theorem only_refl (w : World) (r : Option Nat) : w.grownBy w r := ⟨rfl, rfl, rfl, Nat.le_refl _, fun _ _ _ => rfl⟩
theorem only_trans {a b c : World} {r : Option Nat} (h : a.grownBy b r) (k : b.grownBy c r) : a.grownBy c r :=
  ⟨k.os.trans h.os, k.tape.trans h.tape, k.output.trans h.output, Nat.le_trans h.size k.size, fun i hi hr => (k.block i (Nat.lt_of_lt_of_le hi h.size) hr).trans (h.block i hi hr)⟩
theorem only_drewN {a w : World} {row : Option Nat} (h : a.grownBy w row) (n : Nat) : a.grownBy (w.drewN n) row := ⟨h.os, h.tape, h.output, h.size, h.block⟩
theorem only_drew {a w : World} {row : Option Nat} (h : a.grownBy w row) : a.grownBy w.drew row := ⟨h.os, h.tape, h.output, h.size, h.block⟩
theorem only_alloc {a w : World} {row : Option Nat} (h : a.grownBy w row) (o : Obj) : a.grownBy (w.alloc o) row :=
  ⟨h.os, h.tape, h.output, Nat.le_trans h.size (by simp), fun i hi hne => (Below.heap_alloc w o i (Nat.lt_of_lt_of_le hi h.size)).trans (h.block i hi hne)⟩
theorem only_setCell {a w : World} {g : Nat} (h : a.grownBy w (some g)) {p : Addr} (hp : p.block = g ∨ a.heap.size ≤ p.block) (u : Value) : a.grownBy (w.setCell p u) (some g) :=
  ⟨h.os, h.tape, h.output, by simpa [World.setCell] using h.size, fun i hi hne => (Below.heap_setCell w p u i (by
    rintro rfl
    rcases hp with hp | hp
    · exact hne (by rw [hp])
    · omega)).trans (h.block i hi hne)⟩

/-- Bytes that lie in another block stay. -/
theorem Rd.move {Bb R : Nat} {a : Option Addr} {l : List UInt8} {w w' : World} (h : Rd Bb R a l w) (hg : w.grownBy w' (some R)) : ∀ i (h : i < l.length), ∃ b o, a = some ⟨b, o, none⟩ ∧ b ≠ R ∧ b < w'.heap.size ∧ w'.cell? ⟨b, o + i, none⟩ = some (.int .u8 (l[i].toNat : Nat)) := by
  intro i hi
  obtain ⟨b, o, ha, hb, hlt, hc⟩ := h.bytes i hi
  refine ⟨b, o, ha, hb, Nat.lt_of_lt_of_le hlt hg.size, ?_⟩
  rw [World.cell?_of_block (a := ⟨b, o + i, none⟩) (hg.block b hlt (by intro e; injection e with e; exact hb e))]
  exact hc

theorem Rd.alloc {Bb R : Nat} {a : Option Addr} {l : List UInt8} {w : World} (h : Rd Bb R a l w) (o : Obj) : Rd Bb R a l (w.alloc o) :=
  ⟨by rw [Below.heap_alloc _ _ _ h.lt]; exact h.block, h.plain, h.move (only_alloc (only_refl _ _) o)⟩
theorem Rd.drewN {Bb R : Nat} {a : Option Addr} {l : List UInt8} {w : World} (h : Rd Bb R a l w) (n : Nat) : Rd Bb R a l (w.drewN n) := ⟨h.block, h.plain, h.bytes⟩
theorem Rd.drew {Bb R : Nat} {a : Option Addr} {l : List UInt8} {w : World} (h : Rd Bb R a l w) : Rd Bb R a l w.drew := ⟨h.block, h.plain, h.bytes⟩

set_option maxRecDepth 10000 in
set_option maxHeartbeats 800000 in
theorem take_bad {Bb : Nat} (R : Nat) (a : Option Addr) (l : List UInt8) (n : Nat) (w : World) (hr : Rd Bb R a l w) (hl : l.length ≤ 4294967296) (hn : l.length < n) (_hn2 : n < 18446744073709551616) :
    Calls Try.prog 49 #[.pointer (some ⟨R, 0, none⟩), .int .u64 n] w fun e w' => e = bad ∧ w.grownBy w' (some R) := by
  obtain ⟨c0, f0⟩ := hr.cell
  go_enter Try.func49, Try.ntmps49
  go_wp2_with fail
  exact ⟨rfl, rfl, only_refl _ _⟩

theorem Rd.store {Bb R : Nat} {a a' : Option Addr} {l l' : List UInt8} {w : World} (h : Rd Bb R a l w) (hp : ∀ p, a' = some p → p.spot = none ∧ p.block = Bb) (hb : ∀ i (h : i < l'.length), ∃ b o, a' = some ⟨b, o, none⟩ ∧ b ≠ R ∧ b < w.heap.size ∧ w.cell? ⟨b, o + i, none⟩ = some (.int .u8 (l'[i].toNat : Nat))) :
    Rd Bb R a' l' (w.setCell ⟨R, 0, none⟩ (.slice a' l'.length l'.length)) ∧ w.grownBy (w.setCell ⟨R, 0, none⟩ (.slice a' l'.length l'.length)) (some R) := by
  have hg := only_setCell (a := w) (g := R) (only_refl w _) (p := ⟨R, 0, none⟩) (.inl rfl) (.slice a' l'.length l'.length)
  refine ⟨⟨by rw [heap_setCell_same w R 0 _ _ _ h.block]; rfl, hp, fun i hi => ?_⟩, hg⟩
  obtain ⟨b, o, ha, hbR, hlt, hc⟩ := hb i hi
  refine ⟨b, o, ha, hbR, Nat.lt_of_lt_of_le hlt hg.size, ?_⟩
  rw [World.cell?_of_block (a := ⟨b, o + i, none⟩) (hg.block b hlt (by intro e; injection e with e; exact hbR e))]
  exact hc

set_option maxRecDepth 10000 in
set_option maxHeartbeats 800000 in
theorem take_some {Bb : Nat} (R : Nat) (b o : Nat) (l : List UInt8) (n : Nat) (w : World) (hr : Rd Bb R (some ⟨b, o, none⟩) l w) (hl : l.length ≤ 4294967296) (hn : n < l.length) :
    Calls Try.prog 49 #[.pointer (some ⟨R, 0, none⟩), .int .u64 n] w fun e w' => e = .returned (.slice (some ⟨b, o, none⟩) n n) ∧ Rd Bb R (some ⟨b, o + n, none⟩) (l.drop n) w' ∧ w.grownBy w' (some R) := by
  obtain ⟨c0, f0⟩ := hr.cell
  go_enter Try.func49, Try.ntmps49
  go_wp2_with fail
  go_ret
  have hd : (l.drop n).length = l.length - n := List.length_drop
  have := hr.store (a' := some ⟨b, o + n, none⟩) (l' := l.drop n) (by rintro p ⟨⟩; exact ⟨rfl, (hr.plain _ rfl).2⟩) (fun i hi => by
    obtain ⟨b1, o1, e, h1, h2, h3⟩ := hr.bytes (n + i) (by omega)
    simp only [Option.some.injEq, Addr.mk.injEq, and_true] at e
    obtain ⟨rfl, rfl⟩ := e
    exact ⟨b, o + n, rfl, h1, h2, by rw [Nat.add_assoc, h3, List.getElem_drop]⟩)
  rw [hd] at this
  exact ⟨rfl, this⟩

set_option maxRecDepth 10000 in
set_option maxHeartbeats 800000 in
theorem take_all {Bb : Nat} (R : Nat) (b o : Nat) (l : List UInt8) (w : World) (hr : Rd Bb R (some ⟨b, o, none⟩) l w) (hl : l.length ≤ 4294967296) :
    Calls Try.prog 49 #[.pointer (some ⟨R, 0, none⟩), .int .u64 l.length] w fun e w' => e = .returned (.slice (some ⟨b, o, none⟩) l.length l.length) ∧ Rd Bb R (some ⟨b, o, none⟩) [] w' ∧ w.grownBy w' (some R) := by
  obtain ⟨c0, f0⟩ := hr.cell
  go_enter Try.func49, Try.ntmps49
  go_wp2_with fail
  go_ret
  exact ⟨rfl, hr.store (a' := some ⟨b, o, none⟩) (l' := []) (by rintro p ⟨⟩; try exact ⟨rfl, (hr.plain _ rfl).2⟩) (fun i hi => by simp at hi)⟩

set_option maxRecDepth 10000 in
set_option maxHeartbeats 800000 in
theorem take_nil {Bb : Nat} (R : Nat) (w : World) (hr : Rd Bb R none [] w) :
    Calls Try.prog 49 #[.pointer (some ⟨R, 0, none⟩), .int .u64 0] w fun e w' => e = .returned (.slice none 0 0) ∧ Rd Bb R none [] w' ∧ w.grownBy w' (some R) := by
  obtain ⟨c0, f0⟩ := hr.cell
  go_enter Try.func49, Try.ntmps49
  go_wp2_with fail
  go_ret
  exact ⟨rfl, hr.store (a' := none) (l' := []) (by rintro p ⟨⟩; try exact ⟨rfl, (hr.plain _ rfl).2⟩) (fun i hi => by simp at hi)⟩

/-- take: that many bytes, or a panic. -/
theorem take_any {Bb : Nat} (R : Nat) (a : Option Addr) (l : List UInt8) (n : Nat) (w : World) (hr : Rd Bb R a l w) (hl : l.length ≤ 4294967296) (hn : n ≤ l.length) :
    Calls Try.prog 49 #[.pointer (some ⟨R, 0, none⟩), .int .u64 n] w fun e w' => e = .returned (.slice a n n) ∧ (∃ a', Rd Bb R a' (l.drop n) w') ∧ w.grownBy w' (some R) := by
  by_cases h0 : l = []
  · subst h0
    obtain rfl : n = 0 := by simpa using hn
    cases a with
    | none => exact (take_nil R w hr).mono fun _ _ h => ⟨h.1, ⟨_, h.2.1⟩, h.2.2⟩
    | some p =>
      obtain ⟨b, o, s⟩ := p
      cases s with
      | none => exact (take_all R b o [] w hr hl).mono fun _ _ h => ⟨h.1, ⟨_, h.2.1⟩, h.2.2⟩
      | some s => cases (hr.plain _ rfl).1
  · have hp : 0 < l.length := List.length_pos_iff.2 h0
    obtain ⟨b, o, rfl, _⟩ := hr.bytes 0 hp
    by_cases h1 : n < l.length
    · exact (take_some R b o l n w hr hl h1).mono fun _ _ h => ⟨h.1, ⟨_, h.2.1⟩, h.2.2⟩
    · obtain rfl : n = l.length := by omega
      exact (take_all R b o l w hr hl).mono fun _ _ h => ⟨h.1, ⟨_, by rw [List.drop_length]; exact h.2.1⟩, h.2.2⟩
end Go.Proofs.Ytccdencaidopnaa
