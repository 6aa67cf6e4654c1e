/- Memory: what is kept of it; blocks; slices of anything, whose blocks are among those that 'ok' allows. -/
import Derived.Test.YthimljcfmnehcaaDoorProg
import Derived.ProofKit
import Derived.Laws.Tables
import Derived.Below
import Derived.WalkKit
import Derived.WalkSpells
import Derived.WalkLawsBesides
import Derived.BigQuiet
import Derived.Deep.QuietTactic
import Derived.Laws.BitsAllLaws
import Derived.LoopN
import Derived.IntWalk
import Derived.Laws.Rows
import Derived.Laws.Tables
import Derived.Deep.MidRow
import Derived.Deep.WholeRow
import Derived.Deep.AppendLies
import Derived.StillTailTactics
import Derived.Laws.AppendOwn
import Derived.Laws.OwnMore
namespace Go.Proofs.YthimljcfmnehcaaDoor.Gp
open Go.RowKit

/-- A fact that the simplifier does not look into. -/
theorem hide {p : Prop} (h : p) : Hid p := h
theorem below_dn (S : Nat) (w : World) (n : Nat) : Below S w (w.drewN n) := ⟨rfl, rfl, rfl, Nat.le_refl _, fun _ _ => rfl⟩

theorem only_refl (w : World) (r : Option Nat) : w.grownBy w r := ⟨rfl, rfl, rfl, Nat.le_refl _, fun _ _ _ => rfl⟩
theorem only_trans {a b c : World} {r : Option Nat} (h : a.grownBy b r) (k : b.grownBy c r) : a.grownBy c r :=
  ⟨k.os.trans h.os, k.tape.trans h.tape, k.output.trans h.output, Nat.le_trans h.size k.size, fun i hi hr => (k.block i (Nat.lt_of_lt_of_le hi h.size) hr).trans (h.block i hi hr)⟩
theorem only_drewN {a w : World} {row : Option Nat} (h : a.grownBy w row) (n : Nat) : a.grownBy (w.drewN n) row := ⟨h.os, h.tape, h.output, h.size, h.block⟩
theorem only_drew {a w : World} {row : Option Nat} (h : a.grownBy w row) : a.grownBy w.drew row := ⟨h.os, h.tape, h.output, h.size, h.block⟩
theorem only_alloc {a w : World} {row : Option Nat} (h : a.grownBy w row) (o : Obj) : a.grownBy (w.alloc o) row :=
  ⟨h.os, h.tape, h.output, Nat.le_trans h.size (by simp), fun i hi hr => by rw [Below.heap_alloc _ _ _ (Nat.lt_of_lt_of_le hi h.size)]; exact h.block i hi hr⟩
theorem only_setCell {a w : World} {g : Nat} (h : a.grownBy w (some g)) {p : Addr} (hp : p.block = g ∨ a.heap.size ≤ p.block) (u : Value) : a.grownBy (w.setCell p u) (some g) :=
  ⟨h.os, h.tape, h.output, Nat.le_trans h.size (by simp [World.setCell]), fun i hi hr => by
    rw [Below.heap_setCell _ _ _ _ (by rcases hp with hp | hp <;> (intro e; subst e); exact hr (by rw [hp]); omega)]
    exact h.block i hi hr⟩
theorem only_of_below {a w : World} (h : Below a.heap.size a w) (row : Option Nat) : a.grownBy w row := ⟨h.os, h.tape, h.output, h.size, fun i hi _ => h.block i hi⟩
theorem below_of_only {a b w : World} {g : Nat} (h : Below a.heap.size a b) (k : b.grownBy w (some g)) (hg : a.heap.size ≤ g) : Below a.heap.size a w :=
  ⟨k.os.trans h.os, k.tape.trans h.tape, k.output.trans h.output, Nat.le_trans h.size k.size, fun i hi => (k.block i (Nat.lt_of_lt_of_le hi h.size) (by intro e; injection e with e; omega)).trans (h.block i hi)⟩
theorem only_none {a w : World} (h : a.grownBy w none) : Below a.heap.size a w := ⟨h.os, h.tape, h.output, h.size, fun i hi => h.block i hi (by simp)⟩
theorem below_one {a w w' : World} (h : Below a.heap.size a w) (hb : Below w.heap.size w w') : Below a.heap.size a w' := h.trans (hb.mono h.size)
theorem below_ofdrew {w w1 : World} (h : Below w.drew.heap.size w.drew w1) : Below w.heap.size w w1 := ⟨h.os, h.tape, h.output, h.size, h.block⟩
theorem below_ofdrewN {w w1 : World} {n : Nat} (h : Below (w.drewN n).heap.size (w.drewN n) w1) : Below w.heap.size w w1 := ⟨h.os, h.tape, h.output, h.size, h.block⟩
theorem below_new (w : World) (o : Obj) : Below w.heap.size w (w.alloc o) := (Below.refl _ _).alloc (Nat.le_refl _) _
theorem below_drewN {B : Nat} {a w : World} (h : Below B a w) (n : Nat) : Below B a (w.drewN n) := ⟨h.os, h.tape, h.output, h.size, h.block⟩
theorem below_setRow {B : Nat} {a w : World} (h : Below B a w) {g : Nat} (hg : B ≤ g) (cs : Array Value) : Below B a (w.setRow g cs) :=
  ⟨h.os, h.tape, h.output, by simpa using h.size, fun i hi => (setRow_other w g i cs (by omega)).trans (h.block i hi)⟩
theorem only_setRow {a w : World} {g : Nat} (h : a.grownBy w (some g)) {x : Nat} (hp : x = g ∨ a.heap.size ≤ x) (cs : Array Value) : a.grownBy (w.setRow x cs) (some g) :=
  ⟨h.os, h.tape, h.output, by simpa using h.size, fun i hi hr => (setRow_other w x i cs (by rcases hp with hp | hp <;> (intro e; subst e); exact hr (by rw [hp]); omega)).trans (h.block i hi hr)⟩
theorem cell_lt {w : World} {a : Addr} {v : Value} (h : w.cell? a = some v) : a.block < w.heap.size := by
  unfold World.cell? at h
  split at h
  · rename_i hb; exact (Array.getElem?_eq_some_iff.1 hb).1
  · cases h
theorem heap_drewN (w : World) (n : Nat) : (w.drewN n).heap = w.heap := rfl

/-- A block of cells. -/
def Blk (w : World) (X T : Nat) (cs : List Value) : Prop := w.heap[X]? = some (.cells cs.toArray T (0, 0))
section
variable {w : World} {X T : Nat} {cs : List Value}
theorem Blk.lt (h : Blk w X T cs) : X < w.heap.size := (Array.getElem?_eq_some_iff.1 h).1
theorem Blk.cell (h : Blk w X T cs) (i : Nat) : w.cell? ⟨X, i, none⟩ = cs[i]? := by rw [cell_of_row w X i _ _ _ h]; simp
theorem Blk.free (h : Blk w X T cs) (i : Nat) : w.frozen? ⟨X, i, none⟩ = false := frozen_of_row w X i _ _ h
theorem Blk.new (w : World) (T : Nat) (cs : List Value) : Blk (w.alloc (.cells cs.toArray T)) w.heap.size T cs := heap_alloc_new w _
theorem Blk.alloc (h : Blk w X T cs) (o : Obj) : Blk (w.alloc o) X T cs := (Below.heap_alloc _ _ _ h.lt).trans h
theorem Blk.drewN (h : Blk w X T cs) (n : Nat) : Blk (w.drewN n) X T cs := h
theorem Blk.drew (h : Blk w X T cs) : Blk w.drew X T cs := h
theorem Blk.set (h : Blk w X T cs) (i : Nat) (v : Value) : Blk (w.setCell ⟨X, i, none⟩ v) X T (cs.set i v) := by
  have := heap_setCell_same w X i _ T v h
  rw [Blk, this]; simp
theorem Blk.apart (h : Blk w X T cs) {p : Addr} (hp : X ≠ p.block) (v : Value) : Blk (w.setCell p v) X T cs := (heap_setCell_other w p X v hp).trans h
theorem Blk.only (h : Blk w X T cs) {w' : World} {g : Nat} (hg : w.grownBy w' (some g)) (hne : X ≠ g) : Blk w' X T cs := (hg.block X h.lt (by intro e; injection e with e; exact hne e)).trans h
theorem Blk.below (h : Blk w X T cs) {w' : World} {B : Nat} (hb : Below B w w') (hX : X < B) : Blk w' X T cs := (hb.block X hX).trans h
theorem Blk.row (h : Blk w X T cs) (ds : List Value) : Blk (w.setRow X ds.toArray) X T ds := setRow_heap w X _ _ T _ h
end

theorem Blk.ne {w : World} {g g' t t' : Nat} {cs cs' : List Value} (h : Blk w g t cs) (h' : Blk w g' t' cs') (hne : t ≠ t') : g ≠ g' := by
  rintro rfl
  unfold Blk at h h'
  rw [h] at h'
  injection h' with h'
  injection h' with _ ht
  exact hne ht
theorem Blk.far {w : World} {X Y T : Nat} {cs : List Value} (h : Blk w X T cs) (hne : X ≠ Y) (ds : Array Value) : Blk (w.setRow Y ds) X T cs := (setRow_other w Y X ds hne).trans h
theorem Blk.c2 {w : World} {X T : Nat} {v0 v1 : Value} (h : Blk w X T [v0, v1]) : w.cell? ⟨X, 0, none⟩ = some v0 ∧ w.cell? ⟨X, 1, none⟩ = some v1 := ⟨h.cell 0, h.cell 1⟩
theorem Blk.c3 {w : World} {X T : Nat} {v0 v1 v2 : Value} (h : Blk w X T [v0, v1, v2]) : w.cell? ⟨X, 0, none⟩ = some v0 ∧ w.cell? ⟨X, 1, none⟩ = some v1 ∧ w.cell? ⟨X, 2, none⟩ = some v2 := ⟨h.cell 0, h.cell 1, h.cell 2⟩

/-- The blocks that ok allows are as they were. -/
structure Kept (ok : Nat → Prop) (W W' : World) : Prop where
  block : ∀ b, b < W.heap.size → ok b → W'.heap[b]? = W.heap[b]?
  size : W.heap.size ≤ W'.heap.size
section
variable {ok ok' : Nat → Prop} {W W' W2 : World} {A : Option Addr} {vs : List Value}
theorem Kept.below (h : Below W.heap.size W W') : Kept ok W W' := ⟨fun b hb _ => h.block b hb, h.size⟩
theorem Kept.only {X : Nat} (h : W.grownBy W' (some X)) (hX : ¬ ok X) : Kept ok W W' := ⟨fun b hb hk => h.block b hb (by intro e; injection e with e; subst e; exact hX hk), h.size⟩
theorem Kept.trans (h : Kept ok W W') (k : Kept ok W' W2) : Kept ok W W2 := ⟨fun b hb ho => (k.block b (Nat.lt_of_lt_of_le hb h.size) ho).trans (h.block b hb ho), Nat.le_trans h.size k.size⟩
theorem Kept.row {X : Nat} (hX : ¬ ok X) (cs : Array Value) : Kept ok W (W.setRow X cs) := Kept.only (only_setRow (only_refl _ _) (.inl rfl) _) hX
/-- Cells that a slice names. -/
def Cels (ok : Nat → Prop) (W : World) (A : Option Addr) (vs : List Value) : Prop := vs ≠ [] → ∃ b o, A = some ⟨b, o, none⟩ ∧ b < W.heap.size ∧ ok b ∧ ∀ i (h : i < vs.length), W.cell? ⟨b, o + i, none⟩ = some vs[i]
theorem Cels.nil (W : World) (A : Option Addr) : Cels ok W A [] := fun h => absurd rfl h
theorem Cels.keep (h : Cels ok W A vs) (k : Kept ok W W') : Cels ok W' A vs := fun hne => by
  obtain ⟨b, o, e, hlt, hk, hc⟩ := h hne
  exact ⟨b, o, e, Nat.lt_of_lt_of_le hlt k.size, hk, fun i hi => (World.cell?_of_block (a := ⟨b, o + i, none⟩) (k.block b hlt hk)).trans (hc i hi)⟩
theorem Cels.below (h : Cels ok W A vs) (hb : Below W.heap.size W W') : Cels ok W' A vs := h.keep (.below hb)
theorem Cels.weak (h : Cels ok W A vs) (hk : ∀ b, b < W.heap.size → ok b → ok' b) : Cels ok' W A vs := fun hne => by
  obtain ⟨b, o, e, hlt, ho, hc⟩ := h hne
  exact ⟨b, o, e, hlt, hk b hlt ho, hc⟩
theorem Cels.at (h : Cels ok W A vs) {k : Nat} (hk : k < vs.length) : ∃ b o, A = some ⟨b, o, none⟩ ∧ b < W.heap.size ∧ ∀ i (h : i < vs.length), W.cell? ⟨b, o + i, none⟩ = some vs[i] := by
  obtain ⟨b, o, e, hlt, _, hc⟩ := h (by intro e; rw [e] at hk; simp at hk)
  exact ⟨b, o, e, hlt, hc⟩
theorem Cels.opt (h : Cels ok W A vs) : ∀ b, A = some b → ∀ j u, vs[j]? = some u → W.cell? (b.add j) = some u := fun b e j u hu => by
  obtain ⟨hj, rfl⟩ := List.getElem?_eq_some_iff.1 hu
  obtain ⟨b', o, e', hlt, hc⟩ := h.at hj
  subst e
  simp only [Option.some.injEq] at e'
  subst e'
  rw [Addr.add_mid]
  exact hc j hj
end
theorem fl_get {α : Type} (f : α → List Value) (k : Nat) (hf : ∀ x, (f x).length = k) : ∀ (l : List α) (i r : Nat) (h : i < l.length), r < k → (l.flatMap f)[i * k + r]? = (f l[i])[r]?
  | x :: l, 0, r, _, hr => by
    rw [List.flatMap_cons, Nat.zero_mul, Nat.zero_add, List.getElem?_append_left (by rw [hf]; exact hr)]
    rfl
  | x :: l, i + 1, r, h, hr => by
    rw [List.flatMap_cons, List.getElem?_append_right (by rw [hf]; have : (i + 1) * k = i * k + k := Nat.succ_mul i k; omega), hf, show (i + 1) * k + r - k = i * k + r by have : (i + 1) * k = i * k + k := Nat.succ_mul i k; omega]
    exact fl_get f k hf l i r (by simpa using h) hr
theorem fl_len {α : Type} (f : α → List Value) (k : Nat) (hf : ∀ x, (f x).length = k) : ∀ l : List α, (l.flatMap f).length = l.length * k
  | [] => by simp
  | x :: l => by rw [List.flatMap_cons, List.length_append, hf, fl_len f k hf l, List.length_cons, Nat.succ_mul]; omega
theorem fl_one {α β : Type} (g : α → β) : ∀ l : List α, l.flatMap (fun x => [g x]) = l.map g
  | [] => rfl
  | x :: l => by rw [List.flatMap_cons, fl_one g l]; rfl

/-- A slice. -/
structure Sl (α : Type) where
  A : Option Addr
  l : List α
  cap : Nat
abbrev Sl.v {α : Type} (s : Sl α) : Value := .slice s.A s.l.length s.cap
abbrev Sl.none {α : Type} : Sl α := ⟨.none, [], 0⟩
/-- It lies in memory: an element's cells are f's. -/
structure SlIn {α : Type} (f : α → List Value) (ok : Nat → Prop) (s : Sl α) (W : World) : Prop where
  cels : Cels ok W s.A (s.l.flatMap f)
  le : s.l.length ≤ s.cap
  top : s.cap ≤ 9223372036854775807
  nil : s.A = .none → s.cap = 0
section
variable {α : Type} {f : α → List Value} {ok ok' : Nat → Prop} {s : Sl α} {W W' : World}
theorem SlIn.none (W : World) : SlIn f ok Sl.none W := ⟨Cels.nil _ _, Nat.le_refl _, Nat.zero_le _, fun _ => rfl⟩
theorem SlIn.keep (h : SlIn f ok s W) (k : Kept ok W W') : SlIn f ok s W' := ⟨h.cels.keep k, h.le, h.top, h.nil⟩
theorem SlIn.below (h : SlIn f ok s W) (hb : Below W.heap.size W W') : SlIn f ok s W' := h.keep (.below hb)
theorem SlIn.weak (h : SlIn f ok s W) (hk : ∀ b, b < W.heap.size → ok b → ok' b) : SlIn f ok' s W := ⟨h.cels.weak hk, h.le, h.top, h.nil⟩
theorem SlIn.nil0 (h : SlIn f ok s W) (hA : s.A = .none) : s.l.length = 0 ∧ s.cap = 0 := by have h1 := h.nil hA; have h2 := h.le; omega
/-- Element k. -/
theorem SlIn.at (h : SlIn f ok s W) {m : Nat} (hf : ∀ x, (f x).length = m) (hm : 0 < m) {k : Nat} (hk : k < s.l.length) : ∃ b o, s.A = some ⟨b, o, .none⟩ ∧ b < W.heap.size ∧ ∀ r v, (f s.l[k])[r]? = some v → W.cell? ⟨b, o + k * m + r, .none⟩ = some v := by
  have hl := fl_len f m hf s.l
  have hk2 : k * m + m ≤ s.l.length * m := by have := Nat.mul_le_mul_right m (show k + 1 ≤ s.l.length from hk); rwa [Nat.succ_mul] at this
  obtain ⟨b, o, e, hb, hc⟩ := h.cels.at (k := k * m) (by rw [hl]; omega)
  refine ⟨b, o, e, hb, fun r v hv => ?_⟩
  have hr : r < m := by have := (List.getElem?_eq_some_iff.1 hv).1; rw [hf] at this; exact this
  have h1 := hc (k * m + r) (by rw [hl]; omega)
  have h2 := fl_get f m hf s.l k r hk hr
  rw [List.getElem?_eq_getElem (by rw [hl]; omega)] at h2
  rw [Nat.add_assoc, h1, h2, hv]
end

/-- Bytes as values. -/
def bs (l : List UInt8) : List Value := l.map fun c => .int .u8 (c.toNat : Nat)
theorem bs_len (l : List UInt8) : (bs l).length = l.length := by simp [bs]
theorem bs_get (l : List UInt8) (i : Nat) (h : i < (bs l).length) : (bs l)[i] = .int .u8 ((l[i]'(by simpa [bs] using h)).toNat : Nat) := by simp [bs]
theorem bs_one (l : List UInt8) : ∀ u ∈ bs l, u.oneCell' = true := by
  intro u hu
  obtain ⟨c, _, rfl⟩ := List.mem_map.1 hu
  rfl
theorem bs_app (a b : List UInt8) : bs (a ++ b) = bs a ++ bs b := by simp [bs]
abbrev byteC (c : UInt8) : List Value := [.int .u8 (c.toNat : Nat)]
theorem fl_bs (l : List UInt8) : l.flatMap byteC = bs l := fl_one _ l
abbrev Sec := Sl UInt8
abbrev Sec.In (ok : Nat → Prop) (s : Sec) (W : World) : Prop := SlIn byteC ok s W

/-- A row that a call owns. -/
theorem own_form {w : World} {base e size n : Nat} {v : Value} {xs : List Value} (h : w.ownsRow base e size v n xs) : ∃ A cap, v = .slice A n cap := by
  rcases h.2 with ⟨rfl, rfl⟩ | ⟨g, cap, cur, rfl, _⟩
  · exact ⟨none, 0, rfl⟩
  · exact ⟨_, _, rfl⟩
theorem own_below {w w' : World} {base e size B n : Nat} {v : Value} {xs : List Value} (h : w.ownsRow base e size v n xs) (hb : Below B w w') (hB : ∀ k, v.ownBlock = some k → k < B) : w'.ownsRow base e size v n xs := by
  refine ⟨h.1, ?_⟩
  rcases h.2 with h | ⟨g, cap, cur, rfl, h1, h2, h3⟩
  · exact .inl h
  · exact .inr ⟨g, cap, cur, rfl, h1, by rw [hb.block g (hB g rfl)]; exact h2, h3⟩
theorem own_later {w w' : World} {base e size n : Nat} {v : Value} {xs : List Value} (h : w.ownsRow base e size v n xs) (hb : Below w.heap.size w w') : w'.ownsRow base e size v n xs := own_below h hb fun k hk => (h.lt k hk).2
theorem own_empty (w : World) (base e size : Nat) (hb : base ≤ w.heap.size) : (w.alloc (.cells #[] e)).ownsRow base e size (.slice (some ⟨w.heap.size, 0, none⟩) 0 0) 0 [] :=
  ⟨by simp, .inr ⟨w.heap.size, 0, #[], rfl, hb, heap_alloc_new w _, Nat.le_refl _, by decide, by simp, by simp⟩⟩
theorem own_caps {w : World} {base e size n cap : Nat} {A : Option Addr} {xs : List Value} (h : w.ownsRow base e size (.slice A n cap) n xs) : n ≤ cap ∧ cap ≤ 9223372036854775807 := by
  rcases h.2 with ⟨h0, h1⟩ | ⟨g, cap', cur, hv, hb, hg, h3, h4, _⟩
  · injection h0 with _ _ h2
    omega
  · injection hv with _ _ h2
    unfold maxLen at h4
    omega
/-- A row of the call's own, read as a slice. -/
theorem own_in {α : Type} {f : α → List Value} {ok : Nat → Prop} {w : World} {base e size n cap : Nat} {A : Option Addr} {l : List α} (h : w.ownsRow base e size (.slice A n cap) n (l.flatMap f)) (hl : l.length = n) (hok : ∀ b, base ≤ b → ok b) : SlIn f ok ⟨A, l, cap⟩ w := by
  have hc := own_caps h
  rcases h.2 with ⟨h0, h1⟩ | ⟨g, cap', cur, hv, hb, hg, h3, h4, h5, h6⟩
  · injection h0 with h0 h2 h3
    subst h0 h3
    obtain rfl : l = [] := List.length_eq_zero_iff.1 (by omega)
    exact SlIn.none w
  · injection hv with h1 _ h2
    subst h1
    refine ⟨fun hne => ⟨g, 0, rfl, (Array.getElem?_eq_some_iff.1 hg).1, hok g hb, fun i hi => ?_⟩, by rw [hl]; exact hc.1, hc.2, fun e => by cases e⟩
    have h7 : w.cell? ⟨g, 0 + i, none⟩ = cur[i]? := by rw [Nat.zero_add, cell_of_row w g i _ _ _ hg]
    have h8 : cur.toList[i]? = some (l.flatMap f)[i] := by
      have h9 : (l.flatMap f)[i]? = some (l.flatMap f)[i] := List.getElem?_eq_getElem hi
      have h10 : (List.take (n * size) cur.toList)[i]? = some (l.flatMap f)[i] := (congrArg (fun l => l[i]?) h6).trans h9
      rw [List.getElem?_take] at h10
      split at h10
      · exact h10
      · cases h10
    rw [h7, ← h8]
    simp
/-- Behind an append to a row that lies beyond B. -/
theorem below_app {B : Nat} {a w w' : World} {base e size n : Nat} {v : Value} {xs : List Value} (h : Below B a w) (hown : w.ownsRow base e size v n xs) (hg : w.grownBy w' v.ownBlock) (hB : B ≤ base) (hz : B ≤ w.heap.size) : Below B a w' :=
  h.grown hg hz fun k hk => Nat.le_trans hB (hown.lt k hk).1
/-- The cells of a new block. -/
theorem new_cells (w : World) (T : Nat) (cs : List Value) : ∀ ad, some (⟨w.heap.size, 0, none⟩ : Addr) = some ad → ∀ j u, cs[j]? = some u → (w.alloc (.cells cs.toArray T)).cell? (ad.add j) = some u := fun ad e j u hu => by
  injection e with e
  subst e
  rw [Addr.add_mid, Nat.zero_add]
  exact ((Blk.new w T cs).cell j).trans hu

end Go.Proofs.YthimljcfmnehcaaDoor.Gp
