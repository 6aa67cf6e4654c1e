/- Digests in memory. -/
import Derived.Deep.AppendLies
import Derived.Deep.RegionHeld3
import Derived.Test.YtalgceplcahgbaaDoorTag
namespace Go.Proofs.YtalgceplcahgbaaDoor
open Go.RowKit
/-- All are digests. -/
def D32 (l : List (List UInt8)) : Prop := ∀ d ∈ l, d.length = 32
theorem D32.take {l : List (List UInt8)} (h : D32 l) (k : Nat) : D32 (l.take k) := fun d hd => h d (List.mem_of_mem_take hd)
theorem D32.drop {l : List (List UInt8)} (h : D32 l) (k : Nat) : D32 (l.drop k) := fun d hd => h d (List.mem_of_mem_drop hd)
theorem D32.append {l m : List (List UInt8)} (h : D32 l) (k : D32 m) : D32 (l ++ m) := fun d hd => (List.mem_append.1 hd).elim (h d) (k d)
theorem D32.one {d : List UInt8} (h : d.length = 32) : D32 [d] := fun x hx => by rw [List.mem_singleton.1 hx]; exact h
theorem D32.nil : D32 [] := fun x hx => by cases hx
theorem D32.flat {l : List (List UInt8)} (h : D32 l) : l.flatten.length = 32 * l.length := by
  induction l with
  | nil => rfl
  | cons d l ih =>
    rw [List.flatten_cons, List.length_append, h d List.mem_cons_self, ih fun x hx => h x (List.mem_cons_of_mem _ hx), List.length_cons]
    omega
theorem D32.flat_take {l : List (List UInt8)} (h : D32 l) (k : Nat) : (l.take k).flatten = l.flatten.take (32 * k) := by
  induction l generalizing k with
  | nil => simp
  | cons d l ih =>
    have hd := h d List.mem_cons_self
    cases k with
    | zero => simp
    | succ k =>
      rw [List.take_succ_cons, List.flatten_cons, List.flatten_cons, ih (fun x hx => h x (List.mem_cons_of_mem _ hx)), List.take_append, hd, List.take_of_length_le (l := d) (by omega)]
      congr 2
theorem D32.flat_drop {l : List (List UInt8)} (h : D32 l) (k : Nat) : (l.drop k).flatten = l.flatten.drop (32 * k) := by
  induction l generalizing k with
  | nil => simp
  | cons d l ih =>
    have hd := h d List.mem_cons_self
    cases k with
    | zero => simp
    | succ k =>
      rw [List.drop_succ_cons, List.flatten_cons, ih (fun x hx => h x (List.mem_cons_of_mem _ hx)), List.drop_append, hd, List.drop_of_length_le (l := d) (by omega), List.nil_append]
      congr 1
def z32 : List Value := List.replicate 32 (.int .u8 0)
theorem z32_len : z32.length = 32 := by simp [z32]
theorem setCells_blk {X T : Nat} : ∀ (vs pre post : List Value) (old : List Value) (w : World), Blk w X T (pre ++ old ++ post) → old.length = vs.length → Blk (w.setCells X pre.length vs) X T (pre ++ vs ++ post)
  | [], pre, post, old, w, h, hl => by
    have : old = [] := List.length_eq_zero_iff.1 hl
    subst this
    exact h
  | v :: vs, pre, post, old, w, h, hl => by
    match old, hl with
    | o :: old, hl =>
      have h1 := h.set pre.length v
      have e : (pre ++ o :: old ++ post).set pre.length v = (pre ++ [v]) ++ old ++ post := by simp
      rw [e] at h1
      have := setCells_blk vs (pre ++ [v]) post old _ h1 (by simpa using hl)
      simp only [List.length_append, List.length_cons, List.length_nil, Nat.zero_add] at this
      simpa [World.setCells] using this
theorem Blk.setAll {w : World} {X T : Nat} {old vs : List Value} (h : Blk w X T old) (hl : old.length = vs.length) : Blk (w.setCells X 0 vs) X T vs := by
  have := setCells_blk vs [] [] old w (by simpa using h) hl
  simpa using this
theorem setCells_other (w : World) (b : Nat) : ∀ (vs : List Value) (o k : Nat), k ≠ b → (w.setCells b o vs).heap[k]? = w.heap[k]? := by
  intro vs
  induction vs generalizing w with
  | nil => intro o k _; rfl
  | cons v vs ih => intro o k hk; exact (ih (w.setCell ⟨b, o, none⟩ v) (o + 1) k hk).trans (heap_setCell_other w ⟨b, o, none⟩ k v hk)
theorem below_setCells {B : Nat} {a w : World} (h : Below B a w) {g : Nat} (hg : B ≤ g) (vs : List Value) (o : Nat) : Below B a (w.setCells g o vs) := by
  induction vs generalizing w o with
  | nil => exact h
  | cons v vs ih => exact ih (h.setCell hg v) (o + 1)
theorem Blk.there {w : World} {X T : Nat} {cs : List Value} (h : Blk w X T cs) (hl : cs.length = 32) : w.there X 0 32 := fun j hj => by
  refine ⟨?_, h.free _⟩
  rw [Nat.zero_add, h.cell, List.getElem?_eq_getElem (by omega)]
  rfl
/-- A list of digests in memory. -/
def Ds (w : World) (a : Option Addr) (l : List (List UInt8)) : Prop := Sb w a l.flatten
theorem Ds.below {w w' : World} {a : Option Addr} {l : List (List UInt8)} (h : Ds w a l) (hb : Below w.heap.size w w') : Ds w' a l := Sb.below h hb
theorem Ds.at {w : World} {a : Option Addr} {l : List (List UInt8)} (h : Ds w a l) (hd : D32 l) (hl : 1 ≤ l.length) : ∃ b o, a = some ⟨b, o, none⟩ ∧ Bs w b o l.flatten :=
  h fun e => by
    have := hd.flat
    rw [e] at this
    simp at this
    omega
theorem Ds.of {w : World} {b o : Nat} {l : List (List UInt8)} (h : Bs w b o l.flatten) : Ds w (some ⟨b, o, none⟩) l := Sb.of h
theorem bs_take {w : World} {b o : Nat} {l : List (List UInt8)} (hd : D32 l) (h : Bs w b o l.flatten) (k : Nat) : Bs w b o (l.take k).flatten := by
  rw [hd.flat_take]; exact h.take _
theorem bs_drop {w : World} {b o : Nat} {l : List (List UInt8)} (hd : D32 l) (h : Bs w b o l.flatten) (k : Nat) : Bs w b (o + 32 * k) (l.drop k).flatten := by
  rw [hd.flat_drop]; exact h.drop _
theorem bs_range {w : World} {b o : Nat} {l : List UInt8} (h : Bs w b o l) : w.rangeAt b o (bc l) := fun j v hv => by
  have hj : j < l.length := by rw [← bc_len l]; exact (List.getElem?_eq_some_iff.1 hv).1
  rw [h j hj, ← hv, bc_get hj]
theorem bs_one {w : World} {b o : Nat} {l : List (List UInt8)} (hd : D32 l) (h : Bs w b o l.flatten) (k : Nat) (hk : k < l.length) : Bs w b (o + 32 * k) l[k] := by
  have h1 := (bs_drop hd h k).take 32
  rw [List.drop_eq_getElem_cons hk, List.flatten_cons, List.take_append_of_le_length (by rw [hd _ (List.getElem_mem hk)]; omega), List.take_of_length_le (by rw [hd _ (List.getElem_mem hk)]; omega)] at h1
  exact h1
theorem z32_eq : List.replicate 32 (Value.int .u8 0) = z32 := by unfold z32; rfl
theorem Tryd.info26 : (Tryd.prog.info? 26).map (fun i => (i.zero, i.size, i.bytes)) = some (some (.agg (List.replicate 32 (Value.int .u8 0)).toArray), 32, 32) := by kernel_rfl
theorem fold_zip : ∀ (xs pre post : List Value), post.length = xs.length → List.foldl (fun (cs : Array Value) (x : Value × Nat) => cs.setIfInBounds x.snd x.fst) (pre ++ post).toArray (xs.zipIdx pre.length) = (pre ++ xs).toArray
  | [], pre, post, h => by
    have : post = [] := List.length_eq_zero_iff.1 h
    subst this
    rfl
  | x :: xs, pre, p :: post, h => by
    rw [List.zipIdx_cons, List.foldl_cons]
    have e : (pre ++ p :: post).toArray.setIfInBounds pre.length x = ((pre ++ [x]) ++ post).toArray := by simp
    have := fold_zip xs (pre ++ [x]) post (by simpa using h)
    rw [List.length_append, List.length_singleton] at this
    rw [e, this]
    simp
theorem fold_dv (d : List UInt8) (h : d.length = 32) : List.foldl (fun (cs : Array Value) (x : Value × Nat) => cs.setIfInBounds x.snd x.fst) #[Value.int IntKind.u8 0, Value.int IntKind.u8 0, Value.int IntKind.u8 0, Value.int IntKind.u8 0, Value.int IntKind.u8 0, Value.int IntKind.u8 0, Value.int IntKind.u8 0, Value.int IntKind.u8 0, Value.int IntKind.u8 0, Value.int IntKind.u8 0, Value.int IntKind.u8 0, Value.int IntKind.u8 0, Value.int IntKind.u8 0, Value.int IntKind.u8 0, Value.int IntKind.u8 0, Value.int IntKind.u8 0, Value.int IntKind.u8 0, Value.int IntKind.u8 0, Value.int IntKind.u8 0, Value.int IntKind.u8 0, Value.int IntKind.u8 0, Value.int IntKind.u8 0, Value.int IntKind.u8 0, Value.int IntKind.u8 0, Value.int IntKind.u8 0, Value.int IntKind.u8 0, Value.int IntKind.u8 0, Value.int IntKind.u8 0, Value.int IntKind.u8 0, Value.int IntKind.u8 0, Value.int IntKind.u8 0, Value.int IntKind.u8 0] (bc d).zipIdx = (bc d).toArray := by
  have := fold_zip (bc d) [] (List.replicate 32 (Value.int .u8 0)) (by rw [bc_len, h]; simp)
  exact this
theorem own_below {w w' : World} {base e size : Nat} {v : Value} {n : Nat} {xs : List Value} (h : w.ownsRow base e size v n xs) (hb : Below w.heap.size w w') : w'.ownsRow base e size v n xs := by
  refine ⟨h.1, h.2.imp id ?_⟩
  rintro ⟨g, cap, cur, e1, e2, e3, e4⟩
  exact ⟨g, cap, cur, e1, e2, (hb.block g (Array.getElem?_eq_some_iff.1 e3).1).trans e3, e4⟩
theorem keep_b {w W W' : World} (hb : Below W.heap.size W W') (h : Hid (Below w.heap.size w W)) : Hid (Below w.heap.size w W') := hide (below_one h.out hb)
theorem keep_size {a w : World} {B : Nat} (h : Hid (Below B a w)) : a.heap.size ≤ w.heap.size := h.out.size
theorem keep_g {w W W' : World} {e size n : Nat} {v : Value} {xs : List Value} (hg : W.grownBy W' v.ownBlock) (ho : W.ownsRow w.heap.size e size v n xs) (h : Hid (Below w.heap.size w W)) : Hid (Below w.heap.size w W') :=
  hide (h.out.grown hg h.out.size fun k hk => (ho.lt k hk).1)
theorem name_list {P : Program} {ops : Array Oper} {Q : Exit → Act → World → Prop} {os : List Oper} {a : Act} {w : World} (h : ∀ W, Hid (W = w) → wpList P ops Q os a W) : wpList P ops Q os a w := h w rfl
theorem three_new (w : World) (A B C : Nat) (a b c : List Value) :
    Blk (((w.alloc (.cells a.toArray A)).alloc (.cells b.toArray B)).alloc (.cells c.toArray C)).drew w.heap.size A a ∧ Blk (((w.alloc (.cells a.toArray A)).alloc (.cells b.toArray B)).alloc (.cells c.toArray C)).drew (w.heap.size + 1) B b ∧
    Blk (((w.alloc (.cells a.toArray A)).alloc (.cells b.toArray B)).alloc (.cells c.toArray C)).drew (w.heap.size + 2) C c ∧ Below w.heap.size w (((w.alloc (.cells a.toArray A)).alloc (.cells b.toArray B)).alloc (.cells c.toArray C)).drew ∧ (((w.alloc (.cells a.toArray A)).alloc (.cells b.toArray B)).alloc (.cells c.toArray C)).drew.heap.size = w.heap.size + 3 := by
  have h1 := Blk.new w A a
  have h2 := Blk.new (w.alloc (.cells a.toArray A)) B b
  have h3 := Blk.new ((w.alloc (.cells a.toArray A)).alloc (.cells b.toArray B)) C c
  simp only [World.size_alloc] at h2 h3
  refine ⟨((h1.alloc _).alloc _).drew, (h2.alloc _).drew, h3.drew, (((below_new w _).alloc (by simp) _).alloc (by simp; omega) _).drew, by simp⟩
/-- A list of digests that a slice names. -/
structure DSrc (w : World) (A : Option Addr) (m c : Nat) (L : List (List UInt8)) : Prop where
  len : m = L.length
  ds : Ds w A L
  d32 : D32 L
  le : m ≤ c
  top : c ≤ 9223372036854775807
  nil : A = none → c = 0
theorem DSrc.below {w w' : World} {A : Option Addr} {m c : Nat} {L : List (List UInt8)} (h : DSrc w A m c L) (hb : Below w.heap.size w w') : DSrc w' A m c L := ⟨h.len, h.ds.below hb, h.d32, h.le, h.top, h.nil⟩
theorem own_dsrc {w : World} {base n : Nat} {v : Value} {L : List (List UInt8)} (h : w.ownsRow base 26 32 v n (bc L.flatten)) (hD : D32 L) (hn : n = L.length) : ∃ A c, v = .slice A n c ∧ DSrc w A n c L := by
  rcases h.2 with ⟨rfl, h0⟩ | ⟨g, cap, cur, rfl, hg, hB, hc, hm, hs, ht⟩
  · subst h0
    have : L = [] := List.length_eq_zero_iff.1 hn.symm
    subst this
    exact ⟨none, 0, rfl, rfl, fun h => absurd rfl h, hD, Nat.le_refl _, by omega, fun _ => rfl⟩
  · refine ⟨some ⟨g, 0, none⟩, cap, rfl, hn, Ds.of ?_, hD, hc, by unfold maxLen at hm; omega, fun h => by cases h⟩
    intro i hi
    have hl := h.1
    rw [bc_len] at hl
    rw [Nat.zero_add, World.ownsRow.cellAt h i (by omega), bc_get hi]
/-- One digest of a list, for a load. -/
theorem DSrc.one {w : World} {b o m c : Nat} {L : List (List UInt8)} (h : DSrc w (some ⟨b, o, none⟩) m c L) (k : Nat) (hk : k < L.length) : w.rangeAt b (o + k * 32) (bc L[k]) := by
  obtain ⟨b', o', e, hB⟩ := h.ds.at h.d32 (by omega)
  cases e
  have := bs_range (bs_one h.d32 hB k hk)
  rwa [Nat.mul_comm] at this
end Go.Proofs.YtalgceplcahgbaaDoor
