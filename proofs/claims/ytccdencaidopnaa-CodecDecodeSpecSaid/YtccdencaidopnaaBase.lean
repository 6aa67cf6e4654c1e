/- The values of package api as trees with their addresses, and what it means that such a tree lies in a world. -/
import Derived.Test.YtccdencaidopnaaRows
import Derived.WalkKit
import Derived.WalkSpells
import Derived.WalkLawsBesides
import Derived.BigQuiet
import Derived.Deep.QuietTactic
import Derived.Test.YtccdencaidopnaaNum
namespace Go.Proofs.Ytccdencaidopnaa
open Go.RowKit

/-- A value: kind, number, text, where its list lies (none: nowhere), the capacity, the elements. -/
inductive VT where
  | mk (k n : Int) (s : ByteArray) (a : Option Addr) (cap : Nat) (l : List VT)

theorem hide {p : Prop} (h : p) : Hid p := h

theorem below_step {B : Nat} {a w w' : World} (h : Below B a w) (hb : Below w.heap.size w w') (hB : B ≤ w.heap.size) : Below B a w' := h.trans (hb.mono hB)
theorem below_one {a w w' : World} (h : Below a.heap.size a w) (hb : Below w.heap.size w w') : Below a.heap.size a w' := h.trans (hb.mono h.size)
theorem below_two {a w w' : World} {o : Obj} (h : Below a.heap.size a w) (hb : Below (w.alloc o).heap.size (w.alloc o) w') : Below a.heap.size a w' := below_one (h.alloc h.size o) hb
theorem below_new (w : World) (o : Obj) : Below w.heap.size w (w.alloc o) := (Below.refl _ _).alloc (Nat.le_refl _) _

namespace VT
def kind : VT → Int | .mk k _ _ _ _ _ => k
def num : VT → Int | .mk _ n _ _ _ _ => n
def str : VT → ByteArray | .mk _ _ s _ _ _ => s
def adr : VT → Option Addr | .mk _ _ _ a _ _ => a
def cap : VT → Nat | .mk _ _ _ _ c _ => c
def els : VT → List VT | .mk _ _ _ _ _ l => l

abbrev sl (t : VT) : Value := .slice (t.adr) t.els.length t.cap
abbrev val (t : VT) : Value := .agg #[.int .i64 t.kind, .int .i64 t.num, .string t.str, t.sl]

/-- What a tree weighs: for inductions. -/
def sz : VT → Nat
  | .mk _ _ _ _ _ l => 1 + szs l
where szs : List VT → Nat
  | [] => 0
  | t :: r => sz t + szs r

theorem szs_get {l : List VT} {i : Nat} (h : i < l.length) : (l[i]).sz ≤ sz.szs l := by
  induction l generalizing i with
  | nil => simp at h
  | cons t r ih =>
    cases i with
    | zero => simp [sz.szs]
    | succ i => have := ih (i := i) (by simpa using h); simp [sz.szs]; omega

theorem sz_lt {t : VT} {i : Nat} (h : i < t.els.length) : (t.els[i]).sz < t.sz := by
  cases t with
  | mk k n s a c l => have := szs_get (l := l) h; simp only [els, sz] at *; omega

/-- One value's own four cells lie at 'p'. -/
def At (w : World) (b o : Nat) (t : VT) : Prop :=
  w.cell? ⟨b, o, none⟩ = some (.int .i64 t.kind) ∧ w.cell? ⟨b, o + 1, none⟩ = some (.int .i64 t.num) ∧ w.cell? ⟨b, o + 2, none⟩ = some (.string t.str) ∧ w.cell? ⟨b, o + 3, none⟩ = some t.sl

def InF : Nat → World → VT → Prop
  | 0, _, _ => False
  | f + 1, w, t => (-9223372036854775808 ≤ t.kind ∧ t.kind ≤ 9223372036854775807) ∧ (-9223372036854775808 ≤ t.num ∧ t.num ≤ 9223372036854775807) ∧ t.str.size ≤ 140737488351232 ∧ t.els.length * 48 ≤ 140737488351232 ∧
    (t.els ≠ [] → ∃ b o, t.adr = some ⟨b, o, none⟩) ∧ ∀ i (h : i < t.els.length), ∀ b o, t.adr = some ⟨b, o, none⟩ → At w b (o + i * 4) t.els[i] ∧ InF f w t.els[i]

/-- The tree lies in the world. -/
def In (w : World) (t : VT) : Prop := ∃ f, InF f w t

theorem At.below {w w' : World} {b o : Nat} {t : VT} (h : At w b o t) {B : Nat} (hb : Below B w w') (hB : w.heap.size ≤ B) : At w' b o t := by
  obtain ⟨h0, h1, h2, h3⟩ := h
  have hlt : b < B := Nat.lt_of_lt_of_le (World.block_lt_of_cell? _ _ h0) hB
  exact ⟨(hb.cell (p := ⟨b, o, none⟩) hlt).trans h0, (hb.cell (p := ⟨b, o + 1, none⟩) hlt).trans h1, (hb.cell (p := ⟨b, o + 2, none⟩) hlt).trans h2, (hb.cell (p := ⟨b, o + 3, none⟩) hlt).trans h3⟩

theorem InF.below {w w' : World} {B : Nat} (hb : Below B w w') (hB : w.heap.size ≤ B) : ∀ {f : Nat} {t : VT}, InF f w t → InF f w' t
  | 0, _, h => h
  | _ + 1, _, ⟨h1, h2, h3, h4, h5, h6⟩ => ⟨h1, h2, h3, h4, h5, fun i h b o e => ⟨(h6 i h b o e).1.below hb hB, InF.below hb hB (h6 i h b o e).2⟩⟩

theorem In.below {w w' : World} {t : VT} (h : In w t) {B : Nat} (hb : Below B w w') (hB : w.heap.size ≤ B) : In w' t := ⟨h.choose, h.choose_spec.below hb hB⟩

theorem In.facts {w : World} {t : VT} (h : In w t) : (-9223372036854775808 ≤ t.kind ∧ t.kind ≤ 9223372036854775807) ∧ (-9223372036854775808 ≤ t.num ∧ t.num ≤ 9223372036854775807) ∧ t.str.size ≤ 140737488351232 ∧ t.els.length * 48 ≤ 140737488351232 := by
  obtain ⟨f, h⟩ := h
  cases f with
  | zero => exact h.elim
  | succ f => exact ⟨h.1, h.2.1, h.2.2.1, h.2.2.2.1⟩

theorem In.adr {w : World} {t : VT} (h : In w t) (hl : 0 < t.els.length) : ∃ b o, t.adr = some ⟨b, o, none⟩ := by
  obtain ⟨f, h⟩ := h
  cases f with
  | zero => exact h.elim
  | succ f => exact h.2.2.2.2.1 (by intro e; rw [e] at hl; simp at hl)

theorem In.el {w : World} {t : VT} (h : In w t) {b o : Nat} (ha : t.adr = some ⟨b, o, none⟩) {i : Nat} (hi : i < t.els.length) : At w b (o + i * 4) t.els[i] ∧ In w t.els[i] := by
  obtain ⟨f, h⟩ := h
  cases f with
  | zero => exact h.elim
  | succ f => exact ⟨(h.2.2.2.2.2 i hi b o ha).1, f, (h.2.2.2.2.2 i hi b o ha).2⟩

theorem In.alloc {w : World} {t : VT} (h : In w t) (o : Obj) : In (w.alloc o) t := h.below ((Below.refl _ _).alloc (Nat.le_refl _) o) (Nat.le_refl _)
theorem In.later {w w' : World} {t : VT} (h : In w t) (hb : Below w.heap.size w w') : In w' t := h.below hb (Nat.le_refl _)

/-- The value with its address as a variable. -/
theorem In.open {w : World} {t : VT} (h : In w t) : ∃ A : Option Addr, t.val = .agg #[.int .i64 t.kind, .int .i64 t.num, .string t.str, .slice A t.els.length t.cap] ∧ t.sl = .slice A t.els.length t.cap ∧ ∀ i (_ : i < t.els.length), ∃ b o, A = some ⟨b, o, none⟩ ∧ t.adr = some ⟨b, o, none⟩ := by
  refine ⟨t.adr, rfl, rfl, fun i hi => ?_⟩
  obtain ⟨b, o, ha⟩ := h.adr (by omega)
  exact ⟨b, o, ha, ha⟩

/-- Well-formed, as the chapter says it. -/
def wf : VT → Bool
  | .mk k n s _ _ l => if k = 1 then s.toList.isEmpty && l.isEmpty else if k = 2 then n == 0 && l.isEmpty else if k = 3 then n == 0 && s.toList.isEmpty && wfs l else false
where wfs : List VT → Bool
  | [] => true
  | t :: r => wf t && wfs r

theorem len_beq (l : List VT) : ((l.length : Int) == 0) = l.isEmpty := by
  cases l with
  | nil => rfl
  | cons t r => simp; omega

theorem wf_eq (t : VT) : t.wf = if (t.kind == 1) = true then t.str.toList.isEmpty && ((t.els.length : Int) == 0) else if (t.kind == 2) = true then t.num == 0 && ((t.els.length : Int) == 0) else if (t.kind == 3) = true then t.num == 0 && t.str.toList.isEmpty && wf.wfs t.els else false := by
  rw [len_beq]
  cases t
  simp only [beq_iff_eq]
  rfl

theorem wfs_iff {l : List VT} : wf.wfs l = true ↔ ∀ i (h : i < l.length), (l[i]).wf = true := by
  induction l with
  | nil => simp [wf.wfs]
  | cons t r ih =>
    simp only [wf.wfs, Bool.and_eq_true, ih]
    constructor
    · rintro ⟨h0, h1⟩ i hi
      cases i with
      | zero => exact h0
      | succ i => exact h1 i (by simpa using hi)
    · intro h
      exact ⟨h 0 (by simp), fun i hi => h (i + 1) (by simpa using hi)⟩

/-- The depth, as the chapter says it, of a well-formed value. -/
def dep : VT → Nat
  | .mk k _ _ _ _ l => if k = 3 then 1 + deps l else 0
where deps : List VT → Nat
  | [] => 0
  | t :: r => max (dep t) (deps r)

theorem dep_eq (t : VT) : t.dep = if t.kind = 3 then 1 + dep.deps t.els else 0 := by cases t; rfl

theorem deps_snoc (l : List VT) (t : VT) : dep.deps (l ++ [t]) = max (dep.deps l) t.dep := by
  induction l with
  | nil => simp [dep.deps]
  | cons a r ih => simp only [List.cons_append, dep.deps, ih]; omega

theorem deps_take {l : List VT} {k : Nat} (h : k < l.length) : dep.deps (l.take (k + 1)) = max (dep.deps (l.take k)) (l[k]).dep := by
  rw [List.take_succ_eq_append_getElem h, deps_snoc]

mutual
theorem dep_le (t : VT) : t.dep ≤ t.sz := by
  match t with
  | .mk k n s a c l => have := deps_le l; simp only [dep, sz]; split <;> omega
theorem deps_le (l : List VT) : dep.deps l ≤ sz.szs l := by
  match l with
  | [] => simp [dep.deps]
  | t :: r => have := dep_le t; have := deps_le r; simp only [dep.deps, sz.szs]; omega
end

theorem deps_take_le (l : List VT) (k : Nat) : dep.deps (l.take k) ≤ dep.deps l := by
  induction l generalizing k with
  | nil => simp
  | cons t r ih => cases k with
    | zero => simp [dep.deps]
    | succ k => simp only [List.take_succ_cons, dep.deps]; have := ih k; omega

/-- The encoding, as the chapter says it. -/
def enc : VT → List UInt8
  | .mk k n s _ _ l => if k = 1 then 1 :: numeral (uns n) else if k = 2 then 2 :: (numeral s.size ++ s.data.toList) else 3 :: (numeral l.length ++ encs l)
where encs : List VT → List UInt8
  | [] => []
  | t :: r => enc t ++ encs r

theorem enc_eq (t : VT) : t.enc = if t.kind = 1 then 1 :: numeral (uns t.num) else if t.kind = 2 then 2 :: (numeral t.str.size ++ t.str.data.toList) else 3 :: (numeral t.els.length ++ enc.encs t.els) := by cases t; rfl

theorem encs_snoc (l : List VT) (t : VT) : enc.encs (l ++ [t]) = enc.encs l ++ t.enc := by
  induction l with
  | nil => simp [enc.encs]
  | cons a r ih => simp only [List.cons_append, enc.encs, ih, List.append_assoc]

theorem encs_take {l : List VT} {k : Nat} (h : k < l.length) : enc.encs (l.take (k + 1)) = enc.encs (l.take k) ++ (l[k]).enc := by
  rw [List.take_succ_eq_append_getElem h, encs_snoc]

theorem encs_take_le (l : List VT) (k : Nat) : (enc.encs (l.take k)).length ≤ (enc.encs l).length := by
  induction l generalizing k with
  | nil => simp
  | cons t r ih => cases k with
    | zero => simp [enc.encs]
    | succ k => simp only [List.take_succ_cons, enc.encs, List.length_append]; have := ih k; omega

theorem encs_get_le {l : List VT} {k : Nat} (h : k < l.length) : (enc.encs (l.take k)).length + (l[k]).enc.length ≤ (enc.encs l).length := by
  have := encs_take_le l (k + 1)
  rw [encs_take h, List.length_append] at this
  exact this

end VT

theorem ret_num {k : IntKind} {a b : Int} (h : a = b) : Ending.returned (.int k a) = .returned (.int k b) := by rw [h]
theorem val_num {k : IntKind} {a b : Int} (h : a = b) : Value.int k a = .int k b := by rw [h]
theorem below_drewN {B : Nat} {a w : World} (h : Below B a w) (n : Nat) : Below B a (w.drewN n) := ⟨h.os, h.tape, h.output, h.size, h.block⟩

theorem quiet_left {P : Program} {f : FuncId} {args : Array Value} {w : World} {n : Nat} {v : Value}
    (h : Calls P f args (w.drewN n) fun e w' => e = .returned v ∧ w.drewN n = w') : Calls P f args (w.drewN n) fun e w'' => e = .returned v ∧ ∃ m, w'' = w.drewN m :=
  h.mono fun _ _ ⟨he, hm⟩ => ⟨he, n, hm.symm⟩
end Go.Proofs.Ytccdencaidopnaa
