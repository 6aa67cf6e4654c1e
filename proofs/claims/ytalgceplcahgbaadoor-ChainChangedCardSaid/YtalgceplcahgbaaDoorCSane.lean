/- Numerals to the base 128: how many digits they have, and the unsigned form of an integer. Plain mathematics. -/
import Derived.Lib.BitFns
import Derived.Test.YtalgceplcahgbaaDoorProg
import Derived.ProofKit
import Derived.WalkKit
import Derived.WalkSpells
import Derived.WalkLawsBesides
import Derived.BigQuiet
import Derived.Deep.QuietTactic
import Derived.Test.YtalgceplcahgbaaDoorShelf
import Derived.Deep.AppendLies
import Derived.Deep.RegionLaw
import Derived.StillTailTactics
namespace Go.Proofs.YtalgceplcahgbaaDoor.Cdc

def uns (n : Int) : Nat := if n < 0 then 2 * (-(n + 1)).toNat + 1 else 2 * n.toNat

def digs : Nat → Nat → List UInt8
  | 0, u => [UInt8.ofNat u]
  | f + 1, u => if u < 128 then [UInt8.ofNat u] else UInt8.ofNat (u % 128 + 128) :: digs f (u / 128)

def numeral (u : Nat) : List UInt8 := digs 9 u

theorem uns_lt {n : Int} (h0 : -9223372036854775808 ≤ n) (h1 : n ≤ 9223372036854775807) : uns n < 18446744073709551616 := by
  unfold uns; split <;> omega

theorem digs_len (f : Nat) : ∀ u, u < 128 ^ (f + 1) → 1 ≤ (digs f u).length ∧ (digs f u).length ≤ f + 1 ∧ u < 128 ^ (digs f u).length ∧ ((digs f u).length = 1 ∨ 128 ^ ((digs f u).length - 1) ≤ u) := by
  induction f with
  | zero => intro u h; simp [digs] at *; omega
  | succ f ih =>
    intro u h
    by_cases hu : u < 128
    · simp [digs, hu]
    · have h2 : u / 128 < 128 ^ (f + 1) := by rw [Nat.div_lt_iff_lt_mul (by omega)]; rw [Nat.pow_succ] at h; exact h
      obtain ⟨a, b, c, d⟩ := ih _ h2
      simp only [digs, if_neg hu, List.length_cons]
      refine ⟨by omega, by omega, ?_, .inr ?_⟩
      · rw [Nat.pow_succ]
        exact (Nat.div_lt_iff_lt_mul (by omega)).1 c
      · rcases d with d | d
        · rw [d]; simp; omega
        · obtain ⟨m, hm⟩ : ∃ m, (digs f (u / 128)).length = m + 1 := ⟨(digs f (u / 128)).length - 1, by omega⟩
          rw [hm] at d ⊢
          simp only [Nat.add_sub_cancel] at d ⊢
          rw [Nat.pow_succ]
          exact (Nat.le_div_iff_mul_le (by omega)).1 d

theorem bitLenAux_le (f : Nat) : ∀ (m x : Nat), x < 2 ^ f → (Lib.bitLenAux f x ≤ m ↔ x < 2 ^ m) := by
  induction f with
  | zero => intro m x h; simp [Lib.bitLenAux] at *; subst h; exact Nat.pow_pos (by omega)
  | succ f ih =>
    intro m x h
    by_cases hx : x = 0
    · subst hx; simp [Lib.bitLenAux, Nat.pow_pos]
    · simp only [Lib.bitLenAux, if_neg hx]
      cases m with
      | zero => simp; omega
      | succ m =>
        have h2 : x / 2 < 2 ^ f := by rw [Nat.div_lt_iff_lt_mul (by omega)]; rw [Nat.pow_succ] at h; exact h
        have := ih m (x / 2) h2
        rw [Nat.div_lt_iff_lt_mul (by omega)] at this
        rw [Nat.pow_succ, ← this]
        omega

theorem numeral_len {u : Nat} (h : u < 18446744073709551616) : (numeral u).length = max 1 ((Lib.bitLen u + 6) / 7) ∧ (numeral u).length ≤ 10 ∧ 1 ≤ (numeral u).length := by
  obtain ⟨a, b, c, d⟩ := digs_len 9 u (by omega)
  have hb := fun m => bitLenAux_le 64 m u (by omega)
  unfold numeral Lib.bitLen
  refine ⟨?_, by omega, a⟩
  generalize digs 9 u = D at *
  generalize Lib.bitLenAux 64 u = bl at *
  have h1 : bl ≤ 7 * D.length := by rw [hb, Nat.pow_mul]; exact c
  rcases d with d | d
  · omega
  · have h2 : ¬ bl ≤ 7 * (D.length - 1) := by rw [hb, Nat.pow_mul]; exact Nat.not_lt.2 d
    omega

theorem bitLen_le {u : Nat} (h : u < 18446744073709551616) : Lib.bitLen u ≤ 64 := by
  unfold Lib.bitLen
  rw [bitLenAux_le 64 64 u (by omega)]
  omega
end Go.Proofs.YtalgceplcahgbaaDoor.Cdc

/- The values of package api as trees with their addresses, and what it means that such a tree lies in a world. -/
namespace Go.Proofs.YtalgceplcahgbaaDoor.Cdc
open Go.RowKit

/-- A value: kind, number, text, where its list lies (none: nowhere), the capacity, the elements. -/
inductive VT where
  | mk (k n : Int) (s : ByteArray) (a : Option Addr) (cap : Nat) (l : List VT)

theorem hide {p : Prop} (h : p) : Hid p := h

theorem below_step {B : Nat} {a w w' : World} (h : Below B a w) (hb : Below w.heap.size w w') (hB : B ≤ w.heap.size) : Below B a w' := h.trans (hb.mono hB)
theorem below_one {a w w' : World} (h : Below a.heap.size a w) (hb : Below w.heap.size w w') : Below a.heap.size a w' := h.trans (hb.mono h.size)
theorem below_two {a w w' : World} {o : Obj} (h : Below a.heap.size a w) (hb : Below (w.alloc o).heap.size (w.alloc o) w') : Below a.heap.size a w' := below_one (h.alloc h.size o) hb
theorem below_new (w : World) (o : Obj) : Below w.heap.size w (w.alloc o) := (Below.refl _ _).alloc (Nat.le_refl _) _

namespace VT
def kind : VT → Int | .mk k _ _ _ _ _ => k
def num : VT → Int | .mk _ n _ _ _ _ => n
def str : VT → ByteArray | .mk _ _ s _ _ _ => s
def adr : VT → Option Addr | .mk _ _ _ a _ _ => a
def cap : VT → Nat | .mk _ _ _ _ c _ => c
def els : VT → List VT | .mk _ _ _ _ _ l => l

abbrev sl (t : VT) : Value := .slice (t.adr) t.els.length t.cap
abbrev val (t : VT) : Value := .agg #[.int .i64 t.kind, .int .i64 t.num, .string t.str, t.sl]

/-- What a tree weighs: for inductions. -/
def sz : VT → Nat
  | .mk _ _ _ _ _ l => 1 + szs l
where szs : List VT → Nat
  | [] => 0
  | t :: r => sz t + szs r

theorem szs_get {l : List VT} {i : Nat} (h : i < l.length) : (l[i]).sz ≤ sz.szs l := by
  induction l generalizing i with
  | nil => simp at h
  | cons t r ih =>
    cases i with
    | zero => simp [sz.szs]
    | succ i => have := ih (i := i) (by simpa using h); simp [sz.szs]; omega

theorem sz_lt {t : VT} {i : Nat} (h : i < t.els.length) : (t.els[i]).sz < t.sz := by
  cases t with
  | mk k n s a c l => have := szs_get (l := l) h; simp only [els, sz] at *; omega

/-- One value's own four cells lie at 'p'. -/
def At (w : World) (b o : Nat) (t : VT) : Prop :=
  w.cell? ⟨b, o, none⟩ = some (.int .i64 t.kind) ∧ w.cell? ⟨b, o + 1, none⟩ = some (.int .i64 t.num) ∧ w.cell? ⟨b, o + 2, none⟩ = some (.string t.str) ∧ w.cell? ⟨b, o + 3, none⟩ = some t.sl

def InF : Nat → World → VT → Prop
  | 0, _, _ => False
  | f + 1, w, t => (-9223372036854775808 ≤ t.kind ∧ t.kind ≤ 9223372036854775807) ∧ (-9223372036854775808 ≤ t.num ∧ t.num ≤ 9223372036854775807) ∧ t.str.size ≤ 140737488351232 ∧ t.els.length * 48 ≤ 140737488351232 ∧
    (t.els ≠ [] → ∃ b o, t.adr = some ⟨b, o, none⟩) ∧ ∀ i (h : i < t.els.length), ∀ b o, t.adr = some ⟨b, o, none⟩ → At w b (o + i * 4) t.els[i] ∧ InF f w t.els[i]

/-- The tree lies in the world. -/
def In (w : World) (t : VT) : Prop := ∃ f, InF f w t

theorem At.below {w w' : World} {b o : Nat} {t : VT} (h : At w b o t) {B : Nat} (hb : Below B w w') (hB : w.heap.size ≤ B) : At w' b o t := by
  obtain ⟨h0, h1, h2, h3⟩ := h
  have hlt : b < B := Nat.lt_of_lt_of_le (World.block_lt_of_cell? _ _ h0) hB
  exact ⟨(hb.cell (p := ⟨b, o, none⟩) hlt).trans h0, (hb.cell (p := ⟨b, o + 1, none⟩) hlt).trans h1, (hb.cell (p := ⟨b, o + 2, none⟩) hlt).trans h2, (hb.cell (p := ⟨b, o + 3, none⟩) hlt).trans h3⟩

theorem InF.below {w w' : World} {B : Nat} (hb : Below B w w') (hB : w.heap.size ≤ B) : ∀ {f : Nat} {t : VT}, InF f w t → InF f w' t
  | 0, _, h => h
  | _ + 1, _, ⟨h1, h2, h3, h4, h5, h6⟩ => ⟨h1, h2, h3, h4, h5, fun i h b o e => ⟨(h6 i h b o e).1.below hb hB, InF.below hb hB (h6 i h b o e).2⟩⟩

theorem In.below {w w' : World} {t : VT} (h : In w t) {B : Nat} (hb : Below B w w') (hB : w.heap.size ≤ B) : In w' t := ⟨h.choose, h.choose_spec.below hb hB⟩

theorem In.facts {w : World} {t : VT} (h : In w t) : (-9223372036854775808 ≤ t.kind ∧ t.kind ≤ 9223372036854775807) ∧ (-9223372036854775808 ≤ t.num ∧ t.num ≤ 9223372036854775807) ∧ t.str.size ≤ 140737488351232 ∧ t.els.length * 48 ≤ 140737488351232 := by
  obtain ⟨f, h⟩ := h
  cases f with
  | zero => exact h.elim
  | succ f => exact ⟨h.1, h.2.1, h.2.2.1, h.2.2.2.1⟩

theorem In.adr {w : World} {t : VT} (h : In w t) (hl : 0 < t.els.length) : ∃ b o, t.adr = some ⟨b, o, none⟩ := by
  obtain ⟨f, h⟩ := h
  cases f with
  | zero => exact h.elim
  | succ f => exact h.2.2.2.2.1 (by intro e; rw [e] at hl; simp at hl)

theorem In.el {w : World} {t : VT} (h : In w t) {b o : Nat} (ha : t.adr = some ⟨b, o, none⟩) {i : Nat} (hi : i < t.els.length) : At w b (o + i * 4) t.els[i] ∧ In w t.els[i] := by
  obtain ⟨f, h⟩ := h
  cases f with
  | zero => exact h.elim
  | succ f => exact ⟨(h.2.2.2.2.2 i hi b o ha).1, f, (h.2.2.2.2.2 i hi b o ha).2⟩

theorem In.alloc {w : World} {t : VT} (h : In w t) (o : Obj) : In (w.alloc o) t := h.below ((Below.refl _ _).alloc (Nat.le_refl _) o) (Nat.le_refl _)
theorem In.later {w w' : World} {t : VT} (h : In w t) (hb : Below w.heap.size w w') : In w' t := h.below hb (Nat.le_refl _)

/-- The value with its address as a variable. -/
theorem In.open {w : World} {t : VT} (h : In w t) : ∃ A : Option Addr, t.val = .agg #[.int .i64 t.kind, .int .i64 t.num, .string t.str, .slice A t.els.length t.cap] ∧ t.sl = .slice A t.els.length t.cap ∧ ∀ i (_ : i < t.els.length), ∃ b o, A = some ⟨b, o, none⟩ ∧ t.adr = some ⟨b, o, none⟩ := by
  refine ⟨t.adr, rfl, rfl, fun i hi => ?_⟩
  obtain ⟨b, o, ha⟩ := h.adr (by omega)
  exact ⟨b, o, ha, ha⟩

/-- Well-formed, as the chapter says it. -/
def wf : VT → Bool
  | .mk k n s _ _ l => if k = 1 then s.toList.isEmpty && l.isEmpty else if k = 2 then n == 0 && l.isEmpty else if k = 3 then n == 0 && s.toList.isEmpty && wfs l else false
where wfs : List VT → Bool
  | [] => true
  | t :: r => wf t && wfs r

theorem len_beq (l : List VT) : ((l.length : Int) == 0) = l.isEmpty := by
  cases l with
  | nil => rfl
  | cons t r => simp; omega

theorem wf_eq (t : VT) : t.wf = if (t.kind == 1) = true then t.str.toList.isEmpty && ((t.els.length : Int) == 0) else if (t.kind == 2) = true then t.num == 0 && ((t.els.length : Int) == 0) else if (t.kind == 3) = true then t.num == 0 && t.str.toList.isEmpty && wf.wfs t.els else false := by
  rw [len_beq]
  cases t
  simp only [beq_iff_eq]
  rfl

theorem wfs_iff {l : List VT} : wf.wfs l = true ↔ ∀ i (h : i < l.length), (l[i]).wf = true := by
  induction l with
  | nil => simp [wf.wfs]
  | cons t r ih =>
    simp only [wf.wfs, Bool.and_eq_true, ih]
    constructor
    · rintro ⟨h0, h1⟩ i hi
      cases i with
      | zero => exact h0
      | succ i => exact h1 i (by simpa using hi)
    · intro h
      exact ⟨h 0 (by simp), fun i hi => h (i + 1) (by simpa using hi)⟩

/-- The depth, as the chapter says it, of a well-formed value. -/
def dep : VT → Nat
  | .mk k _ _ _ _ l => if k = 3 then 1 + deps l else 0
where deps : List VT → Nat
  | [] => 0
  | t :: r => max (dep t) (deps r)

theorem dep_eq (t : VT) : t.dep = if t.kind = 3 then 1 + dep.deps t.els else 0 := by cases t; rfl

theorem deps_snoc (l : List VT) (t : VT) : dep.deps (l ++ [t]) = max (dep.deps l) t.dep := by
  induction l with
  | nil => simp [dep.deps]
  | cons a r ih => simp only [List.cons_append, dep.deps, ih]; omega

theorem deps_take {l : List VT} {k : Nat} (h : k < l.length) : dep.deps (l.take (k + 1)) = max (dep.deps (l.take k)) (l[k]).dep := by
  rw [List.take_succ_eq_append_getElem h, deps_snoc]

mutual
theorem dep_le (t : VT) : t.dep ≤ t.sz := by
  match t with
  | .mk k n s a c l => have := deps_le l; simp only [dep, sz]; split <;> omega
theorem deps_le (l : List VT) : dep.deps l ≤ sz.szs l := by
  match l with
  | [] => simp [dep.deps]
  | t :: r => have := dep_le t; have := deps_le r; simp only [dep.deps, sz.szs]; omega
end

theorem deps_take_le (l : List VT) (k : Nat) : dep.deps (l.take k) ≤ dep.deps l := by
  induction l generalizing k with
  | nil => simp
  | cons t r ih => cases k with
    | zero => simp [dep.deps]
    | succ k => simp only [List.take_succ_cons, dep.deps]; have := ih k; omega

/-- The encoding, as the chapter says it. -/
def enc : VT → List UInt8
  | .mk k n s _ _ l => if k = 1 then 1 :: numeral (uns n) else if k = 2 then 2 :: (numeral s.size ++ s.data.toList) else 3 :: (numeral l.length ++ encs l)
where encs : List VT → List UInt8
  | [] => []
  | t :: r => enc t ++ encs r

theorem enc_eq (t : VT) : t.enc = if t.kind = 1 then 1 :: numeral (uns t.num) else if t.kind = 2 then 2 :: (numeral t.str.size ++ t.str.data.toList) else 3 :: (numeral t.els.length ++ enc.encs t.els) := by cases t; rfl

theorem encs_snoc (l : List VT) (t : VT) : enc.encs (l ++ [t]) = enc.encs l ++ t.enc := by
  induction l with
  | nil => simp [enc.encs]
  | cons a r ih => simp only [List.cons_append, enc.encs, ih, List.append_assoc]

theorem encs_take {l : List VT} {k : Nat} (h : k < l.length) : enc.encs (l.take (k + 1)) = enc.encs (l.take k) ++ (l[k]).enc := by
  rw [List.take_succ_eq_append_getElem h, encs_snoc]

theorem encs_take_le (l : List VT) (k : Nat) : (enc.encs (l.take k)).length ≤ (enc.encs l).length := by
  induction l generalizing k with
  | nil => simp
  | cons t r ih => cases k with
    | zero => simp [enc.encs]
    | succ k => simp only [List.take_succ_cons, enc.encs, List.length_append]; have := ih k; omega

theorem encs_get_le {l : List VT} {k : Nat} (h : k < l.length) : (enc.encs (l.take k)).length + (l[k]).enc.length ≤ (enc.encs l).length := by
  have := encs_take_le l (k + 1)
  rw [encs_take h, List.length_append] at this
  exact this

end VT

theorem ret_num {k : IntKind} {a b : Int} (h : a = b) : Ending.returned (.int k a) = .returned (.int k b) := by rw [h]
theorem val_num {k : IntKind} {a b : Int} (h : a = b) : Value.int k a = .int k b := by rw [h]
theorem below_drewN {B : Nat} {a w : World} (h : Below B a w) (n : Nat) : Below B a (w.drewN n) := ⟨h.os, h.tape, h.output, h.size, h.block⟩

theorem quiet_left {P : Program} {f : FuncId} {args : Array Value} {w : World} {n : Nat} {v : Value}
    (h : Calls P f args (w.drewN n) fun e w' => e = .returned v ∧ w.drewN n = w') : Calls P f args (w.drewN n) fun e w'' => e = .returned v ∧ ∃ m, w'' = w.drewN m :=
  h.mono fun _ _ ⟨he, hm⟩ => ⟨he, n, hm.symm⟩
end Go.Proofs.YtalgceplcahgbaaDoor.Cdc

/- wellFormed, malformed, slices.ContainsFunc, slices.IndexFunc of the program answer whether a value is well-formed, for every value that lies in memory. -/
namespace Go.Proofs.YtalgceplcahgbaaDoor.Cdc
open Go.RowKit

theorem wfs_false {l : List VT} {k : Nat} (h : k < l.length) (hk : (l[k]).wf = false) : VT.wf.wfs l = false := by
  cases e : VT.wf.wfs l with
  | false => rfl
  | true => rw [VT.wfs_iff.1 e k h] at hk; cases hk


def Idx (l : List VT) (w : World) (e : Ending) (w' : World) : Prop := (∃ r : Int, e = .returned (.int .i64 r) ∧ -1 ≤ r ∧ r ≤ l.length ∧ (0 ≤ r ↔ VT.wf.wfs l = false)) ∧ Below w.heap.size w w'

set_option maxHeartbeats 400000 in
theorem index_any (b o : Nat) (l : List VT) (cap : Nat) (w : World) (hlen : l.length * 48 ≤ 140737488351232)
    (hat : ∀ i (h : i < l.length), VT.At w b (o + i * 4) l[i])
    (hmal : ∀ i (h : i < l.length) (w' : World), Below w.heap.size w w' → Calls Tryd.prog 113 #[l[i].val] w' fun e w'' => e = .returned (.bool (!l[i].wf)) ∧ Below w'.heap.size w' w'') :
    Calls Tryd.prog 115 #[.slice (some ⟨b, o, none⟩) l.length cap, .func (.func 113) #[] #[]] w (Idx l w) := by
  go_enter Tryd.func115, Tryd.ntmps115
  go_wp2_with fail
  go_loopw [8] (fun i wr => ∃ k : Nat, k ≤ l.length ∧ i = .int .i64 k ∧ (∀ j (h : j < l.length), j < k → (l[j]).wf = true) ∧ Below w.heap.size w wr) (fun i _ => l.length - (intOf i).toNat)
  case atStart => exact ⟨0, Nat.zero_le _, rfl, by intros; omega, Below.refl _ _⟩
  case round =>
    obtain ⟨k, hk, rfl, hw, hb⟩ := hrel
    by_cases hlt : k < l.length
    · have hc := (hat k hlt).below hb (Nat.le_refl _)
      obtain ⟨c0, c1, c2, c3⟩ := hc
      have hcall := hmal k hlt wr hb
      clear hmal
      have HC := hide hcall
      clear hcall
      cases hwf : (l[k]).wf with
      | true =>
        rw [hwf] at HC
        have HW := hide hwf
        clear hwf
        go_wp2_with (go_at_call 113; refine HC.out.mono ?_; rintro e w' ⟨rfl, hb'⟩)
        refine ⟨⟨k + 1, by omega, by go_num, fun j h hj => ?_, below_step hb hb' hb.size⟩, by simp [intOf]; omega⟩
        by_cases e : j = k
        · subst e; exact HW.out
        · exact hw j h (by omega)
      | false =>
        rw [hwf] at HC
        have HW := hide hwf
        clear hwf
        go_wp2_with (go_at_call 113; refine HC.out.mono ?_; rintro e w' ⟨rfl, hb'⟩)
        go_ret
        exact ⟨⟨_, rfl, by omega, by omega, by simp [wfs_false hlt HW.out]⟩, below_step hb hb' hb.size⟩
    · obtain rfl : k = l.length := by omega
      go_wp2_with fail
      go_ret
      exact ⟨⟨_, rfl, by omega, by omega, by simp [VT.wfs_iff.2 (fun i h => hw i h h)]⟩, hb⟩

set_option maxHeartbeats 400000 in
theorem index_nil (a : Option Addr) (cap : Nat) (w : World) : Calls Tryd.prog 115 #[.slice a 0 cap, .func (.func 113) #[] #[]] w (Idx [] w) := by
  go_enter Tryd.func115, Tryd.ntmps115
  go_wp2_with fail
  refine wp_loop_rounds 1 ?_
  rw [rounds_succ]
  go_wp2_with fail
  go_ret
  exact ⟨⟨_, rfl, by omega, by simp, by simp [VT.wf.wfs]⟩, Below.refl _ _⟩

set_option maxHeartbeats 400000 in
theorem contains_any (v : Value) (l : List VT) (w : World) (h : Calls Tryd.prog 115 #[v, .func (.func 113) #[] #[]] w (Idx l w)) :
    Calls Tryd.prog 112 #[v, .func (.func 113) #[] #[]] w fun e w' => e = .returned (.bool (!VT.wf.wfs l)) ∧ Below w.heap.size w w' := by
  have H := hide h
  clear h
  go_enter Tryd.func112, Tryd.ntmps112
  go_wp2_with (go_at_call 115; refine H.out.mono ?_; rintro e w' ⟨⟨r, rfl, hr1, hr2, hr3⟩, hb⟩)
  go_ret
  exact ⟨rfl, hb⟩

/-- The contract of wellFormed at one tree. -/
def WfAt (t : VT) : Prop := ∀ w : World, t.In w → Calls Tryd.prog 105 #[t.val] w fun e w' => e = .returned (.bool t.wf) ∧ Below w.heap.size w w'

set_option maxHeartbeats 400000 in
theorem malformed_any (t : VT) (h30 : WfAt t) (w : World) (hin : t.In w) : Calls Tryd.prog 113 #[t.val] w fun e w' => e = .returned (.bool (!t.wf)) ∧ Below w.heap.size w w' := by
  have H := fun W (hW : t.In W) => hide (h30 W hW)
  clear h30
  go_enter Tryd.func113, Tryd.ntmps113
  go_wp2_with (go_at_call 105; refine (H _ (hin.alloc _)).out.mono ?_; rintro e w' ⟨rfl, hb⟩)
  go_ret
  exact ⟨rfl, below_step ((Below.refl _ _).alloc (Nat.le_refl _) _) hb (by simp)⟩

set_option maxHeartbeats 800000 in
theorem wellFormed_step (t : VT) (ih : ∀ i (h : i < t.els.length), WfAt t.els[i]) : WfAt t := by
  intro w hin
  obtain ⟨hk, hn, hs, hl⟩ := hin.facts
  have hcon : ∀ w' : World, Below w.heap.size w w' → Calls Tryd.prog 112 #[t.sl, .func (.func 113) #[] #[]] w' fun e w'' => e = .returned (.bool (!VT.wf.wfs t.els)) ∧ Below w'.heap.size w' w'' := by
    intro w' hb
    refine contains_any _ _ _ ?_
    by_cases h0 : 0 < t.els.length
    · obtain ⟨b, o, ha⟩ := hin.adr h0
      have : t.sl = .slice (some ⟨b, o, none⟩) t.els.length t.cap := by unfold VT.sl; rw [ha]
      rw [this]
      refine index_any b o t.els t.cap w' hl (fun i h => ((hin.later hb).el ha h).1) (fun i h w2 hb2 => malformed_any _ (ih i h) w2 ((((hin.later hb).el ha h).2).later hb2))
    · have : t.els = [] := List.eq_nil_of_length_eq_zero (by omega)
      unfold VT.sl
      rw [this]
      exact index_nil _ _ _
  have HE := hide (VT.wf_eq t)
  have hnum := hn
  have H := fun w' hb => hide (hcon w' hb)
  clear hcon ih
  go_enter Tryd.func105, Tryd.ntmps105
  go_wp2_with (go_at_call 112; refine (H _ ((Below.refl _ _).alloc (Nat.le_refl _) _)).out.mono ?_; rintro e w' ⟨rfl, hb⟩)
  all_goals go_ret
  all_goals refine ⟨by clear H; rw [HE.out]; simp [*], ?_⟩
  all_goals first | exact below_step ((Below.refl _ _).alloc (Nat.le_refl _) _) ‹_› (by simp) | exact (Below.refl _ _).alloc (Nat.le_refl _) _

theorem wellFormed_any : ∀ (N : Nat) (t : VT), t.sz ≤ N → WfAt t := by
  intro N
  induction N with
  | zero => intro t h; cases t; simp [VT.sz] at h
  | succ N ih => exact fun t h => wellFormed_step t fun i hi => ih _ (by have := VT.sz_lt hi; omega)
end Go.Proofs.YtalgceplcahgbaaDoor.Cdc

/- depth of the program answers the depth of a value, for every value that lies in memory. -/
namespace Go.Proofs.YtalgceplcahgbaaDoor.Cdc
open Go.RowKit

/-- The contract of depth at one tree. -/
def DepAt (t : VT) : Prop := ∀ w : World, t.In w → t.sz ≤ 1000000 → Calls Tryd.prog 106 #[t.val] w fun e w' => e = .returned (.int .i64 (t.dep : Nat)) ∧ Below w.heap.size w w'

set_option maxHeartbeats 800000 in
theorem depth_step (t : VT) (ih : ∀ i (h : i < t.els.length), DepAt t.els[i]) : DepAt t := by
  intro w hin hsz
  obtain ⟨hk, hn, hs, hl⟩ := hin.facts
  have HE := hide (VT.dep_eq t)
  obtain ⟨A, hv, _, hA⟩ := hin.open
  rw [hv]
  clear hv
  by_cases h3 : t.kind = 3
  · have hb3 : (t.kind != 3) = false := by simp [h3]
    have H3 := hide h3
    clear h3
    have hdl := VT.dep_le t
    have hdd : VT.dep.deps t.els ≤ 1000000 := by rw [HE.out, if_pos H3.out] at hdl; omega
    clear hdl
    go_enter Tryd.func106, Tryd.ntmps106
    go_wp2_with fail
    go_loopw [3, 12] (fun d i wr => ∃ k : Nat, k ≤ t.els.length ∧ i = .int .i64 k ∧ d = .int .i64 (VT.dep.deps (t.els.take k) : Nat) ∧ Below w.heap.size w wr) (fun _ i _ => t.els.length - (intOf i).toNat)
    case atStart => exact ⟨0, Nat.zero_le _, rfl, rfl, (Below.refl _ _).alloc (Nat.le_refl _) _⟩
    case round =>
      obtain ⟨k, hk', rfl, rfl, hb⟩ := hrel
      by_cases hlt : k < t.els.length
      · obtain ⟨b, o, rfl, ha⟩ := hA k hlt
        obtain ⟨⟨c0, c1, c2, c3⟩, hink⟩ := (hin.later hb).el ha hlt
        have HA := hide ha
        clear ha
        have hszk := VT.sz_lt hlt
        have hdk := VT.dep_le t.els[k]
        have hdt := VT.deps_take_le t.els k
        have HT := hide (VT.deps_take hlt)
        have HC := fun W (hW : Below wr.heap.size wr W) => hide (ih k hlt W (hink.later hW) (by omega))
        clear ih
        go_wp2_with (go_at_call 106; refine (HC _ (((Below.refl _ _).alloc (Nat.le_refl _) _))).out.mono ?_; rintro e w' ⟨rfl, hb'⟩)
        refine ⟨⟨k + 1, by omega, by go_num, ?_, ?_⟩, by simp [intOf]; omega⟩
        · rw [HT.out]; congr 1; omega
        · exact below_two hb hb'
      · obtain rfl : k = t.els.length := by omega
        have HF := hide (List.take_length (l := t.els))
        go_wp2_with fail
        go_ret
        exact ⟨by rw [HE.out, if_pos H3.out, HF.out]; rfl, hb⟩
  · have hb3 : (t.kind != 3) = true := by simp [h3]
    rw [if_neg h3] at HE
    clear h3
    go_enter Tryd.func106, Tryd.ntmps106
    go_wp2_with fail
    go_ret
    exact ⟨by rw [HE.out]; rfl, (Below.refl _ _).alloc (Nat.le_refl _) _⟩

theorem depth_any : ∀ (N : Nat) (t : VT), t.sz ≤ N → DepAt t := by
  intro N
  induction N with
  | zero => intro t h; cases t; simp [VT.sz] at h
  | succ N ih => exact fun t h => depth_step t fun i hi => ih _ (by have := VT.sz_lt hi; omega)
end Go.Proofs.YtalgceplcahgbaaDoor.Cdc

/- unsignedForm, numeralSize and size of the program answer the unsigned form, the number of digits and the length of the encoding. -/
namespace Go.Proofs.YtalgceplcahgbaaDoor.Cdc
open Go.RowKit

theorem uns_neg {n : Int} (h : n < 0) (h0 : -9223372036854775808 ≤ n) : (uns n : Int) = 2 * (-(n + 1)) + 1 := by unfold uns; rw [if_pos h]; omega
theorem uns_pos {n : Int} (h : 0 ≤ n) : (uns n : Int) = 2 * n := by unfold uns; rw [if_neg (by omega)]; omega

set_option maxHeartbeats 400000 in
theorem unsignedForm_any (n : Int) (w : World) (h0 : -9223372036854775808 ≤ n) (h1 : n ≤ 9223372036854775807) :
    Calls Tryd.prog 111 #[.int .i64 n] w fun e w' => e = .returned (.int .u64 (uns n : Nat)) ∧ w = w' := by
  by_cases hn : n < 0
  · have HU := hide (uns_neg hn h0)
    go_enter Tryd.func111, Tryd.ntmps111
    go_wp2_with fail
    go_ret
    exact ⟨by rw [HU.out]; rfl, rfl⟩
  · have HU := hide (uns_pos (by omega : 0 ≤ n))
    go_enter Tryd.func111, Tryd.ntmps111
    go_wp2_with fail
    go_ret
    exact ⟨by rw [HU.out]; rfl, rfl⟩

set_option maxHeartbeats 400000 in
theorem numeralSize_any (u : Nat) (w : World) (h1 : u < 18446744073709551616) :
    Calls Tryd.prog 110 #[.int .u64 u] w fun e w' => e = .returned (.int .i64 ((numeral u).length : Nat)) ∧ w = w' := by
  obtain ⟨hl, _, _⟩ := numeral_len h1
  have HL := hide hl
  clear hl
  have hb := bitLen_le h1
  have HC := fun W => hide (Tryd.bits_Len64 (u : Int) W (by omega) (by omega))
  rw [Int.toNat_natCast] at HC
  generalize Lib.bitLen u = bl at *
  go_enter Tryd.func110, Tryd.ntmps110
  go_wp2_with (go_at_call 92; refine (HC _).out.mono ?_; rintro e w' ⟨rfl, rfl⟩)
  go_ret
  refine ⟨?_, rfl⟩
  rw [HL.out]
  show Ending.returned (.int .i64 (max 1 (((bl : Int) + 7 - 1) / 7))) = _
  congr 2
  omega

/-- The contract of size at one tree. -/
def SizeAt (t : VT) : Prop := ∀ w : World, t.In w → t.enc.length ≤ 4294967296 → Calls Tryd.prog 99 #[t.val] w fun e w' => e = .returned (.int .i64 (t.enc.length : Nat)) ∧ Below w.heap.size w w'

set_option maxHeartbeats 800000 in
theorem size_step (t : VT) (ih : ∀ i (h : i < t.els.length), SizeAt t.els[i]) : SizeAt t := by
  intro w hin hsz
  obtain ⟨hk, hn, hs, hl⟩ := hin.facts
  have HE := hide (VT.enc_eq t)
  obtain ⟨A, hv, _, hA⟩ := hin.open
  rw [hv]
  clear hv
  by_cases h1 : t.kind = 1
  · have hb1 : (t.kind == 1) = true := by simp [h1]
    have H1 := hide h1
    clear h1
    have hu := uns_lt hn.1 hn.2
    have hnl := (numeral_len hu).2.1
    go_enter Tryd.func99, Tryd.ntmps99
    go_wp2_with (first | (go_at_call 111; refine (unsignedForm_any _ _ (by omega) (by omega)).mono ?_; rintro e w' ⟨rfl, rfl⟩) | (go_at_call 110; refine (numeralSize_any _ _ (by omega)).mono ?_; rintro e w' ⟨rfl, rfl⟩))
    go_ret
    refine ⟨?_, below_new _ _⟩
    rw [HE.out, if_pos H1.out, List.length_cons]
    refine ret_num ?_
    omega
  · have hb1 : (t.kind == 1) = false := by simp [h1]
    have H1 := hide h1
    clear h1
    by_cases h2 : t.kind = 2
    · have hb2 : (t.kind == 2) = true := by simp [h2]
      have H2 := hide h2
      clear h2
      have hu : t.str.size < 18446744073709551616 := by omega
      have hnl := (numeral_len hu).2.1
      go_enter Tryd.func99, Tryd.ntmps99
      go_wp2_with fail
      go_quiet ((go_at_call 110; exact quiet_left (numeralSize_any _ _ (by omega))))
      go_wp2_with fail
      go_ret
      refine ⟨?_, below_drewN (below_new _ _) _⟩
      rw [HE.out, if_neg H1.out, if_pos H2.out, List.length_cons, List.length_append]
      refine ret_num ?_
      simp
      omega
    · have hb2 : (t.kind == 2) = false := by simp [h2]
      have H2 := hide h2
      clear h2
      have hu : t.els.length < 18446744073709551616 := by omega
      have hnl := (numeral_len hu).2.1
      go_enter Tryd.func99, Tryd.ntmps99
      go_wp2_with ((go_at_call 110; refine (numeralSize_any _ _ (by omega)).mono ?_; rintro e w' ⟨rfl, rfl⟩))
      have hE := congrArg List.length HE.out
      rw [if_neg H1.out, if_neg H2.out, List.length_cons, List.length_append] at hE
      go_loopw [3, 36] (fun d i wr => ∃ k : Nat, k ≤ t.els.length ∧ i = .int .i64 k ∧ d = .int .i64 (1 + (numeral t.els.length).length + (VT.enc.encs (t.els.take k)).length) ∧ Below w.heap.size w wr) (fun _ i _ => t.els.length - (intOf i).toNat)
      case atStart => exact ⟨0, Nat.zero_le _, rfl, by simp [VT.enc.encs], below_new _ _⟩
      case round =>
        obtain ⟨k, hk', rfl, rfl, hb⟩ := hrel
        by_cases hlt : k < t.els.length
        · obtain ⟨b, o, rfl, ha⟩ := hA k hlt
          obtain ⟨⟨c0, c1, c2, c3⟩, hink⟩ := (hin.later hb).el ha hlt
          have HA := hide ha
          clear ha
          have hsk := VT.encs_get_le hlt
          have HT := hide (congrArg List.length (VT.encs_take hlt))
          have HC := fun W (hW : Below wr.heap.size wr W) => hide (ih k hlt W (hink.later hW) (by omega))
          have HEE := hide hE
          have h9 : 1 + (numeral t.els.length).length + (VT.enc.encs (t.els.take k)).length + (t.els[k]).enc.length ≤ 4294967296 := by omega
          clear ih hE hsk
          go_wp2_with (go_at_call 99; refine (HC _ (below_new _ _)).out.mono ?_; rintro e w' ⟨rfl, hb'⟩)
          refine ⟨⟨k + 1, by omega, by go_num, ?_, ?_⟩, by simp [intOf]; omega⟩
          · rw [HT.out, List.length_append]; refine val_num ?_; omega
          · exact below_two hb hb'
        · obtain rfl : k = t.els.length := by omega
          have HF := hide (List.take_length (l := t.els))
          have HEE := hide hE
          clear hE
          go_wp2_with fail
          go_ret
          exact ⟨by rw [HEE.out, HF.out]; refine ret_num ?_; omega, hb⟩

theorem size_any : ∀ (N : Nat) (t : VT), t.sz ≤ N → SizeAt t := by
  intro N
  induction N with
  | zero => intro t h; cases t; simp [VT.sz] at h
  | succ N ih => exact fun t h => size_step t fun i hi => ih _ (by have := VT.sz_lt hi; omega)
end Go.Proofs.YtalgceplcahgbaaDoor.Cdc

/- appendNumeral of the program appends the numeral's digits to a slice of the call's own. -/
namespace Go.Proofs.YtalgceplcahgbaaDoor.Cdc
open Go.RowKit

/-- Bytes as cells. -/
def bs (l : List UInt8) : List Value := l.map fun c => .int .u8 c.toNat
theorem bs_append (a b : List UInt8) : bs (a ++ b) = bs a ++ bs b := by simp [bs]
theorem bs_length (a : List UInt8) : (bs a).length = a.length := by simp [bs]

/-- What was there below 'B', and every block of another type than bytes, is as it was. -/
structure Keeps (B : Nat) (w w' : World) : Prop where
  below : Below B w w'
  other : ∀ (b : Nat) (cs : Array Value) (T : TypeId), T ≠ 5 → w.heap[b]? = some (Obj.cells cs T (0, 0)) → w'.heap[b]? = some (Obj.cells cs T (0, 0))

theorem Keeps.refl (B : Nat) (w : World) : Keeps B w w := ⟨Below.refl _ _, fun _ _ _ _ h => h⟩
theorem Keeps.trans {B : Nat} {a b c : World} (h : Keeps B a b) (k : Keeps B b c) : Keeps B a c := ⟨h.below.trans k.below, fun x cs T hT hx => k.other x cs T hT (h.other x cs T hT hx)⟩
theorem Keeps.alloc {B : Nat} {a w : World} (h : Keeps B a w) (hB : B ≤ w.heap.size) (o : Obj) : Keeps B a (w.alloc o) :=
  ⟨h.below.alloc hB o, fun x cs T hT hx => by
    have h1 := h.other x cs T hT hx
    rw [Below.heap_alloc _ _ _ (Array.getElem?_eq_some_iff.1 h1).1]; exact h1⟩
theorem Keeps.drew {B : Nat} {a w : World} (h : Keeps B a w) : Keeps B a w.drew := ⟨h.below.drew, h.other⟩
theorem Keeps.drewN {B : Nat} {a w : World} (h : Keeps B a w) (n : Nat) : Keeps B a (w.drewN n) := ⟨below_drewN h.below n, h.other⟩
theorem Keeps.grown {B base : Nat} {a w w' : World} {v : Value} {n : Nat} {xs : List Value} (h : Keeps B a w) (hown : w.ownsRow base 5 1 v n xs) (hb : B ≤ base) (hg : w.grownBy w' v.ownBlock) (hB : B ≤ w.heap.size) : Keeps B a w' := by
  refine ⟨h.below.grown hg hB (fun k hk => Nat.le_trans hb (hown.lt k hk).1), fun x cs T hT hx => ?_⟩
  have h1 := h.other x cs T hT hx
  have hx' := (Array.getElem?_eq_some_iff.1 h1).1
  rw [hg.block x hx' ?_]
  · exact h1
  · intro e
    rcases hown.2 with ⟨rfl, _⟩ | ⟨g, cap, cur, rfl, _, hgg, _⟩
    · simp [Value.ownBlock] at e
    · simp [Value.ownBlock] at e
      subst e
      rw [h1] at hgg
      injection hgg with hgg
      injection hgg with _ h2
      exact hT h2

theorem Tryd.info5 : (Tryd.prog.info? 5).map (fun i => (i.zero, i.size, i.bytes)) = some (some (.int .u8 0), 1, 1) := by kernel_rfl

/-- The numeral is what is appended so far and the digits to come. -/
def Part (u : Nat) (d : List UInt8) (u' : Nat) : Prop := ∃ f, f ≤ 9 ∧ u' < 128 ^ (f + 1) ∧ numeral u = d ++ digs f u' ∧ d.length + f ≤ 9

theorem Part.start {u : Nat} (h : u < 18446744073709551616) : Part u [] u := ⟨9, Nat.le_refl _, by omega, rfl, by simp⟩
theorem Part.step {u u' : Nat} {d : List UInt8} (h : Part u d u') (hu : 128 ≤ u') : Part u (d ++ [UInt8.ofNat (u' % 128 + 128)]) (u' / 128) := by
  obtain ⟨f, hf, hl, he, hd⟩ := h
  cases f with
  | zero => simp at hl; omega
  | succ f =>
    refine ⟨f, by omega, by rw [Nat.div_lt_iff_lt_mul (by omega)]; rw [Nat.pow_succ] at hl; exact hl, ?_, by simp; omega⟩
    rw [he, digs, if_neg (by omega)]
    simp
theorem Part.last {u u' : Nat} {d : List UInt8} (h : Part u d u') (hu : u' < 128) : numeral u = d ++ [UInt8.ofNat u'] := by
  obtain ⟨f, hf, hl, he, hd⟩ := h
  cases f with
  | zero => exact he
  | succ f => rw [he, digs, if_pos hu]
theorem Part.len {u u' : Nat} {d : List UInt8} (h : Part u d u') : d.length ≤ 9 := by
  obtain ⟨f, hf, hl, he, hd⟩ := h
  omega

theorem byte_of (n : Nat) (h : n < 256) : Value.int .u8 (n : Int) = .int .u8 ((UInt8.ofNat n).toNat : Nat) := by
  rw [UInt8.toNat_ofNat_of_lt' (by simpa using h)]

def AppPost (base n : Nat) (xs : List UInt8) (ys : List UInt8) (w : World) (e : Ending) (w' : World) : Prop :=
  ∃ g cap, e = .returned (.slice (some ⟨g, 0, none⟩) (n + ys.length) cap) ∧ w'.ownsRow base 5 1 (.slice (some ⟨g, 0, none⟩) (n + ys.length) cap) (n + ys.length) (bs (xs ++ ys)) ∧ Keeps base w w'

set_option maxHeartbeats 800000 in
set_option maxRecDepth 10000 in
theorem appendNumeral_any (base n : Nat) (v : Value) (xs : List UInt8) (u : Nat) (w : World) (hu : u < 18446744073709551616) (hbase : base ≤ w.heap.size) (hn : n ≤ 8589934592)
    (hown : w.ownsRow base 5 1 v n (bs xs)) : Calls Tryd.prog 114 #[v, .int .u64 u] w (AppPost base n xs (numeral u) w) := by
  obtain ⟨i0, hi, hz0, hz1, hz2⟩ := info_parts Tryd.info5
  have HI := hide (And.intro hi (And.intro hz0 (And.intro hz1 hz2)))
  clear hi hz0 hz1 hz2
  go_enter Tryd.func114, Tryd.ntmps114
  go_wp2_with fail
  go_loopw [0, 1] (fun v' x wr => ∃ (u' : Nat) (d : List UInt8), u' < 18446744073709551616 ∧ x = .int .u64 u' ∧ Part u d u' ∧ wr.ownsRow base 5 1 v' (n + d.length) (bs (xs ++ d)) ∧ Keeps base w wr) (fun _ x _ => (intOf x).toNat)
  case atStart => exact ⟨u, [], hu, rfl, Part.start hu, by simpa using hown, Keeps.refl _ _⟩
  case round =>
    obtain ⟨u', d, hu', rfl, hpart, hown', hkeep⟩ := hrel
    have hdl := hpart.len
    have hsz := hkeep.below.size
    by_cases hlt : 128 ≤ u'
    · have hstep := hide (hpart.step hlt)
      have hbyte : Value.int .u8 ((u' : Int) % 128 + 128) = .int .u8 ((UInt8.ofNat (u' % 128 + 128)).toNat : Nat) := by rw [← byte_of _ (by omega)]; congr 1
      have HB := hide hbyte
      clear hbyte
      go_wp2_with (at_builtin; refine wpList_append_own _ rfl _ _ 22 rfl base 5 i0 (.int .u8 0) 1 1 Tryd.underlying22 HI.out.1 HI.out.2.1 HI.out.2.2.1 HI.out.2.2.2 rfl (by decide) _ _ _ rfl (hown'.alloc _) ⟨wr.heap.size, 0, none⟩ 1 1 [.int .u8 ((u' : Int) % 128 + 128)] rfl rfl (cell_one_new _ _ _) (by simp [Value.oneCell']) (by unfold maxLen; omega) (by omega) (by simp; omega) ?_; intro v1 w1 hown1 hg1 _)
      refine ⟨⟨u' / 128, _, by omega, by simp, hstep.out, ?_, ?_⟩, ?_⟩
      · rw [HB.out] at hown1
        rw [← List.append_assoc, bs_append, List.length_append, ← Nat.add_assoc]
        exact hown1
      · exact (hkeep.alloc (by omega) _).grown (hown'.alloc _) (Nat.le_refl _) hg1 (by simp; omega)
      · simp [intOf]; omega
    · have hlast := hide (hpart.last (by omega))
      have HB := hide (byte_of u' (by omega))
      have hlt2 : u' < 128 := by omega
      go_wp2_with (at_builtin; refine wpList_append_own _ rfl _ _ 22 rfl base 5 i0 (.int .u8 0) 1 1 Tryd.underlying22 HI.out.1 HI.out.2.1 HI.out.2.2.1 HI.out.2.2.2 rfl (by decide) _ _ _ rfl (hown'.alloc _) ⟨wr.heap.size, 0, none⟩ 1 1 [.int .u8 (u' : Int)] rfl rfl (cell_one_new _ _ _) (by simp [Value.oneCell']) (by unfold maxLen; omega) (by omega) (by simp; omega) ?_; intro v1 w1 hown1 hg1 _)
      go_ret
      obtain ⟨g, cap, rfl, _, _⟩ := hown1.form (by omega)
      have hl : n + (numeral u).length = n + d.length + 1 := by rw [hlast.out, List.length_append]; rfl
      refine ⟨g, cap, by rw [hl]; rfl, ?_, ?_⟩
      · rw [HB.out] at hown1
        rw [hl, hlast.out, ← List.append_assoc, bs_append]
        exact hown1
      · exact (hkeep.alloc (by omega) _).grown (hown'.alloc _) (Nat.le_refl _) hg1 (by simp; omega)
end Go.Proofs.YtalgceplcahgbaaDoor.Cdc

/- The writer of the program: newWriter, and what value, writeInt, writeText and writeList append to what is written so far. -/
namespace Go.Proofs.YtalgceplcahgbaaDoor.Cdc
open Go.RowKit

theorem run_make_rowN {P : Program} (t e : TypeId) (i : TypeInfo) (z : Value) (ht : P.underlying t = some (.slice e)) (hi : P.info? e = some i) (hz : i.zero = some z)
    (kl kc : IntKind) (n c : Nat) (hnc : n ≤ c) (hbytes : i.bytes * c ≤ 281474976710656) (h63 : c ≤ 9223372036854775807) (w : World) :
    (Instr.makeSlice t (.int kl (n : Int)) (.int kc (c : Int))).run P w = .ok (.slice (some ⟨w.heap.size, 0, none⟩) n c) (w.alloc (.cells (madeCells z.cells (c * i.size)) e)) := by
  have hb : (i.bytes : Int) * (c : Int) ≤ 281474976710656 := by
    have h : ((i.bytes * c : Nat) : Int) ≤ 281474976710656 := by omega
    rwa [Int.natCast_mul] at h
  have hr := run_make (P := P) w t e i z ht hi hz kl kc n c (by omega) (by omega) hb (by omega)
  simp only [Int.toNat_natCast] at hr
  exact hr

/-- The writer's block: what is written so far, and the four functions. -/
def wtr (v : Value) : Obj := .cells #[v, .nilFunc, .func (.func 107) #[] #[], .func (.func 108) #[] #[], .func (.func 109) #[] #[]] 124 (0, 0)

set_option maxHeartbeats 400000 in
theorem newWriter_any (n : Nat) (w : World) (hn : n ≤ 4294967296) : Calls Tryd.prog 98 #[.int .i64 n] w fun e w' =>
    ∃ B v, e = .returned (.pointer (some ⟨B, 0, none⟩)) ∧ w.heap.size ≤ B ∧ w'.heap[B]? = some (wtr v) ∧ w'.ownsRow w.heap.size 5 1 v 0 [] ∧ Below w.heap.size w w' := by
  obtain ⟨i0, hi, hz0, hz1, hz2⟩ := info_parts Tryd.info5
  have hmk : ∀ W : World, (Instr.makeSlice 22 (.int .i64 0) (.int .i64 n)).run Tryd.prog W = .ok (.slice (some ⟨W.heap.size, 0, none⟩) 0 n) (W.alloc (.cells (madeCells #[.int .u8 0] n) 5)) := by
    intro W
    have := run_make_rowN (P := Tryd.prog) 22 5 i0 (.int .u8 0) Tryd.underlying22 hi hz0 .i64 .i64 0 n (by omega) (by rw [hz2]; omega) (by omega) W
    rw [hz1, Nat.mul_one] at this
    exact this
  clear hi hz0 hz1 hz2
  go_enter Tryd.func98, Tryd.ntmps98
  go_wp2_with fail
  go_ret
  refine ⟨w.heap.size + 1, .slice (some ⟨w.heap.size, 0, none⟩) 0 n, rfl, by omega, ?_, ?_, ?_⟩
  · rw [show w.heap.size + 1 = (w.alloc (Obj.cells (madeCells #[Value.int .u8 0] n) 5)).heap.size by simp]
    exact heap_alloc_new _ _
  · exact (World.ownsRow_made w _ n (Nat.le_refl _) (by unfold maxLen; omega) (by simp [madeCells])).alloc _
  · exact (below_new _ _).alloc (by simp) _

/-- The writer as it stands: its block 'B', what is written so far. -/
structure WS (base B : Nat) (v : Value) (xs : List UInt8) (w : World) : Prop where
  at_ : base ≤ B
  block : w.heap[B]? = some (wtr v)
  own : w.ownsRow base 5 1 v xs.length (bs xs)

theorem WS.ne {base B : Nat} {v : Value} {xs : List UInt8} {w : World} (h : WS base B v xs w) : v.ownBlock ≠ some B := by
  intro e
  rcases h.own.2 with ⟨rfl, _⟩ | ⟨g, cap, cur, rfl, _, hg, _⟩
  · simp [Value.ownBlock] at e
  · simp [Value.ownBlock] at e
    subst e
    rw [h.block] at hg
    injection hg with hg
    injection hg with _ h2
    cases h2

theorem WS.lt {base B : Nat} {v : Value} {xs : List UInt8} {w : World} (h : WS base B v xs w) : B < w.heap.size := (Array.getElem?_eq_some_iff.1 h.block).1

theorem WS.cell {base B : Nat} {v : Value} {xs : List UInt8} {w : World} (h : WS base B v xs w) : w.cell? ⟨B, 0, none⟩ = some v ∧ w.frozen? ⟨B, 0, none⟩ = false ∧
    w.cell? ⟨B, 2, none⟩ = some (.func (.func 107) #[] #[]) ∧ w.cell? ⟨B, 3, none⟩ = some (.func (.func 108) #[] #[]) ∧ w.cell? ⟨B, 4, none⟩ = some (.func (.func 109) #[] #[]) :=
  ⟨by rw [cell_of_row w B 0 _ _ _ h.block]; rfl, frozen_of_row w B 0 _ _ h.block, by rw [cell_of_row w B 2 _ _ _ h.block]; rfl, by rw [cell_of_row w B 3 _ _ _ h.block]; rfl, by rw [cell_of_row w B 4 _ _ _ h.block]; rfl⟩

theorem WS.alloc {base B : Nat} {v : Value} {xs : List UInt8} {w : World} (h : WS base B v xs w) (o : Obj) : WS base B v xs (w.alloc o) :=
  ⟨h.at_, by rw [Below.heap_alloc _ _ _ h.lt]; exact h.block, h.own.alloc o⟩

theorem WS.drew {base B : Nat} {v : Value} {xs : List UInt8} {w : World} (h : WS base B v xs w) : WS base B v xs w.drew := ⟨h.at_, h.block, h.own⟩

/-- What is written grows, and the new slice is stored into the writer. -/
theorem WS.store {base B : Nat} {v v' : Value} {xs ys : List UInt8} {w w' : World} (h : WS base B v xs w) (hk : Keeps base w w') (hown : w'.ownsRow base 5 1 v' ys.length (bs ys)) :
    WS base B v' ys (w'.setCell ⟨B, 0, none⟩ v') ∧ Below base w (w'.setCell ⟨B, 0, none⟩ v') := by
  have hb := hk.other B _ 124 (by decide) h.block
  have hne : v'.ownBlock ≠ some B := by
    intro e
    rcases hown.2 with ⟨rfl, _⟩ | ⟨g, cap, cur, rfl, _, hg, _⟩
    · simp [Value.ownBlock] at e
    · simp [Value.ownBlock] at e
      subst e
      rw [hb] at hg
      injection hg with hg
      injection hg with _ h2
      cases h2
  refine ⟨⟨h.at_, ?_, ?_⟩, hk.below.setCell h.at_ _⟩
  · rw [heap_setCell_same w' B 0 _ _ _ hb]; rfl
  · exact hown.kept (row := some B) ⟨rfl, rfl, rfl, by simp [World.setCell], fun k _ hk => Below.heap_setCell _ _ _ _ (by intro e; exact hk (by rw [e]))⟩ (.inr hne)

/-- Behind an append to what is written, ahead of the store. -/
theorem WS.after {base B : Nat} {v : Value} {xs : List UInt8} {w w1 : World} (h : WS base B v xs w) (hg : w.grownBy w1 v.ownBlock) :
    w1.cell? ⟨B, 0, none⟩ = some v ∧ w1.frozen? ⟨B, 0, none⟩ = false := by
  have hb : w1.heap[B]? = some (wtr v) := (hg.block B h.lt (Ne.symm h.ne)).trans h.block
  exact ⟨by rw [cell_of_row w1 B 0 _ _ _ hb]; rfl, frozen_of_row w1 B 0 _ _ hb⟩

/-- A boxed value. -/
def Box (w : World) (X : Nat) (t : VT) : Prop := w.heap[X]? = some (.cells #[.int .i64 t.kind, .int .i64 t.num, .string t.str, t.sl] 106 (0, 0))
theorem Box.cells {w : World} {X : Nat} {t : VT} (h : Box w X t) : w.cell? ⟨X, 0, none⟩ = some (.int .i64 t.kind) ∧ w.cell? ⟨X, 1, none⟩ = some (.int .i64 t.num) ∧ w.cell? ⟨X, 2, none⟩ = some (.string t.str) ∧ w.cell? ⟨X, 3, none⟩ = some t.sl :=
  ⟨by rw [cell_of_row w X 0 _ _ _ h]; rfl, by rw [cell_of_row w X 1 _ _ _ h]; rfl, by rw [cell_of_row w X 2 _ _ _ h]; rfl, by rw [cell_of_row w X 3 _ _ _ h]; rfl⟩

/-- All that stands while a value is written: the writer, the value, its box. -/
structure St (base B X : Nat) (v : Value) (xs : List UInt8) (t : VT) (w0 w : World) : Prop where
  ws : WS base B v xs w
  hin : t.In w
  box : Box w X t
  below : Below base w0 w
  size : base ≤ w.heap.size

theorem St.start {base B : Nat} {v : Value} {xs : List UInt8} {t : VT} {w : World} (h : WS base B v xs w) (hin : t.In w) (hb : base ≤ w.heap.size) :
    St base B w.heap.size v xs t w (w.alloc (.cells #[.int .i64 t.kind, .int .i64 t.num, .string t.str, t.sl] 106)) :=
  ⟨h.alloc _, hin.alloc _, heap_alloc_new w _, (Below.refl _ _).alloc hb _, by simp; omega⟩

theorem St.alloc {base B X : Nat} {v : Value} {xs : List UInt8} {t : VT} {w0 w : World} (h : St base B X v xs t w0 w) (o : Obj) : St base B X v xs t w0 (w.alloc o) :=
  ⟨h.ws.alloc o, h.hin.alloc o, by unfold Box; rw [Below.heap_alloc _ _ _ (Array.getElem?_eq_some_iff.1 h.box).1]; exact h.box, h.below.alloc h.size o, by have := h.size; simp; omega⟩
theorem St.drew {base B X : Nat} {v : Value} {xs : List UInt8} {t : VT} {w0 w : World} (h : St base B X v xs t w0 w) : St base B X v xs t w0 w.drew :=
  ⟨h.ws.drew, h.hin.below (B := w.heap.size) (Below.refl _ _).drew (Nat.le_refl _), h.box, h.below.drew, h.size⟩

theorem St.store {base B X : Nat} {v v' : Value} {xs ys : List UInt8} {t : VT} {w0 w w' : World} (h : St base B X v xs t w0 w) (hX : X ≠ B) (hstay : ∀ W, Below base w W → t.In W) (hk : Keeps base w w') (hown : w'.ownsRow base 5 1 v' ys.length (bs ys)) :
    St base B X v' ys t w0 (w'.setCell ⟨B, 0, none⟩ v') := by
  obtain ⟨a, b⟩ := h.ws.store hk hown
  have hx := hk.other X _ 106 (by decide) h.box
  exact ⟨a, hstay _ b, by unfold Box; rw [Below.heap_setCell _ _ _ _ (by simpa using hX)]; exact hx, h.below.trans b, Nat.le_trans h.size b.size⟩

end Go.Proofs.YtalgceplcahgbaaDoor.Cdc

/- (*writer).value of the program: it appends the kind's byte and calls the function of the kind. -/
namespace Go.Proofs.YtalgceplcahgbaaDoor.Cdc
open Go.RowKit

set_option maxRecDepth 10000 in
set_option maxHeartbeats 1600000 in
theorem value_1 (base B : Nat) (v : Value) (xs : List UInt8) (t : VT) (w : World) (hbase : base ≤ w.heap.size) (hin : t.In w) (hstay : ∀ W, Below base w W → t.In W) (h1 : t.kind = 1) (hlen : xs.length ≤ 4294967296) (hws : WS base B v xs w)
    (ih : ∀ v' W, WS base B v' (xs ++ [1]) W → t.In W → Below base w W → Calls Tryd.prog 107 #[.pointer (some ⟨B, 0, none⟩), t.val] W fun e w' => e = .returned (.tuple #[]) ∧ Below base W w' ∧ ∃ v', WS base B v' (xs ++ t.enc) w') :
    Calls Tryd.prog 100 #[.pointer (some ⟨B, 0, none⟩), t.val] w fun e w' => e = .returned (.tuple #[]) ∧ Below base w w' ∧ ∃ v', WS base B v' (xs ++ t.enc) w' := by
  obtain ⟨i0, hi0, hz0, hz1, hz2⟩ := info_parts Tryd.info5
  have IH := fun v' W a b c => hide (ih v' W a b c)
  clear ih
  have hst := St.start hws hin hbase
  have hBX : w.heap.size ≠ B := by have := hws.lt; omega
  have HS := hide hst
  obtain ⟨c0, f0, c2, _, _⟩ := hst.ws.cell
  obtain ⟨x0, _, _, _⟩ := hst.box.cells
  clear hst
  have H1 := hide h1
  clear h1
  rw [VT.val]
  go_enter Tryd.func100, Tryd.ntmps100
  go_wp2_with fail
  generalize w.alloc (.cells #[.int .i64 t.kind, .int .i64 t.num, .string t.str, t.sl] 106) = W1 at *
  generalize w.heap.size = X at *
  have hs1 := HS.out.size
  rw [H1.out] at x0
  have ca : ∀ o, (W1.alloc o).cell? ⟨B, 0, none⟩ = some v := fun o => (HS.out.ws.alloc o).cell.1
  go_region_law (refine step_append_lies _ (by rfl) _ _ _ (by rfl) base 5 i0 _ 1 1 Tryd.underlying22 hi0 hz0 hz1 hz2 rfl (by omega) v xs.length (bs xs) (by rfl) ((HS.out.ws.own.alloc _).drew) ⟨W1.heap.size, 0, none⟩ 1 1 [.int .u8 1] (by rfl) (by rfl) (World.news_of_block (cs := #[.int .u8 1]) (t := 5) (fr := (0, 0)) (heap_alloc_new W1 _)) (by simp [Value.oneCell']) (by omega) (by unfold maxLen; omega) (by omega) (by simp; omega) (W1.heap.size + 1) (by simp) ?_; intro gg cap w1 hown1 hgrow hat hlt; obtain ⟨g0, g1⟩ := (HS.out.ws.alloc _).drew.after hgrow)
  all_goals (
    have hst2 := hide (St.store (ys := xs ++ [1]) ((HS.out.alloc (.cells #[.int .u8 1] 5)).drew) hBX (fun W hW => hstay W (((HS.out.alloc _).drew).below.trans hW))
      ((Keeps.refl base _).grown (((HS.out.alloc _).drew).ws.own) (Nat.le_refl _) hgrow (by simp; omega)) (by rw [bs_append, List.length_append]; exact hown1))
    go_wp2_with fail
    generalize w1.setCell ⟨B, 0, none⟩ _ = W2 at *
    obtain ⟨d0, e0, d2, _, _⟩ := hst2.out.ws.cell
    obtain ⟨y0, y1, y2, y3⟩ := hst2.out.box.cells
    rw [H1.out] at y0
    go_still_tail 9, (by kernel_rfl)
    change wpList _ _ _ _ _ W2.drew
    have hst3 := hide hst2.out.drew
    have hc := (IH _ _ hst3.out.ws hst3.out.hin hst3.out.below).out
    rw [VT.val, H1.out] at hc
    have HC := hide hc
    clear hc d0 e0 d2 y0 y1 y2 y3
    generalize W2.drew = W3 at *
    go_wp2_with (go_at_call 107; refine HC.out.mono ?_; rintro e w' ⟨rfl, hb', hws'⟩)
    go_end0
    exact ⟨rfl, hst3.out.below.trans hb', hws'⟩)
set_option maxRecDepth 10000 in
set_option maxHeartbeats 1600000 in
theorem value_2 (base B : Nat) (v : Value) (xs : List UInt8) (t : VT) (w : World) (hbase : base ≤ w.heap.size) (hin : t.In w) (hstay : ∀ W, Below base w W → t.In W) (h1 : t.kind = 2) (hlen : xs.length ≤ 4294967296) (hws : WS base B v xs w)
    (ih : ∀ v' W, WS base B v' (xs ++ [2]) W → t.In W → Below base w W → Calls Tryd.prog 108 #[.pointer (some ⟨B, 0, none⟩), t.val] W fun e w' => e = .returned (.tuple #[]) ∧ Below base W w' ∧ ∃ v', WS base B v' (xs ++ t.enc) w') :
    Calls Tryd.prog 100 #[.pointer (some ⟨B, 0, none⟩), t.val] w fun e w' => e = .returned (.tuple #[]) ∧ Below base w w' ∧ ∃ v', WS base B v' (xs ++ t.enc) w' := by
  obtain ⟨i0, hi0, hz0, hz1, hz2⟩ := info_parts Tryd.info5
  have IH := fun v' W a b c => hide (ih v' W a b c)
  clear ih
  have hst := St.start hws hin hbase
  have hBX : w.heap.size ≠ B := by have := hws.lt; omega
  have HS := hide hst
  obtain ⟨c0, f0, c2, _, _⟩ := hst.ws.cell
  obtain ⟨x0, _, _, _⟩ := hst.box.cells
  clear hst
  have H1 := hide h1
  clear h1
  rw [VT.val]
  go_enter Tryd.func100, Tryd.ntmps100
  go_wp2_with fail
  generalize w.alloc (.cells #[.int .i64 t.kind, .int .i64 t.num, .string t.str, t.sl] 106) = W1 at *
  generalize w.heap.size = X at *
  have hs1 := HS.out.size
  rw [H1.out] at x0
  have ca : ∀ o, (W1.alloc o).cell? ⟨B, 0, none⟩ = some v := fun o => (HS.out.ws.alloc o).cell.1
  go_region_law (refine step_append_lies _ (by rfl) _ _ _ (by rfl) base 5 i0 _ 1 1 Tryd.underlying22 hi0 hz0 hz1 hz2 rfl (by omega) v xs.length (bs xs) (by rfl) ((HS.out.ws.own.alloc _).drew) ⟨W1.heap.size, 0, none⟩ 1 1 [.int .u8 2] (by rfl) (by rfl) (World.news_of_block (cs := #[.int .u8 2]) (t := 5) (fr := (0, 0)) (heap_alloc_new W1 _)) (by simp [Value.oneCell']) (by omega) (by unfold maxLen; omega) (by omega) (by simp; omega) (W1.heap.size + 1) (by simp) ?_; intro gg cap w1 hown1 hgrow hat hlt; obtain ⟨g0, g1⟩ := (HS.out.ws.alloc _).drew.after hgrow)
  all_goals (
    have hst2 := hide (St.store (ys := xs ++ [2]) ((HS.out.alloc (.cells #[.int .u8 2] 5)).drew) hBX (fun W hW => hstay W (((HS.out.alloc _).drew).below.trans hW))
      ((Keeps.refl base _).grown (((HS.out.alloc _).drew).ws.own) (Nat.le_refl _) hgrow (by simp; omega)) (by rw [bs_append, List.length_append]; exact hown1))
    go_wp2_with fail
    generalize w1.setCell ⟨B, 0, none⟩ _ = W2 at *
    obtain ⟨d0, e0, d2, _, _⟩ := hst2.out.ws.cell
    obtain ⟨y0, y1, y2, y3⟩ := hst2.out.box.cells
    rw [H1.out] at y0
    go_still_tail 9, (by kernel_rfl)
    change wpList _ _ _ _ _ W2.drew
    have hst3 := hide hst2.out.drew
    have hc := (IH _ _ hst3.out.ws hst3.out.hin hst3.out.below).out
    rw [VT.val, H1.out] at hc
    have HC := hide hc
    clear hc d0 e0 d2 y0 y1 y2 y3
    generalize W2.drew = W3 at *
    go_wp2_with (go_at_call 108; refine HC.out.mono ?_; rintro e w' ⟨rfl, hb', hws'⟩)
    go_end0
    exact ⟨rfl, hst3.out.below.trans hb', hws'⟩)
set_option maxRecDepth 10000 in
set_option maxHeartbeats 1600000 in
theorem value_3 (base B : Nat) (v : Value) (xs : List UInt8) (t : VT) (w : World) (hbase : base ≤ w.heap.size) (hin : t.In w) (hstay : ∀ W, Below base w W → t.In W) (h1 : t.kind = 3) (hlen : xs.length ≤ 4294967296) (hws : WS base B v xs w)
    (ih : ∀ v' W, WS base B v' (xs ++ [3]) W → t.In W → Below base w W → Calls Tryd.prog 109 #[.pointer (some ⟨B, 0, none⟩), t.val] W fun e w' => e = .returned (.tuple #[]) ∧ Below base W w' ∧ ∃ v', WS base B v' (xs ++ t.enc) w') :
    Calls Tryd.prog 100 #[.pointer (some ⟨B, 0, none⟩), t.val] w fun e w' => e = .returned (.tuple #[]) ∧ Below base w w' ∧ ∃ v', WS base B v' (xs ++ t.enc) w' := by
  obtain ⟨i0, hi0, hz0, hz1, hz2⟩ := info_parts Tryd.info5
  have IH := fun v' W a b c => hide (ih v' W a b c)
  clear ih
  have hst := St.start hws hin hbase
  have hBX : w.heap.size ≠ B := by have := hws.lt; omega
  have HS := hide hst
  obtain ⟨c0, f0, c2, _, _⟩ := hst.ws.cell
  obtain ⟨x0, _, _, _⟩ := hst.box.cells
  clear hst
  have H1 := hide h1
  clear h1
  rw [VT.val]
  go_enter Tryd.func100, Tryd.ntmps100
  go_wp2_with fail
  generalize w.alloc (.cells #[.int .i64 t.kind, .int .i64 t.num, .string t.str, t.sl] 106) = W1 at *
  generalize w.heap.size = X at *
  have hs1 := HS.out.size
  rw [H1.out] at x0
  have ca : ∀ o, (W1.alloc o).cell? ⟨B, 0, none⟩ = some v := fun o => (HS.out.ws.alloc o).cell.1
  go_region_law (refine step_append_lies _ (by rfl) _ _ _ (by rfl) base 5 i0 _ 1 1 Tryd.underlying22 hi0 hz0 hz1 hz2 rfl (by omega) v xs.length (bs xs) (by rfl) ((HS.out.ws.own.alloc _).drew) ⟨W1.heap.size, 0, none⟩ 1 1 [.int .u8 3] (by rfl) (by rfl) (World.news_of_block (cs := #[.int .u8 3]) (t := 5) (fr := (0, 0)) (heap_alloc_new W1 _)) (by simp [Value.oneCell']) (by omega) (by unfold maxLen; omega) (by omega) (by simp; omega) (W1.heap.size + 1) (by simp) ?_; intro gg cap w1 hown1 hgrow hat hlt; obtain ⟨g0, g1⟩ := (HS.out.ws.alloc _).drew.after hgrow)
  all_goals (
    have hst2 := hide (St.store (ys := xs ++ [3]) ((HS.out.alloc (.cells #[.int .u8 3] 5)).drew) hBX (fun W hW => hstay W (((HS.out.alloc _).drew).below.trans hW))
      ((Keeps.refl base _).grown (((HS.out.alloc _).drew).ws.own) (Nat.le_refl _) hgrow (by simp; omega)) (by rw [bs_append, List.length_append]; exact hown1))
    go_wp2_with fail
    generalize w1.setCell ⟨B, 0, none⟩ _ = W2 at *
    obtain ⟨d0, e0, d2, _, _⟩ := hst2.out.ws.cell
    obtain ⟨y0, y1, y2, y3⟩ := hst2.out.box.cells
    rw [H1.out] at y0
    go_still_tail 9, (by kernel_rfl)
    change wpList _ _ _ _ _ W2.drew
    have hst3 := hide hst2.out.drew
    have hc := (IH _ _ hst3.out.ws hst3.out.hin hst3.out.below).out
    rw [VT.val, H1.out] at hc
    have HC := hide hc
    clear hc d0 e0 d2 y0 y1 y2 y3
    generalize W2.drew = W3 at *
    go_wp2_with (go_at_call 109; refine HC.out.mono ?_; rintro e w' ⟨rfl, hb', hws'⟩)
    go_end0
    exact ⟨rfl, hst3.out.below.trans hb', hws'⟩)
end Go.Proofs.YtalgceplcahgbaaDoor.Cdc

/- writeInt and writeText of the program append the numeral, and the text. -/
namespace Go.Proofs.YtalgceplcahgbaaDoor.Cdc
open Go.RowKit

/-- Behind a call that appends to what is written, ahead of the store. -/
theorem WS.kept {base B : Nat} {v : Value} {xs : List UInt8} {w w1 : World} (h : WS base B v xs w) (hk : Keeps base w w1) :
    w1.cell? ⟨B, 0, none⟩ = some v ∧ w1.frozen? ⟨B, 0, none⟩ = false := by
  have hb : w1.heap[B]? = some (wtr v) := hk.other B _ 124 (by decide) h.block
  exact ⟨by rw [cell_of_row w1 B 0 _ _ _ hb]; rfl, frozen_of_row w1 B 0 _ _ hb⟩

set_option maxRecDepth 10000 in
set_option maxHeartbeats 1600000 in
theorem writeInt_any (base B : Nat) (v : Value) (xs : List UInt8) (t : VT) (w : World) (hbase : base ≤ w.heap.size) (hin : t.In w) (hstay : ∀ W, Below base w W → t.In W) (hlen : xs.length ≤ 4294967296) (hws : WS base B v xs w) :
    Calls Tryd.prog 107 #[.pointer (some ⟨B, 0, none⟩), t.val] w fun e w' => e = .returned (.tuple #[]) ∧ Below base w w' ∧ ∃ v', WS base B v' (xs ++ numeral (uns t.num)) w' := by
  have hst := St.start hws hin hbase
  have hBX : w.heap.size ≠ B := by have := hws.lt; omega
  have HS := hide hst
  obtain ⟨c0, f0, c2, _, _⟩ := hst.ws.cell
  obtain ⟨_, x1, _, _⟩ := hst.box.cells
  obtain ⟨_, hn, _, _⟩ := hin.facts
  have hu := uns_lt hn.1 hn.2
  clear hst
  rw [VT.val]
  go_enter Tryd.func107, Tryd.ntmps107
  go_wp2_with fail
  generalize w.alloc (.cells #[.int .i64 t.kind, .int .i64 t.num, .string t.str, t.sl] 106) = W1 at *
  generalize w.heap.size = X at *
  have hs1 := HS.out.size
  have hn2 : xs.length ≤ 8589934592 := by omega
  go_region_law (first
    | (go_simp; go_at_call 111; refine (unsignedForm_any _ _ (by omega) (by omega)).mono ?_; rintro e w' ⟨rfl, rfl⟩)
    | (go_simp; go_at_call 114; refine (appendNumeral_any base _ v xs _ W1.drew hu hs1 hn2 HS.out.drew.ws.own).mono ?_; rintro e w1 ⟨g1, cap, rfl, hown1, hk1⟩; obtain ⟨g0, g1⟩ := HS.out.drew.ws.kept hk1))
  all_goals (
    have hst2 := hide (St.store (ys := xs ++ numeral (uns t.num)) HS.out.drew hBX (fun W hW => hstay W (HS.out.drew.below.trans hW)) hk1 (by rw [List.length_append]; exact hown1))
    go_wp2_with fail
    go_end0
    exact ⟨rfl, hst2.out.below, _, hst2.out.ws⟩)

/-- 'append(b, s...)', s a string, at a step of a region that draws. -/
theorem step_append_string {P : Program} (w : World) {ops : Array Oper} {o : Oper} {a : Act} {K : Act → World → Prop} {Q : Exit → Act → World → Prop} {E : Prop} (hgd : o.guard = none) (sl x : Operand) (t u : TypeId)
    (ho : o.op = .call { callee := .builtin .append, args := #[sl, x], argTypes := #[t, u] })
    (base : Nat) (e : TypeId) (i : TypeInfo) (ht : P.underlying t = some (.slice e)) (hu : P.underlying u = some .string) (hi : P.info? e = some i) (hz : i.zero = some (.int .u8 0)) (hsize : i.size = 1) (hby : i.bytes = 1)
    (v : Value) (n : Nat) (xs : List Value) (hs : a.eval sl = v) (hown : w.ownsRow base e 1 v n xs) (s : ByteArray) (hx : a.eval x = .string s) (hn : 0 < n)
    (h63 : n + s.size ≤ maxLen) (hbytes : n + s.size ≤ 140737488355328) (hbase : base ≤ w.heap.size)
    (h : ∀ g cap w', w'.ownsRow base e 1 (.slice (some ⟨g, 0, none⟩) (n + s.size) cap) (n + s.size) (xs ++ Lib.strCells s) → w.grownBy w' v.ownBlock → K (a.put o.dst (.slice (some ⟨g, 0, none⟩) (n + s.size) cap)) w') :
    if Region.wanted o (yielded ops a.tmps) = true then Oper.wp P o a w K Q else E := by
  have hw : Region.wanted o (yielded ops a.tmps) = true := by simp [Region.wanted, hgd]
  rw [if_pos hw]
  obtain ⟨v', w', hr, h2, h3, _⟩ := Lib.run_append_own_string (P := P) w base t u o.type e i ht hu hi hz hsize hby v n xs hown s h63 hbytes hbase
  obtain ⟨g, cap, rfl, _, _⟩ := h2.form (by omega)
  unfold Oper.wp execOp
  simp only [ho, resolve, invoke, builtin, Sem.run_bind, Sem.run_pure, Result.andThen_ok, List.map_toArray, List.map_cons, List.map_nil, hs, hx, hr]
  exact h g cap w' h2 h3

set_option maxRecDepth 10000 in
set_option maxHeartbeats 1600000 in
theorem writeText_any (base B : Nat) (v : Value) (xs : List UInt8) (t : VT) (w : World) (hbase : base ≤ w.heap.size) (hin : t.In w) (hstay : ∀ W, Below base w W → t.In W) (hlen : xs.length + t.str.size ≤ 4294967296) (hws : WS base B v xs w) :
    Calls Tryd.prog 108 #[.pointer (some ⟨B, 0, none⟩), t.val] w fun e w' => e = .returned (.tuple #[]) ∧ Below base w w' ∧ ∃ v', WS base B v' (xs ++ (numeral t.str.size ++ t.str.data.toList)) w' := by
  obtain ⟨i0, hi0, hz0, hz1, hz2⟩ := info_parts Tryd.info5
  have HI := hide (And.intro hi0 (And.intro hz0 (And.intro hz1 hz2)))
  clear hi0 hz0 hz1 hz2
  have hst := St.start hws hin hbase
  have hBX : w.heap.size ≠ B := by have := hws.lt; omega
  have HS := hide hst
  obtain ⟨c0, f0, c2, _, _⟩ := hst.ws.cell
  obtain ⟨_, _, x2, _⟩ := hst.box.cells
  obtain ⟨_, _, hsz, _⟩ := hin.facts
  have hu : t.str.size < 18446744073709551616 := by omega
  have hnl := (numeral_len hu).2.1
  have hnl1 := (numeral_len hu).2.2
  clear hst
  rw [VT.val]
  go_enter Tryd.func108, Tryd.ntmps108
  go_wp2_with fail
  generalize w.alloc (.cells #[.int .i64 t.kind, .int .i64 t.num, .string t.str, t.sl] 106) = W1 at *
  generalize w.heap.size = X at *
  have hs1 := HS.out.size
  have hn2 : xs.length ≤ 8589934592 := by omega
  have hwr : IntKind.u64.wrap (t.str.size : Int) = t.str.size := by rw [IntKind.wrap_u64]; omega
  go_region_law ((go_simp; go_at_call 114; refine (appendNumeral_any base _ v xs _ W1.drew hu hs1 hn2 HS.out.drew.ws.own).mono ?_; rintro e w1 ⟨gb, cap, rfl, hown1, hk1⟩; obtain ⟨g0, g1⟩ := HS.out.drew.ws.kept hk1))
  all_goals (
    have hst2 := hide (St.store (ys := xs ++ numeral t.str.size) HS.out.drew hBX (fun W hW => hstay W (HS.out.drew.below.trans hW)) hk1 (by rw [List.length_append]; exact hown1))
    go_wp2_with fail
    generalize w1.setCell ⟨B, 0, none⟩ _ = W2 at *
    obtain ⟨d0, e0, _, _, _⟩ := hst2.out.ws.cell
    obtain ⟨_, _, y2, _⟩ := hst2.out.box.cells
    have hs2 := hst2.out.size
    have hn3 : xs.length + (numeral t.str.size).length + t.str.size ≤ 8589934592 := by omega
    have own2 := hide (show W2.drew.ownsRow base 5 1 (Value.slice (some ⟨gb, 0, none⟩) (xs.length + (numeral t.str.size).length) cap) (xs.length + (numeral t.str.size).length) (bs (xs ++ numeral t.str.size)) from by have := hst2.out.drew.ws.own; rwa [List.length_append] at this)
    go_region_law (refine step_append_string _ (by rfl) _ _ _ _ (by rfl) base 5 i0 Tryd.underlying22 Tryd.underlying9 HI.out.1 HI.out.2.1 HI.out.2.2.1 HI.out.2.2.2 _ _ (bs (xs ++ numeral t.str.size)) (by rfl) own2.out t.str (by rfl) (by omega) (by unfold maxLen; omega) (by omega) hs2 ?_; intro gc cap2 w2 hown2 hgrow2; obtain ⟨k0, k1⟩ := hst2.out.drew.ws.after hgrow2)
    all_goals (
      have hys : (xs ++ (numeral t.str.size ++ t.str.data.toList)).length = xs.length + (numeral t.str.size).length + t.str.size := by
        rw [List.length_append, List.length_append, ← Nat.add_assoc, Array.length_toList]; rfl
      have hst3 := hide (St.store (ys := xs ++ (numeral t.str.size ++ t.str.data.toList)) hst2.out.drew hBX (fun W hW => hstay W (hst2.out.drew.below.trans hW)) ((Keeps.refl base _).grown own2.out (Nat.le_refl _) hgrow2 hs2)
        (by rw [hys, ← List.append_assoc, bs_append]; exact hown2))
      clear hys
      go_wp2_with fail
      go_end0
      exact ⟨rfl, hst3.out.below, _, hst3.out.ws⟩))
end Go.Proofs.YtalgceplcahgbaaDoor.Cdc

/- writeList of the program appends the number of elements and the elements' encodings; value, whatever the kind. -/
namespace Go.Proofs.YtalgceplcahgbaaDoor.Cdc
open Go.RowKit

def ValPost (base B : Nat) (xs : List UInt8) (w : World) (e : Ending) (w' : World) : Prop := e = .returned (.tuple #[]) ∧ Below base w w' ∧ ∃ v', WS base B v' xs w'

/-- The contract of (*writer).value at one tree. -/
def ValAt (t : VT) : Prop := ∀ (base B : Nat) (v : Value) (xs : List UInt8) (w : World), base ≤ w.heap.size → t.In w → (∀ W, Below base w W → t.In W) → t.wf = true → xs.length + t.enc.length ≤ 4294967296 → WS base B v xs w →
    Calls Tryd.prog 100 #[.pointer (some ⟨B, 0, none⟩), t.val] w (ValPost base B (xs ++ t.enc) w)

set_option maxRecDepth 10000 in
set_option maxHeartbeats 1600000 in
theorem writeList_any (base B : Nat) (v : Value) (xs : List UInt8) (t : VT) (w : World) (hbase : base ≤ w.heap.size) (hin : t.In w) (hstay : ∀ W, Below base w W → t.In W)
    (hwf : VT.wf.wfs t.els = true) (hlen : xs.length + (numeral t.els.length).length + (VT.enc.encs t.els).length ≤ 4294967296) (hws : WS base B v xs w) (ih : ∀ i (h : i < t.els.length), ValAt t.els[i]) :
    Calls Tryd.prog 109 #[.pointer (some ⟨B, 0, none⟩), t.val] w (ValPost base B (xs ++ (numeral t.els.length ++ VT.enc.encs t.els)) w) := by
  have hst := St.start hws hin hbase
  have hBX : w.heap.size ≠ B := by have := hws.lt; omega
  have HS := hide hst
  obtain ⟨c0, f0, c2, _, _⟩ := hst.ws.cell
  obtain ⟨_, _, _, x3⟩ := hst.box.cells
  obtain ⟨_, _, _, hel⟩ := hin.facts
  have hu : t.els.length < 18446744073709551616 := by omega
  have hnl := (numeral_len hu).2.1
  have hnl1 := (numeral_len hu).2.2
  clear hst
  obtain ⟨A, hv, hsl, hA⟩ := hin.open
  have HSL := hide hsl
  rw [VT.val]
  clear hsl hv
  go_enter Tryd.func109, Tryd.ntmps109
  go_wp2_with fail
  generalize w.alloc (.cells #[.int .i64 t.kind, .int .i64 t.num, .string t.str, t.sl] 106) = W1 at *
  generalize w.heap.size = X at *
  have hs1 := HS.out.size
  rw [HSL.out] at x3
  have hn2 : xs.length ≤ 8589934592 := by omega
  have hwr : IntKind.u64.wrap (t.els.length : Int) = t.els.length := by rw [IntKind.wrap_u64]; omega
  go_region_law ((go_simp; go_at_call 114; refine (appendNumeral_any base _ v xs _ W1.drew hu hs1 hn2 HS.out.drew.ws.own).mono ?_; rintro e w1 ⟨gb, cap, rfl, hown1, hk1⟩; obtain ⟨g0, g1⟩ := HS.out.drew.ws.kept hk1))
  all_goals (
    have hst2 := hide (St.store (ys := xs ++ numeral t.els.length) HS.out.drew hBX (fun W hW => hstay W (HS.out.drew.below.trans hW)) hk1 (by rw [List.length_append]; exact hown1))
    clear hwr
    generalize w1.setCell ⟨B, 0, none⟩ _ = W2 at *
    obtain ⟨_, _, _, y3⟩ := hst2.out.box.cells
    rw [HSL.out] at y3
    clear c0 f0 c2 x3 g0 g1
    go_wp2_with fail)
  all_goals (
    clear hown1 hk1
    go_loopw [21] (fun i wr => ∃ k : Nat, k ≤ t.els.length ∧ i = .int .i64 k ∧ (∃ v', WS base B v' (xs ++ (numeral t.els.length ++ VT.enc.encs (t.els.take k))) wr) ∧ Below base w wr ∧ base ≤ wr.heap.size) (fun i _ => t.els.length - (intOf i).toNat)
    case atStart => exact ⟨0, Nat.zero_le _, rfl, ⟨_, by simpa [VT.enc.encs] using hst2.out.ws⟩, hst2.out.below, hst2.out.size⟩
    case round =>
      obtain ⟨k, hk, rfl, ⟨v', hw'⟩, hb, hs2⟩ := hrel
      have hle := VT.encs_take_le t.els k
      by_cases hlt : k < t.els.length
      · obtain ⟨b, o, rfl, ha⟩ := hA k hlt
        have hint := hstay wr hb
        obtain ⟨⟨q0, q1, q2, q3⟩, hink⟩ := hint.el ha hlt
        have HA := hide ha
        clear ha
        have hsk := VT.encs_get_le hlt
        have HT := hide (VT.encs_take hlt)
        have HWF := VT.wfs_iff.1 hwf k hlt
        have hlx : (xs ++ (numeral t.els.length ++ VT.enc.encs (t.els.take k))).length + (t.els[k]).enc.length ≤ 4294967296 := by simp only [List.length_append]; omega
        have HC := hide (ih k hlt base B v' _ (wr.alloc (.cells #[.int .i64 (t.els[k]).kind, .int .i64 (t.els[k]).num, .string (t.els[k]).str, (t.els[k]).sl] 106)) (by simp; omega) (hink.alloc _)
          (fun W hW => ((hstay W (hb.trans (((Below.refl _ _).alloc hs2 _).trans hW))).el HA.out hlt).2) HWF hlx (hw'.alloc _))
        clear ih hlx HWF
        go_wp2_with (go_at_call 100; refine HC.out.mono ?_; rintro e w' ⟨rfl, hb', hws'⟩)
        refine ⟨⟨k + 1, by omega, by go_num, ?_, ?_, ?_⟩, by simp [intOf]; omega⟩
        · rw [HT.out]
          simpa only [List.append_assoc] using hws'
        · exact hb.trans (((Below.refl _ _).alloc hs2 _).trans hb')
        · have := hb'.size; simp at this; omega
      · obtain rfl : k = t.els.length := by omega
        have HF := hide (List.take_length (l := t.els))
        go_wp2_with fail
        go_end0
        rw [HF.out] at hw'
        exact ⟨rfl, hb, _, hw'⟩)

theorem value_step (t : VT) (ih : ∀ i (h : i < t.els.length), ValAt t.els[i]) : ValAt t := by
  intro base B v xs w hbase hin hstay hwf hlen hws
  have he := VT.enc_eq t
  have hw := VT.wf_eq t
  by_cases h1 : t.kind = 1
  · have hE : t.enc = 1 :: numeral (uns t.num) := by rw [he, if_pos h1]
    refine value_1 base B v xs t w hbase hin hstay h1 (by omega) hws fun v' W hW hinW hbW => ?_
    have := writeInt_any base B v' (xs ++ [1]) t W (Nat.le_trans hbase hbW.size) hinW (fun W2 h2 => hstay W2 (hbW.trans h2)) (by rw [hE] at hlen; simp at hlen ⊢; omega) hW
    rw [hE]
    simpa using this
  · by_cases h2 : t.kind = 2
    · have hE : t.enc = 2 :: (numeral t.str.size ++ t.str.data.toList) := by rw [he, if_neg h1, if_pos h2]
      refine value_2 base B v xs t w hbase hin hstay h2 (by omega) hws fun v' W hW hinW hbW => ?_
      have := writeText_any base B v' (xs ++ [2]) t W (Nat.le_trans hbase hbW.size) hinW (fun W2 h2 => hstay W2 (hbW.trans h2)) (by
        rw [hE] at hlen
        have hl := (numeral_len (u := t.str.size) (by have := hin.facts.2.2.1; omega)).2.2
        simp at hlen ⊢
        omega) hW
      rw [hE]
      simpa using this
    · have h3 : t.kind = 3 := by
        rw [hw] at hwf
        by_cases h3 : t.kind = 3
        · exact h3
        · simp [h1, h2, h3] at hwf
      have hE : t.enc = 3 :: (numeral t.els.length ++ VT.enc.encs t.els) := by rw [he, if_neg h1, if_neg h2]
      have hwfs : VT.wf.wfs t.els = true := by
        rw [hw] at hwf
        simp [h3] at hwf
        exact hwf.2
      refine value_3 base B v xs t w hbase hin hstay h3 (by omega) hws fun v' W hW hinW hbW => ?_
      have hel := hin.facts.2.2.2
      have hl := (numeral_len (u := t.els.length) (by omega)).2
      have := writeList_any base B v' (xs ++ [3]) t W (Nat.le_trans hbase hbW.size) hinW (fun W2 h2 => hstay W2 (hbW.trans h2)) hwfs (by
        rw [hE] at hlen
        simp at hlen ⊢
        omega) hW ih
      rw [hE]
      rw [show xs ++ [3] ++ (numeral t.els.length ++ VT.enc.encs t.els) = xs ++ 3 :: (numeral t.els.length ++ VT.enc.encs t.els) by simp] at this
      exact this

theorem value_any : ∀ (N : Nat) (t : VT), t.sz ≤ N → ValAt t := by
  intro N
  induction N with
  | zero => intro t h; cases t; simp [VT.sz] at h
  | succ N ih => exact fun t h => value_step t fun i hi => ih _ (by have := VT.sz_lt hi; omega)
end Go.Proofs.YtalgceplcahgbaaDoor.Cdc

/- Check, Size and Encode of the program: the error, and the length and the bytes of the encoding. -/
namespace Go.Proofs.YtalgceplcahgbaaDoor.Cdc
open Go.RowKit

/-- The error of Check. -/
def chk (t : VT) : Nat := if t.wf = true then (if 16 < t.dep then 2 else 0) else 1

set_option maxHeartbeats 400000 in
theorem check_any (t : VT) (w : World) (hin : t.In w) (hsz : t.sz ≤ 1000000) : Calls Tryd.prog 97 #[t.val] w fun e w' => e = .returned (.int .i64 (chk t : Nat)) ∧ Below w.heap.size w w' := by
  have hd := VT.dep_le t
  have H1 := fun W hW => hide (wellFormed_any t.sz t (Nat.le_refl _) W hW)
  have H2 := fun W hW => hide (depth_any t.sz t (Nat.le_refl _) W hW hsz)
  by_cases hwf : t.wf = true
  · by_cases hdp : 16 < t.dep
    · have HC := hide (show chk t = 2 by simp [chk, hwf, hdp])
      have hgt : decide ((t.dep : Int) > 16) = true := by simp; omega
      rw [hwf] at H1
      clear hwf
      go_enter Tryd.func97, Tryd.ntmps97
      go_wp2_with (first | (go_at_call 105; refine (H1 _ (hin.alloc _)).out.mono ?_; rintro e w1 ⟨rfl, hb1⟩; have c0 := hb1.cell (p := ⟨w.heap.size, 0, none⟩) (by simp); have c1 := hb1.cell (p := ⟨w.heap.size, 1, none⟩) (by simp); have c2 := hb1.cell (p := ⟨w.heap.size, 2, none⟩) (by simp); have c3 := hb1.cell (p := ⟨w.heap.size, 3, none⟩) (by simp)) | (go_at_call 106; refine (H2 _ ((hin.alloc _).later ‹_›)).out.mono ?_; rintro e w2 ⟨rfl, hb2⟩))
      go_ret
      exact ⟨by rw [HC.out]; rfl, below_one (below_two (Below.refl _ _) hb1) hb2⟩
    · have HC := hide (show chk t = 0 by simp [chk, hwf, hdp])
      have hgt : decide ((t.dep : Int) > 16) = false := by simp; omega
      rw [hwf] at H1
      clear hwf
      go_enter Tryd.func97, Tryd.ntmps97
      go_wp2_with (first | (go_at_call 105; refine (H1 _ (hin.alloc _)).out.mono ?_; rintro e w1 ⟨rfl, hb1⟩; have c0 := hb1.cell (p := ⟨w.heap.size, 0, none⟩) (by simp); have c1 := hb1.cell (p := ⟨w.heap.size, 1, none⟩) (by simp); have c2 := hb1.cell (p := ⟨w.heap.size, 2, none⟩) (by simp); have c3 := hb1.cell (p := ⟨w.heap.size, 3, none⟩) (by simp)) | (go_at_call 106; refine (H2 _ ((hin.alloc _).later ‹_›)).out.mono ?_; rintro e w2 ⟨rfl, hb2⟩))
      go_ret
      exact ⟨by rw [HC.out]; rfl, below_one (below_two (Below.refl _ _) hb1) hb2⟩
  · have HC := hide (show chk t = 1 by simp [chk, hwf])
    rw [Bool.eq_false_iff.2 hwf] at H1
    clear hwf
    go_enter Tryd.func97, Tryd.ntmps97
    go_wp2_with (first | (go_at_call 105; refine (H1 _ (hin.alloc _)).out.mono ?_; rintro e w1 ⟨rfl, hb1⟩; have c0 := hb1.cell (p := ⟨w.heap.size, 0, none⟩) (by simp); have c1 := hb1.cell (p := ⟨w.heap.size, 1, none⟩) (by simp); have c2 := hb1.cell (p := ⟨w.heap.size, 2, none⟩) (by simp); have c3 := hb1.cell (p := ⟨w.heap.size, 3, none⟩) (by simp)) | (go_at_call 106; refine (H2 _ ((hin.alloc _).later ‹_›)).out.mono ?_; rintro e w2 ⟨rfl, hb2⟩))
    go_ret
    exact ⟨by rw [HC.out]; rfl, below_two (Below.refl _ _) hb1⟩

theorem Box.later {w w' : World} {X : Nat} {t : VT} (h : Box w X t) (hb : Below w.heap.size w w') : Box w' X t := (hb.block X (Array.getElem?_eq_some_iff.1 h).1).trans h
theorem Box.new (w : World) (t : VT) : Box (w.alloc (.cells #[.int .i64 t.kind, .int .i64 t.num, .string t.str, t.sl] 106)) w.heap.size t := heap_alloc_new w _
theorem own_weak {w : World} {base base' : Nat} {e : TypeId} {size : Nat} {v : Value} {n : Nat} {xs : List Value} (h : w.ownsRow base e size v n xs) (hb : base' ≤ base) : w.ownsRow base' e size v n xs := by
  refine ⟨h.1, ?_⟩
  rcases h.2 with h | ⟨g, cap, cur, a, b, c⟩
  · exact .inl h
  · exact .inr ⟨g, cap, cur, a, Nat.le_trans hb b, c⟩

/-- What Encode returns: the error, or a slice of its own that holds the encoding. -/
def EncPost (t : VT) (w : World) (e : Ending) (w' : World) : Prop :=
  ∃ v, e = .returned (.tuple #[v, .int .i64 (chk t : Nat)]) ∧ Below w.heap.size w w' ∧ (if chk t = 0 then w'.ownsRow w.heap.size 5 1 v t.enc.length (bs t.enc) else v = .slice none 0 0)

set_option maxRecDepth 10000 in
set_option maxHeartbeats 800000 in
theorem encode_any (t : VT) (w : World) (hin : t.In w) (hsz : t.sz ≤ 1000000) (hlen : t.enc.length ≤ 4294967296) : Calls Tryd.prog 94 #[t.val] w (EncPost t w) := by
  have H1 := fun W hW => hide (check_any t W hW hsz)
  by_cases hc : chk t = 0
  · have HP := hide hc
    rw [hc] at H1
    have hwf : t.wf = true := by
      cases h : t.wf with
      | true => rfl
      | false => simp [chk, h] at hc
    clear hc
    have H2 := fun W hW => hide (size_any t.sz t (Nat.le_refl _) W hW hlen)
    have H3 := hide (value_any t.sz t (Nat.le_refl _))
    have H4 := fun W => hide (newWriter_any t.enc.length W hlen)
    go_enter Tryd.func94, Tryd.ntmps94
    go_wp2_with (first | (go_at_call 97; refine (H1 _ (hin.alloc _)).out.mono ?_; rintro e w1 ⟨rfl, hb1⟩; have bx1 := hide ((Box.new w t).later hb1); obtain ⟨c0, c1, c2, c3⟩ := bx1.out.cells) | (go_at_call 99; refine (H2 _ ((hin.alloc _).later hb1)).out.mono ?_; rintro e w2 ⟨rfl, hb2⟩; have bx2 := hide (bx1.out.later hb2)) | (go_at_call 98; refine (H4 _).out.mono ?_; rintro e w3 ⟨B, v, rfl, hB, hblk, hown, hb3⟩; have bx3 := hide (bx2.out.later hb3); clear c0 c1 c2 c3; obtain ⟨d0, d1, d2, d3⟩ := bx3.out.cells) | (go_at_call 100; refine (H3.out w2.heap.size B v [] w3 hb3.size ((((hin.alloc _).later hb1).later hb2).later hb3) (fun W hW => (((hin.alloc _).later hb1).later hb2).later (hb3.trans hW)) hwf (by simpa using hlen) ⟨hB, hblk, hown⟩).mono ?_; rintro e w4 ⟨rfl, hb4, v', hws⟩; clear hblk; obtain ⟨e0, _, _, _, _⟩ := hws.cell))
    go_ret2
    have hb12 := below_one (below_two (Below.refl _ _) hb1) hb2
    refine ⟨v', by rw [HP.out]; rfl, hb12.trans ((hb3.trans hb4).mono hb12.size), ?_⟩
    rw [if_pos HP.out]
    exact own_weak hws.own hb12.size
  · have hne : ((chk t : Int) != 0) = true := by simp; omega
    have HP := hide hc
    clear hc
    have HG := hide (show ∀ w', Below w.heap.size w w' → EncPost t w (.returned (.tuple #[.slice none 0 0, .int .i64 (chk t : Nat)])) w' from fun w' hb => ⟨_, rfl, hb, by rw [if_neg HP.out]⟩)
    generalize hcc : chk t = c at *
    clear hcc
    go_enter Tryd.func94, Tryd.ntmps94
    go_wp2_with (first | (go_at_call 97; refine (H1 _ (hin.alloc _)).out.mono ?_; rintro e w1 ⟨rfl, hb1⟩; have c0 := hb1.cell (p := ⟨w.heap.size, 0, none⟩) (by simp); have c1 := hb1.cell (p := ⟨w.heap.size, 1, none⟩) (by simp); have c2 := hb1.cell (p := ⟨w.heap.size, 2, none⟩) (by simp); have c3 := hb1.cell (p := ⟨w.heap.size, 3, none⟩) (by simp)))
    go_ret2
    exact HG.out _ (below_two (Below.refl _ _) hb1)
end Go.Proofs.YtalgceplcahgbaaDoor.Cdc

/- sane of the statements: the chapter's examples hold. -/
namespace Go.Proofs.YtalgceplcahgbaaDoor.Cdc
open Go.RowKit

namespace VT
/-- A value made of its parts. -/
theorem In.mk {w : World} {t : VT} (h1 : -9223372036854775808 ≤ t.kind ∧ t.kind ≤ 9223372036854775807) (h2 : -9223372036854775808 ≤ t.num ∧ t.num ≤ 9223372036854775807) (h3 : t.str.size ≤ 140737488351232) (h4 : t.els.length * 48 ≤ 140737488351232)
    (h5 : t.els ≠ [] → ∃ b o, t.adr = some ⟨b, o, none⟩) (h6 : ∀ i (h : i < t.els.length) b o, t.adr = some ⟨b, o, none⟩ → At w b (o + i * 4) t.els[i] ∧ In w t.els[i]) : In w t := by
  have mono : ∀ {f g : Nat} {w : World} {t : VT}, f ≤ g → InF f w t → InF g w t := by
    intro f
    induction f with
    | zero => intro g w t _ h; exact h.elim
    | succ f ih =>
      intro g w t hg h
      cases g with
      | zero => omega
      | succ g => exact ⟨h.1, h.2.1, h.2.2.1, h.2.2.2.1, h.2.2.2.2.1, fun i hi b o e => ⟨(h.2.2.2.2.2 i hi b o e).1, ih (by omega) (h.2.2.2.2.2 i hi b o e).2⟩⟩
  have big : ∃ g, ∀ i (h : i < t.els.length) b o, t.adr = some ⟨b, o, none⟩ → InF g w t.els[i] := by
    have : ∀ m, ∃ g, ∀ i (h : i < t.els.length) b o, i < m → t.adr = some ⟨b, o, none⟩ → InF g w t.els[i] := by
      intro m
      induction m with
      | zero => exact ⟨0, fun i _ _ _ h => by omega⟩
      | succ m ih =>
        obtain ⟨g, hg⟩ := ih
        by_cases hm : m < t.els.length
        · cases ha : t.adr with
          | none => exact ⟨0, fun i _ b o _ e => by cases e⟩
          | some p =>
            obtain ⟨b, o, s⟩ := p
            cases s with
            | some s => exact ⟨0, fun i _ b o _ e => by simp at e⟩
            | none =>
            obtain ⟨g2, h2⟩ := (h6 m hm b o ha).2
            refine ⟨max g g2, fun i hi b' o' hlt e => ?_⟩
            by_cases he : i = m
            · subst he; exact mono (Nat.le_max_right _ _) h2
            · exact mono (Nat.le_max_left _ _) (hg i hi b' o' (by omega) (by rw [ha]; exact e))
        · exact ⟨g, fun i hi b o hlt e => hg i hi b o (by omega) e⟩
    obtain ⟨g, hg⟩ := this t.els.length
    exact ⟨g, fun i h b o e => hg i h b o h e⟩
  obtain ⟨g, hg⟩ := big
  exact ⟨g + 1, h1, h2, h3, h4, h5, fun i h b o e => ⟨(h6 i h b o e).1, hg i h b o e⟩⟩

end VT
/-- A number, a text. -/
def intT (n : Int) : VT := .mk 1 n ⟨#[]⟩ none 0 []
def textT (s : ByteArray) : VT := .mk 2 0 s none 0 []

theorem intT_in (n : Int) (h : -9223372036854775808 ≤ n ∧ n ≤ 9223372036854775807) (w : World) : (intT n).In w :=
  VT.In.mk (by simp [intT, VT.kind]) (by simpa [intT, VT.num] using h) (by simp [intT, VT.str, ByteArray.size]) (by simp [intT, VT.els]) (by simp [intT, VT.els]) (by intro i h; simp [intT, VT.els] at h)
theorem textT_in (s : ByteArray) (h : s.size ≤ 140737488351232) (w : World) : (textT s).In w :=
  VT.In.mk (by simp [textT, VT.kind]) (by simp [textT, VT.num]) (by simpa [textT, VT.str] using h) (by simp [textT, VT.els]) (by simp [textT, VT.els]) (by intro i h; simp [textT, VT.els] at h)
theorem intT_chk (n : Int) : chk (intT n) = 0 := by simp [chk, intT, VT.wf, VT.dep, Lib.toList_data]
theorem textT_chk (s : ByteArray) : chk (textT s) = 0 := by simp [chk, textT, VT.wf, VT.dep]
theorem intT_sz (n : Int) : (intT n).sz = 1 := by simp [intT, VT.sz, VT.sz.szs]
theorem intT_enc (n : Int) : (intT n).enc = 1 :: numeral (uns n) := by simp [intT, VT.enc]

theorem only_of_below {a w : World} (h : Below a.heap.size a w) (row : Option Nat) : a.grownBy w row := ⟨h.os, h.tape, h.output, h.size, fun i hi _ => h.block i hi⟩

/-- A slice of bytes that a call made, later on. -/
def Own (base : Nat) (v : Value) (l : List UInt8) (w : World) : Prop := w.ownsRow base 5 1 v l.length (bs l)

theorem Own.later {base : Nat} {v : Value} {l : List UInt8} {w w' : World} (h : Own base v l w) (hb : Below w.heap.size w w') : Own base v l w' := by
  refine World.ownsRow.kept h (only_of_below hb none) ?_
  cases v.ownBlock with
  | none => exact .inl rfl
  | some x => exact .inr (by simp)

end Go.Proofs.YtalgceplcahgbaaDoor.Cdc
