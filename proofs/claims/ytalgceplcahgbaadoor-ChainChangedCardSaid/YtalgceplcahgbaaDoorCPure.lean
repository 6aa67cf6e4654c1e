/- Numerals: each number below 2^64 has one, and none is the beginning of another one. Plain mathematics. -/
import Derived.Test.YtalgceplcahgbaaDoorCSane
import Derived.Lib.Strings
namespace Go.Proofs.YtalgceplcahgbaaDoor.Cdc

/-- All digits but the last one: 128 is added. -/
def High (d : List UInt8) : Prop := ∀ c ∈ d, 128 ≤ c.toNat

/-- The number of digits, the least significant first. -/
def nv : List UInt8 → Nat
  | [] => 0
  | c :: r => c.toNat % 128 + 128 * nv r

theorem nv_snoc (d : List UInt8) (c : UInt8) : nv (d ++ [c]) = nv d + c.toNat % 128 * 128 ^ d.length := by
  induction d with
  | nil => simp [nv]
  | cons x r ih =>
    simp only [List.cons_append, nv, ih, List.length_cons, Nat.pow_succ]
    rw [Nat.mul_add, Nat.add_assoc]
    congr 2
    rw [Nat.mul_comm (128 ^ r.length) 128, Nat.mul_left_comm]

theorem nv_lt (d : List UInt8) : nv d < 128 ^ d.length := by
  induction d with
  | nil => simp [nv]
  | cons x r ih => simp only [nv, List.length_cons, Nat.pow_succ]; omega

theorem ofNat_toNat' (n : Nat) (h : n < 256) : (UInt8.ofNat n).toNat = n := by rw [UInt8.toNat_ofNat_of_lt' (by simpa using h)]

/-- What digs look like. -/
theorem digs_form (f : Nat) : ∀ u, u < 128 ^ (f + 1) → ∃ d c, digs f u = d ++ [c] ∧ High d ∧ c.toNat < 128 ∧ d.length ≤ f ∧ (d = [] ∨ c.toNat ≠ 0) ∧ nv (digs f u) = u := by
  induction f with
  | zero => intro u h; exact ⟨[], UInt8.ofNat u, rfl, by simp [High], by rw [ofNat_toNat' _ (by omega)]; omega, by simp, .inl rfl, by simp [digs, nv]; omega⟩
  | succ f ih =>
    intro u h
    by_cases hu : u < 128
    · exact ⟨[], UInt8.ofNat u, by simp [digs, hu], by simp [High], by rw [ofNat_toNat' _ (by omega)]; exact hu, by simp, .inl rfl, by simp [digs, hu, nv] <;> omega⟩
    · have h2 : u / 128 < 128 ^ (f + 1) := by rw [Nat.div_lt_iff_lt_mul (by omega)]; rw [Nat.pow_succ] at h; exact h
      obtain ⟨d, c, he, hd, hc, hl, hz, hn⟩ := ih _ h2
      refine ⟨UInt8.ofNat (u % 128 + 128) :: d, c, by simp [digs, hu, he], ?_, hc, by simp; omega, .inr ?_, ?_⟩
      · intro x hx
        rcases List.mem_cons.1 hx with rfl | hx
        · rw [ofNat_toNat' _ (by omega)]; omega
        · exact hd x hx
      · rcases hz with rfl | hz
        · rw [he] at hn
          simp [nv] at hn
          omega
        · exact hz
      · simp only [digs, if_neg hu, nv, hn]
        rw [ofNat_toNat' _ (by omega)]
        omega

theorem digs_of (d : List UInt8) (c : UInt8) : ∀ f, d.length ≤ f → High d → c.toNat < 128 → (d = [] ∨ c.toNat ≠ 0) → digs f (nv (d ++ [c])) = d ++ [c] := by
  induction d with
  | nil =>
    intro f _ _ hc _
    have : nv ([] ++ [c]) = c.toNat := by simp [nv]; omega
    rw [this]
    cases f with
    | zero => simp [digs]
    | succ f => simp [digs, hc]
  | cons x r ih =>
    intro f hf hd hc hz
    cases f with
    | zero => simp at hf
    | succ f =>
      have hx := hd x (by simp)
      have hr : High r := fun y hy => hd y (List.mem_cons_of_mem _ hy)
      have hcz : c.toNat ≠ 0 := by rcases hz with h | h; · cases h
                                   · exact h
      have hih := ih f (by simpa using hf) hr hc (.inr hcz)
      have hpos : 0 < nv (r ++ [c]) := by
        rw [nv_snoc]
        have : 0 < c.toNat % 128 * 128 ^ r.length := Nat.mul_pos (by omega) (Nat.pow_pos (by omega))
        omega
      have hxx := x.toNat_lt
      simp only [List.cons_append, nv, digs]
      rw [if_neg (by omega)]
      rw [show (x.toNat % 128 + 128 * nv (r ++ [c])) / 128 = nv (r ++ [c]) by omega, hih]
      congr 1
      rw [show (x.toNat % 128 + 128 * nv (r ++ [c])) % 128 + 128 = x.toNat by omega]
      exact UInt8.ofNat_toNat

theorem numeral_form {u : Nat} (h : u < 18446744073709551616) : ∃ d c, numeral u = d ++ [c] ∧ High d ∧ c.toNat < 128 ∧ d.length ≤ 9 ∧ (d = [] ∨ c.toNat ≠ 0) ∧ nv (numeral u) = u :=
  digs_form 9 u (by omega)

/-- A row is parted in one way at its first low digit. -/
theorem high_split {d d' : List UInt8} {c c' : UInt8} {r r' : List UInt8} (hd : High d) (hd' : High d') (hc : c.toNat < 128) (hc' : c'.toNat < 128) (h : d ++ c :: r = d' ++ c' :: r') : d = d' ∧ c = c' ∧ r = r' := by
  induction d generalizing d' with
  | nil =>
    cases d' with
    | nil => simp at h; exact ⟨rfl, h.1, h.2⟩
    | cons y t => simp at h; have := hd' y (by simp); rw [← h.1] at this; omega
  | cons x t ih =>
    cases d' with
    | nil => simp at h; have := hd x (by simp); rw [h.1] at this; omega
    | cons y s =>
      simp only [List.cons_append, List.cons.injEq] at h
      obtain ⟨e1, e2, e3⟩ := ih (fun z hz => hd z (List.mem_cons_of_mem _ hz)) (fun z hz => hd' z (List.mem_cons_of_mem _ hz)) h.2
      exact ⟨by rw [h.1, e1], e2, e3⟩

theorem high_no_split {d d' : List UInt8} {c' : UInt8} {r r' : List UInt8} (hd : High d) (hc' : c'.toNat < 128) (h : d ++ r = d' ++ c' :: r') (hl : d'.length < d.length) : False := by
  have h1 : (d ++ r)[d'.length]? = some c' := by rw [h]; simp
  rw [List.getElem?_append_left hl, List.getElem?_eq_getElem hl] at h1
  injection h1 with h1
  have := hd _ (List.getElem_mem hl)
  rw [h1] at this
  omega

theorem numeral_prefix {u u' : Nat} {r r' : List UInt8} (h : u < 18446744073709551616) (h' : u' < 18446744073709551616) (he : numeral u ++ r = numeral u' ++ r') : u = u' ∧ r = r' := by
  obtain ⟨d, c, e, hd, hc, _, _, hn⟩ := numeral_form h
  obtain ⟨d', c', e', hd', hc', _, _, hn'⟩ := numeral_form h'
  rw [e, e', List.append_assoc, List.append_assoc] at he
  obtain ⟨rfl, rfl, rfl⟩ := high_split hd hd' hc hc' he
  exact ⟨by rw [← hn, ← hn', e, e'], rfl⟩

/-- A row of digits that ends as a numeral does is the numeral of its number. -/
theorem numeral_of {d : List UInt8} {c : UInt8} (hd : High d) (hc : c.toNat < 128) (hl : d.length ≤ 9) (hz : d = [] ∨ c.toNat ≠ 0) (h9 : d.length < 9 ∨ c.toNat ≤ 1) :
    nv (d ++ [c]) < 18446744073709551616 ∧ numeral (nv (d ++ [c])) = d ++ [c] := by
  refine ⟨?_, digs_of d c 9 hl hd hc hz⟩
  have h1 := nv_lt d
  rcases h9 with h9 | h9
  · have h2 := nv_lt (d ++ [c])
    have h3 : 128 ^ (d ++ [c]).length ≤ 128 ^ 9 := Nat.pow_le_pow_right (by omega) (by simp; omega)
    omega
  · rw [nv_snoc]
    by_cases h8 : d.length = 9
    · rw [h8] at h1 ⊢
      have : c.toNat % 128 * 128 ^ 9 ≤ 1 * 128 ^ 9 := Nat.mul_le_mul_right _ (by omega)
      omega
    · have h2 := nv_lt (d ++ [c])
      have h3 : 128 ^ (d ++ [c]).length ≤ 128 ^ 9 := Nat.pow_le_pow_right (by omega) (by simp; omega)
      rw [nv_snoc] at h2
      omega

/-- No numeral begins with a digit that is superfluous or too great. -/
theorem numeral_not {d : List UInt8} {c : UInt8} {r : List UInt8} (hd : High d) (hc : c.toNat < 128) (hbad : (d ≠ [] ∧ c.toNat = 0) ∨ (9 ≤ d.length ∧ 1 < c.toNat)) {u : Nat} (hu : u < 18446744073709551616) {r' : List UInt8} : d ++ c :: r ≠ numeral u ++ r' := by
  intro h
  obtain ⟨d', c', e, hd', hc', hl, hz, hn⟩ := numeral_form hu
  rw [e, List.append_assoc] at h
  obtain ⟨rfl, rfl, rfl⟩ := high_split hd hd' hc hc' h
  rcases hbad with ⟨h1, h2⟩ | ⟨h1, h2⟩
  · rcases hz with h | h
    · exact h1 h
    · exact h h2
  · have h9 : d.length = 9 := by omega
    rw [e, nv_snoc, h9] at hn
    have : 2 * 128 ^ 9 ≤ c.toNat % 128 * 128 ^ 9 := Nat.mul_le_mul_right _ (by omega)
    omega

/-- No numeral is without a low digit among the first ten. -/
theorem numeral_not_high {d r : List UInt8} (hd : High d) (hr : r = [] ∨ 10 ≤ d.length) {u : Nat} (hu : u < 18446744073709551616) {r' : List UInt8} : d ++ r ≠ numeral u ++ r' := by
  intro h
  obtain ⟨d', c', e, hd', hc', hl, hz, hn⟩ := numeral_form hu
  rw [e, List.append_assoc] at h
  refine high_no_split (d' := d') (r := r) (r' := r') hd hc' h ?_
  rcases hr with rfl | hr
  · have := congrArg List.length h
    simp at this
    omega
  · omega
end Go.Proofs.YtalgceplcahgbaaDoor.Cdc

/- Same of the program answers whether two values are equal in all fields. -/
namespace Go.Proofs.YtalgceplcahgbaaDoor.Cdc
open Go.RowKit

namespace VT
/-- Equal in all fields, and so are the elements. -/
def same : VT → VT → Bool
  | .mk k n s _ _ l, u => k == u.kind && n == u.num && s.toList == u.str.toList && sames l u.els
where sames : List VT → List VT → Bool
  | [], m => m.isEmpty
  | t :: r, m => match m with
    | [] => false
    | u :: q => same t u && sames r q

theorem same_eq (t u : VT) : t.same u = (t.kind == u.kind && t.num == u.num && t.str.toList == u.str.toList && same.sames t.els u.els) := by cases t; rfl

theorem sames_len {l m : List VT} (h : same.sames l m = true) : l.length = m.length := by
  induction l generalizing m with
  | nil => cases m with
    | nil => rfl
    | cons u q => simp [same.sames] at h
  | cons t r ih => cases m with
    | nil => simp [same.sames] at h
    | cons u q => simp [same.sames] at h; simp [ih h.2]

theorem sames_iff {l m : List VT} : same.sames l m = true ↔ l.length = m.length ∧ ∀ i (h : i < l.length) (h' : i < m.length), (l[i]).same m[i] = true := by
  induction l generalizing m with
  | nil => cases m with
    | nil => simp [same.sames]
    | cons u q => simp [same.sames]
  | cons t r ih => cases m with
    | nil => simp [same.sames]
    | cons u q =>
      simp only [same.sames, Bool.and_eq_true, ih, List.length_cons, Nat.add_right_cancel_iff]
      constructor
      · rintro ⟨h0, hl, h1⟩
        refine ⟨hl, fun i hi hi' => ?_⟩
        cases i with
        | zero => exact h0
        | succ i => exact h1 i (by simpa using hi) (by simpa using hi')
      · rintro ⟨hl, h⟩
        exact ⟨h 0 (by simp) (by simp), hl, fun i hi hi' => h (i + 1) (by simpa using hi) (by simpa using hi')⟩
end VT

end Go.Proofs.YtalgceplcahgbaaDoor.Cdc

/- Equal values have equal encodings, and no encoding is the beginning of another one. Plain mathematics over the trees. -/
namespace Go.Proofs.YtalgceplcahgbaaDoor.Cdc
open Go.RowKit

namespace VT
/-- All numbers and lengths are in range. -/
def fits : VT → Prop
  | .mk _ n s _ _ l => (-9223372036854775808 ≤ n ∧ n ≤ 9223372036854775807) ∧ s.size ≤ 140737488351232 ∧ l.length * 48 ≤ 140737488351232 ∧ fitss l
where fitss : List VT → Prop
  | [] => True
  | t :: r => fits t ∧ fitss r

theorem fits_eq (t : VT) : t.fits = ((-9223372036854775808 ≤ t.num ∧ t.num ≤ 9223372036854775807) ∧ t.str.size ≤ 140737488351232 ∧ t.els.length * 48 ≤ 140737488351232 ∧ fits.fitss t.els) := by cases t; rfl

theorem fitss_of {l : List VT} (h : ∀ i (h : i < l.length), (l[i]).fits) : fits.fitss l := by
  induction l with
  | nil => trivial
  | cons t r ih => exact ⟨h 0 (by simp), ih fun i hi => h (i + 1) (by simpa using hi)⟩

theorem In.fits : ∀ (N : Nat) {w : World} {t : VT}, t.sz ≤ N → t.In w → t.fits := by
  intro N
  induction N with
  | zero => intro w t h; cases t; simp [sz] at h
  | succ N ih =>
    intro w t h hin
    obtain ⟨_, hn, hs, hl⟩ := hin.facts
    rw [fits_eq]
    refine ⟨hn, hs, hl, fitss_of fun i hi => ?_⟩
    obtain ⟨b, o, ha⟩ := hin.adr (by omega)
    exact ih (by have := sz_lt hi; omega) (hin.el ha hi).2

theorem str_eq {s u : ByteArray} (h : (s.toList == u.toList) = true) : s = u := by
  have h := eq_of_beq h
  rw [Lib.toList_data, Lib.toList_data] at h
  cases s; cases u
  simp only [ByteArray.mk.injEq]
  exact Array.toList_inj.1 h

theorem str_beq {s u : ByteArray} (h : s.data.toList = u.data.toList) : (s.toList == u.toList) = true := by
  rw [Lib.toList_data, Lib.toList_data, h]; simp

mutual
theorem same_enc (t u : VT) (h : t.same u = true) : t.enc = u.enc := by
  match t, u with
  | .mk k n s a c l, .mk k' n' s' a' c' l' =>
    rw [same_eq] at h
    simp only [kind, num, str, els, Bool.and_eq_true, beq_iff_eq] at h
    obtain ⟨⟨⟨rfl, rfl⟩, h3⟩, h4⟩ := h
    obtain rfl : s = s' := str_eq (by simpa using h3)
    have hl := sames_len h4
    have he := sames_enc l l' h4
    rw [enc_eq (.mk k n s a c l), enc_eq (.mk k n s a' c' l')]
    simp only [kind, num, str, els, ← hl, ← he]
    rfl
theorem sames_enc (l m : List VT) (h : same.sames l m = true) : enc.encs l = enc.encs m := by
  match l, m with
  | [], [] => rfl
  | [], _ :: _ => simp [same.sames] at h
  | _ :: _, [] => simp [same.sames] at h
  | t :: r, u :: q =>
    simp only [same.sames, Bool.and_eq_true] at h
    simp only [enc.encs]
    rw [same_enc t u h.1, sames_enc r q h.2]
end

theorem uns_inj {a b : Int} (h : uns a = uns b) : a = b := by
  unfold uns at h
  split at h <;> split at h <;> omega

theorem wf_kind {t : VT} (h : t.wf = true) : (t.kind = 1 ∧ t.str.toList = [] ∧ t.els = []) ∨ (t.kind = 2 ∧ t.num = 0 ∧ t.els = []) ∨ (t.kind = 3 ∧ t.num = 0 ∧ t.str.toList = [] ∧ wf.wfs t.els = true) := by
  rw [wf_eq, len_beq] at h
  by_cases h1 : t.kind = 1
  · simp [h1] at h; exact .inl ⟨h1, h⟩
  · by_cases h2 : t.kind = 2
    · simp [h2] at h; exact .inr (.inl ⟨h2, h⟩)
    · by_cases h3 : t.kind = 3
      · simp [h3] at h; exact .inr (.inr ⟨h3, h.1.1, h.1.2, h.2⟩)
      · simp [h1, h2, h3] at h

theorem encs_prefix : ∀ (l m : List VT) (r r' : List UInt8), (∀ t ∈ l, ∀ (u : VT) (q q' : List UInt8), t.wf = true → u.wf = true → t.fits → u.fits → t.enc ++ q = u.enc ++ q' → t.same u = true ∧ q = q') →
    l.length = m.length → wf.wfs l = true → wf.wfs m = true → fits.fitss l → fits.fitss m → enc.encs l ++ r = enc.encs m ++ r' → same.sames l m = true ∧ r = r'
  | [], [], r, r', _, _, _, _, _, _, h => ⟨rfl, by simpa [enc.encs] using h⟩
  | [], _ :: _, _, _, _, hl, _, _, _, _, _ => by simp at hl
  | _ :: _, [], _, _, _, hl, _, _, _, _, _ => by simp at hl
  | t :: l, u :: m, r, r', ih, hl, hw, hw', hf, hf', h => by
    simp only [wf.wfs, Bool.and_eq_true] at hw hw'
    simp only [enc.encs, List.append_assoc] at h
    obtain ⟨h1, h2⟩ := ih t (by simp) u _ _ hw.1 hw'.1 hf.1 hf'.1 h
    obtain ⟨h3, h4⟩ := encs_prefix l m r r' (fun x hx => ih x (List.mem_cons_of_mem _ hx)) (by simpa using hl) hw.2 hw'.2 hf.2 hf'.2 h2
    exact ⟨by simp [same.sames, h1, h3], h4⟩

theorem enc_prefix : ∀ (N : Nat) (t u : VT) (r r' : List UInt8), t.sz ≤ N → t.wf = true → u.wf = true → t.fits → u.fits → t.enc ++ r = u.enc ++ r' → t.same u = true ∧ r = r' := by
  intro N
  induction N with
  | zero => intro t u r r' h; cases t; simp [sz] at h
  | succ N ih =>
    intro t u r r' hN hw hw' hf hf' h
    rw [fits_eq] at hf hf'
    obtain ⟨hn, hs, hl, hfs⟩ := hf
    obtain ⟨hn', hs', hl', hfs'⟩ := hf'
    have e := enc_eq t
    have e' := enc_eq u
    have hu := uns_lt hn.1 hn.2
    have hu' := uns_lt hn'.1 hn'.2
    rw [same_eq]
    rcases wf_kind hw with ⟨k, s0, l0⟩ | ⟨k, n0, l0⟩ | ⟨k, n0, s0, w0⟩ <;> rcases wf_kind hw' with ⟨k', s0', l0'⟩ | ⟨k', n0', l0'⟩ | ⟨k', n0', s0', w0'⟩ <;> simp [k] at e <;> simp [k'] at e' <;> rw [e, e'] at h <;> simp only [List.cons_append, List.cons.injEq] at h
    · obtain ⟨h1, h2⟩ := numeral_prefix hu hu' h.2
      exact ⟨by simp [k, k', s0, s0', l0, l0', uns_inj h1, same.sames], h2⟩
    · exact absurd h.1 (by decide)
    · exact absurd h.1 (by decide)
    · exact absurd h.1 (by decide)
    · have h2 := h.2
      rw [List.append_assoc, List.append_assoc] at h2
      obtain ⟨h3, h4⟩ := numeral_prefix (by omega) (by omega) h2
      obtain ⟨h5, h6⟩ := List.append_inj h4 (by rw [Array.length_toList, Array.length_toList]; exact h3)
      exact ⟨by simp only [k, k', n0, n0', l0, l0', same.sames, str_beq h5]; simp, h6⟩
    · exact absurd h.1 (by decide)
    · exact absurd h.1 (by decide)
    · exact absurd h.1 (by decide)
    · have h2 := h.2
      rw [List.append_assoc, List.append_assoc] at h2
      obtain ⟨h3, h4⟩ := numeral_prefix (by omega) (by omega) h2
      obtain ⟨h5, h6⟩ := encs_prefix t.els u.els r r' (fun x hx v q q' a b c d f => by
        obtain ⟨i, hi, rfl⟩ := List.getElem_of_mem hx
        exact ih _ v q q' (by have := sz_lt hi; omega) a b c d f) h3 w0 w0' hfs hfs' h4
      exact ⟨by simp [k, k', n0, n0', s0, s0', h5], h6⟩
end VT
end Go.Proofs.YtalgceplcahgbaaDoor.Cdc
