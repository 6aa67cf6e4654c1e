/- Numerals: each number below 2^64 has one, and none is the beginning of another one. Plain mathematics. -/
import Derived.Test.YtccdencaidopnaaNum
namespace Go.Proofs.Ytccdencaidopnaa

/-- All digits but the last one: 128 is added. -/
def High (d : List UInt8) : Prop := ∀ c ∈ d, 128 ≤ c.toNat

/-- The number of digits, the least significant first. -/
def nv : List UInt8 → Nat
  | [] => 0
  | c :: r => c.toNat % 128 + 128 * nv r

theorem nv_snoc (d : List UInt8) (c : UInt8) : nv (d ++ [c]) = nv d + c.toNat % 128 * 128 ^ d.length := by
  induction d with
  | nil => simp [nv]
  | cons x r ih =>
    simp only [List.cons_append, nv, ih, List.length_cons, Nat.pow_succ]
    rw [Nat.mul_add, Nat.add_assoc]
    congr 2
    rw [Nat.mul_comm (128 ^ r.length) 128, Nat.mul_left_comm]

theorem nv_lt (d : List UInt8) : nv d < 128 ^ d.length := by
  induction d with
  | nil => simp [nv]
  | cons x r ih => simp only [nv, List.length_cons, Nat.pow_succ]; omega

theorem ofNat_toNat' (n : Nat) (h : n < 256) : (UInt8.ofNat n).toNat = n := by rw [UInt8.toNat_ofNat_of_lt' (by simpa using h)]

/-- What digs look like. -/
theorem digs_form (f : Nat) : ∀ u, u < 128 ^ (f + 1) → ∃ d c, digs f u = d ++ [c] ∧ High d ∧ c.toNat < 128 ∧ d.length ≤ f ∧ (d = [] ∨ c.toNat ≠ 0) ∧ nv (digs f u) = u := by
  induction f with
  | zero => intro u h; exact ⟨[], UInt8.ofNat u, rfl, by simp [High], by rw [ofNat_toNat' _ (by omega)]; omega, by simp, .inl rfl, by simp [digs, nv]; omega⟩
  | succ f ih =>
    intro u h
    by_cases hu : u < 128
    · exact ⟨[], UInt8.ofNat u, by simp [digs, hu], by simp [High], by rw [ofNat_toNat' _ (by omega)]; exact hu, by simp, .inl rfl, by simp [digs, hu, nv] <;> omega⟩
    · have h2 : u / 128 < 128 ^ (f + 1) := by rw [Nat.div_lt_iff_lt_mul (by omega)]; rw [Nat.pow_succ] at h; exact h
      obtain ⟨d, c, he, hd, hc, hl, hz, hn⟩ := ih _ h2
      refine ⟨UInt8.ofNat (u % 128 + 128) :: d, c, by simp [digs, hu, he], ?_, hc, by simp; omega, .inr ?_, ?_⟩
      · intro x hx
        rcases List.mem_cons.1 hx with rfl | hx
        · rw [ofNat_toNat' _ (by omega)]; omega
        · exact hd x hx
      · rcases hz with rfl | hz
        · rw [he] at hn
          simp [nv] at hn
          omega
        · exact hz
      · simp only [digs, if_neg hu, nv, hn]
        rw [ofNat_toNat' _ (by omega)]
        omega

theorem digs_of (d : List UInt8) (c : UInt8) : ∀ f, d.length ≤ f → High d → c.toNat < 128 → (d = [] ∨ c.toNat ≠ 0) → digs f (nv (d ++ [c])) = d ++ [c] := by
  induction d with
  | nil =>
    intro f _ _ hc _
    have : nv ([] ++ [c]) = c.toNat := by simp [nv]; omega
    rw [this]
    cases f with
    | zero => simp [digs]
    | succ f => simp [digs, hc]
  | cons x r ih =>
    intro f hf hd hc hz
    cases f with
    | zero => simp at hf
    | succ f =>
      have hx := hd x (by simp)
      have hr : High r := fun y hy => hd y (List.mem_cons_of_mem _ hy)
      have hcz : c.toNat ≠ 0 := by rcases hz with h | h; · cases h
                                   · exact h
      have hih := ih f (by simpa using hf) hr hc (.inr hcz)
      have hpos : 0 < nv (r ++ [c]) := by
        rw [nv_snoc]
        have : 0 < c.toNat % 128 * 128 ^ r.length := Nat.mul_pos (by omega) (Nat.pow_pos (by omega))
        omega
      have hxx := x.toNat_lt
      simp only [List.cons_append, nv, digs]
      rw [if_neg (by omega)]
      rw [show (x.toNat % 128 + 128 * nv (r ++ [c])) / 128 = nv (r ++ [c]) by omega, hih]
      congr 1
      rw [show (x.toNat % 128 + 128 * nv (r ++ [c])) % 128 + 128 = x.toNat by omega]
      exact UInt8.ofNat_toNat

theorem numeral_form {u : Nat} (h : u < 18446744073709551616) : ∃ d c, numeral u = d ++ [c] ∧ High d ∧ c.toNat < 128 ∧ d.length ≤ 9 ∧ (d = [] ∨ c.toNat ≠ 0) ∧ nv (numeral u) = u :=
  digs_form 9 u (by omega)

/-- A row is parted in one way at its first low digit. -/
theorem high_split {d d' : List UInt8} {c c' : UInt8} {r r' : List UInt8} (hd : High d) (hd' : High d') (hc : c.toNat < 128) (hc' : c'.toNat < 128) (h : d ++ c :: r = d' ++ c' :: r') : d = d' ∧ c = c' ∧ r = r' := by
  induction d generalizing d' with
  | nil =>
    cases d' with
    | nil => simp at h; exact ⟨rfl, h.1, h.2⟩
    | cons y t => simp at h; have := hd' y (by simp); rw [← h.1] at this; omega
  | cons x t ih =>
    cases d' with
    | nil => simp at h; have := hd x (by simp); rw [h.1] at this; omega
    | cons y s =>
      simp only [List.cons_append, List.cons.injEq] at h
      obtain ⟨e1, e2, e3⟩ := ih (fun z hz => hd z (List.mem_cons_of_mem _ hz)) (fun z hz => hd' z (List.mem_cons_of_mem _ hz)) h.2
      exact ⟨by rw [h.1, e1], e2, e3⟩

theorem high_no_split {d d' : List UInt8} {c' : UInt8} {r r' : List UInt8} (hd : High d) (hc' : c'.toNat < 128) (h : d ++ r = d' ++ c' :: r') (hl : d'.length < d.length) : False := by
  have h1 : (d ++ r)[d'.length]? = some c' := by rw [h]; simp
  rw [List.getElem?_append_left hl, List.getElem?_eq_getElem hl] at h1
  injection h1 with h1
  have := hd _ (List.getElem_mem hl)
  rw [h1] at this
  omega

theorem numeral_prefix {u u' : Nat} {r r' : List UInt8} (h : u < 18446744073709551616) (h' : u' < 18446744073709551616) (he : numeral u ++ r = numeral u' ++ r') : u = u' ∧ r = r' := by
  obtain ⟨d, c, e, hd, hc, _, _, hn⟩ := numeral_form h
  obtain ⟨d', c', e', hd', hc', _, _, hn'⟩ := numeral_form h'
  rw [e, e', List.append_assoc, List.append_assoc] at he
  obtain ⟨rfl, rfl, rfl⟩ := high_split hd hd' hc hc' he
  exact ⟨by rw [← hn, ← hn', e, e'], rfl⟩

/-- A row of digits that ends as a numeral does is the numeral of its number. -/
theorem numeral_of {d : List UInt8} {c : UInt8} (hd : High d) (hc : c.toNat < 128) (hl : d.length ≤ 9) (hz : d = [] ∨ c.toNat ≠ 0) (h9 : d.length < 9 ∨ c.toNat ≤ 1) :
    nv (d ++ [c]) < 18446744073709551616 ∧ numeral (nv (d ++ [c])) = d ++ [c] := by
  refine ⟨?_, digs_of d c 9 hl hd hc hz⟩
  have h1 := nv_lt d
  rcases h9 with h9 | h9
  · have h2 := nv_lt (d ++ [c])
    have h3 : 128 ^ (d ++ [c]).length ≤ 128 ^ 9 := Nat.pow_le_pow_right (by omega) (by simp; omega)
    omega
  · rw [nv_snoc]
    by_cases h8 : d.length = 9
    · rw [h8] at h1 ⊢
      have : c.toNat % 128 * 128 ^ 9 ≤ 1 * 128 ^ 9 := Nat.mul_le_mul_right _ (by omega)
      omega
    · have h2 := nv_lt (d ++ [c])
      have h3 : 128 ^ (d ++ [c]).length ≤ 128 ^ 9 := Nat.pow_le_pow_right (by omega) (by simp; omega)
      rw [nv_snoc] at h2
      omega

/-- No numeral begins with a digit that is superfluous or too great. -/
theorem numeral_not {d : List UInt8} {c : UInt8} {r : List UInt8} (hd : High d) (hc : c.toNat < 128) (hbad : (d ≠ [] ∧ c.toNat = 0) ∨ (9 ≤ d.length ∧ 1 < c.toNat)) {u : Nat} (hu : u < 18446744073709551616) {r' : List UInt8} : d ++ c :: r ≠ numeral u ++ r' := by
  intro h
  obtain ⟨d', c', e, hd', hc', hl, hz, hn⟩ := numeral_form hu
  rw [e, List.append_assoc] at h
  obtain ⟨rfl, rfl, rfl⟩ := high_split hd hd' hc hc' h
  rcases hbad with ⟨h1, h2⟩ | ⟨h1, h2⟩
  · rcases hz with h | h
    · exact h1 h
    · exact h h2
  · have h9 : d.length = 9 := by omega
    rw [e, nv_snoc, h9] at hn
    have : 2 * 128 ^ 9 ≤ c.toNat % 128 * 128 ^ 9 := Nat.mul_le_mul_right _ (by omega)
    omega

/-- No numeral is without a low digit among the first ten. -/
theorem numeral_not_high {d r : List UInt8} (hd : High d) (hr : r = [] ∨ 10 ≤ d.length) {u : Nat} (hu : u < 18446744073709551616) {r' : List UInt8} : d ++ r ≠ numeral u ++ r' := by
  intro h
  obtain ⟨d', c', e, hd', hc', hl, hz, hn⟩ := numeral_form hu
  rw [e, List.append_assoc] at h
  refine high_no_split (d' := d') (r := r) (r' := r') hd hc' h ?_
  rcases hr with rfl | hr
  · have := congrArg List.length h
    simp at this
    omega
  · omega
end Go.Proofs.Ytccdencaidopnaa
