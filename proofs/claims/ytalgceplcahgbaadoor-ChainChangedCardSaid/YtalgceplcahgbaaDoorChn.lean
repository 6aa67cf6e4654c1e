/- Links and chains, plain. Nothing here speaks of a program. -/
import Derived.Test.YtalgceplcahgbaaDoorProg
namespace Go.Proofs.YtalgceplcahgbaaDoor
/-! ## links and chains, plain -/

/-- A link. -/
structure Ln where
  node : Int
  no : Int
  prev : List UInt8
  data : List UInt8
/-- Are two links equal? -/
def Ln.same (x y : Ln) : Bool := decide (x.node = y.node) && decide (x.no = y.no) && decide (x.prev = y.prev) && decide (x.data = y.data)
theorem Ln.same_iff {x y : Ln} : x.same y = true ↔ x = y := by
  cases x
  cases y
  simp [Ln.same, and_assoc]
theorem Ln.same_no {x y : Ln} : x.same y = false ↔ x ≠ y := by
  rw [← Bool.not_eq_true, Ln.same_iff]
def sameL (a b : List Ln) : Bool := decide (a.length = b.length) && (a.zip b).all fun p => p.1.same p.2
theorem sameL_iff : ∀ {a b : List Ln}, sameL a b = true ↔ a = b
  | [], [] => by simp [sameL]
  | [], y :: b => by simp [sameL]
  | x :: a, [] => by simp [sameL]
  | x :: a, y :: b => by
    have := sameL_iff (a := a) (b := b)
    simp only [sameL, List.length_cons, List.zip_cons_cons, List.all_cons, Bool.and_eq_true, decide_eq_true_eq, List.cons.injEq, Ln.same_iff] at *
    constructor
    · rintro ⟨h1, h2, h3⟩
      exact ⟨h2, this.1 ⟨by omega, h3⟩⟩
    · rintro ⟨rfl, h⟩
      have h4 := this.2 h
      exact ⟨by omega, rfl, h4.2⟩

section
variable (H0 : List UInt8) (HL : Ln → List UInt8)
/-- The head: of none, or of the last link. -/
def headL (l : List Ln) : List UInt8 := match l.getLast? with
  | none => H0
  | some x => HL x
theorem headL_nil : headL H0 HL [] = H0 := rfl
theorem headL_snoc (l : List Ln) (x : Ln) : headL H0 HL (l ++ [x]) = HL x := by simp [headL]
/-- May the chain before go on with these data of a node? -/
def admB (before : List Ln) (node : Int) (data : List UInt8) : Bool :=
  decide (0 ≤ node) && decide (node < 24) && decide (data.length ≤ 65536) && (before.isEmpty || decide ((before.getD 0 ⟨0, 0, [], []⟩).node = node))
/-- Is the link x, the next behind those before, as a chain wants it? -/
def lnkB (before : List Ln) (x : Ln) : Bool := decide (x.no = before.length) && decide (x.prev = headL H0 HL before) && admB before x.node x.data
/-- Are the first n links a chain? -/
def upB (l : List Ln) : Nat → Bool
  | 0 => true
  | n + 1 => upB l n && (match l[n]? with
    | none => true
    | some x => lnkB H0 HL (l.take n) x)
def chainB (l : List Ln) : Bool := upB H0 HL l l.length
/-- What Check answers. -/
def chkA (l : List Ln) : Int := if 1024 < l.length then 2 else if chainB H0 HL l then 0 else 80

theorem upB_get {l : List Ln} : ∀ {n : Nat}, upB H0 HL l n = true ↔ ∀ i (h : i < l.length), i < n → lnkB H0 HL (l.take i) l[i] = true
  | 0 => by simp [upB]
  | n + 1 => by
    rw [upB, Bool.and_eq_true, upB_get (n := n)]
    constructor
    · rintro ⟨h1, h2⟩ i h hi
      by_cases e : i = n
      · subst e
        rw [List.getElem?_eq_getElem h] at h2
        exact h2
      · exact h1 i h (by omega)
    · intro h
      refine ⟨fun i hl hi => h i hl (by omega), ?_⟩
      by_cases hn : n < l.length
      · rw [List.getElem?_eq_getElem hn]
        exact h n hn (by omega)
      · rw [List.getElem?_eq_none (by omega)]
theorem chain_get {l : List Ln} : chainB H0 HL l = true ↔ ∀ i (h : i < l.length), lnkB H0 HL (l.take i) l[i] = true := by
  rw [chainB, upB_get]
  exact ⟨fun h i hi => h i hi hi, fun h i hi _ => h i hi⟩
theorem lnk_prev {before : List Ln} {x : Ln} (h : lnkB H0 HL before x = true) : x.prev = headL H0 HL before := by
  simp only [lnkB, Bool.and_eq_true, decide_eq_true_eq] at h
  exact h.1.2
theorem chain_take {l : List Ln} (h : chainB H0 HL l = true) (n : Nat) : chainB H0 HL (l.take n) = true := by
  rw [chain_get] at *
  intro i hi
  rw [List.length_take] at hi
  rw [List.getElem_take, List.take_take, Nat.min_eq_left (by omega)]
  exact h i (by omega)
theorem chain_snoc {l : List Ln} {x : Ln} (h : chainB H0 HL l = true) (hx : lnkB H0 HL l x = true) : chainB H0 HL (l ++ [x]) = true := by
  rw [chain_get] at *
  intro i hi
  by_cases e : i < l.length
  · rw [List.getElem_append_left e, List.take_append_of_le_length (by omega)]
    exact h i e
  · obtain rfl : i = l.length := by simp at hi; omega
    rw [List.getElem_append_right (Nat.le_refl _), List.take_left']
    · simpa using hx
    · rfl

/-- TWO CHAINS OF ONE LENGTH WITH ONE HEAD: they are one, or somewhere two different links have one digest. -/
theorem equal_up {a b : List Ln} (ha : chainB H0 HL a = true) (hb : chainB H0 HL b = true) (hl : a.length = b.length) : ∀ n, n ≤ a.length → headL H0 HL (a.take n) = headL H0 HL (b.take n) → a.take n ≠ b.take n →
    ∃ i, ∃ (h : i < a.length) (h2 : i < b.length), a[i] ≠ b[i] ∧ headL H0 HL (a.take (i + 1)) = headL H0 HL (b.take (i + 1))
  | 0, _, _, hne => absurd (by simp) hne
  | n + 1, hn, hh, hne => by
    have h1 : n < a.length := by omega
    have h2 : n < b.length := by omega
    by_cases e : a[n] = b[n]
    · have pa := lnk_prev H0 HL ((chain_get H0 HL).1 ha n h1)
      have pb := lnk_prev H0 HL ((chain_get H0 HL).1 hb n h2)
      refine equal_up ha hb hl n (by omega) (by rw [← pa, ← pb, e]) fun h => hne ?_
      rw [List.take_succ_eq_append_getElem h1, List.take_succ_eq_append_getElem h2, h, e]
    · exact ⟨n, h1, h2, e, hh⟩
theorem equal_clash {a b : List Ln} (ha : chainB H0 HL a = true) (hb : chainB H0 HL b = true) (hl : a.length = b.length) (hh : headL H0 HL a = headL H0 HL b) (hne : a ≠ b) :
    ∃ i, ∃ (h : i < a.length) (h2 : i < b.length), a[i] ≠ b[i] ∧ headL H0 HL (a.take (i + 1)) = headL H0 HL (b.take (i + 1)) :=
  equal_up H0 HL ha hb hl a.length (Nat.le_refl _) (by rw [List.take_length, hl, List.take_length]; exact hh) (by rw [List.take_length, hl, List.take_length]; exact hne)

/-- A LINK THAT IS REPLACED: the next one's Prev is the digest of both. -/
theorem changed_clash {l : List Ln} {k : Nat} {x : Ln} (hl : chainB H0 HL l = true) (hm : chainB H0 HL (l.set k x) = true) (hk : k + 1 < l.length) : headL H0 HL (l.take (k + 1)) = headL H0 HL ((l.set k x).take (k + 1)) := by
  have pa := lnk_prev H0 HL ((chain_get H0 HL).1 hl (k + 1) hk)
  have pb := lnk_prev H0 HL ((chain_get H0 HL).1 hm (k + 1) (by simpa using hk))
  rw [List.getElem_set_ne (by omega)] at pb
  rw [← pa, ← pb]
end

/-- The first index below n at which two lists differ. -/
def firstD (a b : List Ln) : Nat → Option Nat
  | 0 => none
  | n + 1 => match firstD a b n with
    | some i => some i
    | none => match a[n]?, b[n]? with
      | some x, some y => if x.same y then none else some n
      | _, _ => none
theorem firstD_none {a b : List Ln} : ∀ {n : Nat}, n ≤ a.length → n ≤ b.length → (firstD a b n = none ↔ a.take n = b.take n)
  | 0, _, _ => by simp [firstD]
  | n + 1, h1, h2 => by
    have ih := firstD_none (a := a) (b := b) (n := n) (by omega) (by omega)
    rw [List.take_succ_eq_append_getElem (by omega), List.take_succ_eq_append_getElem (by omega)]
    have hlen : (a.take n).length = (b.take n).length := by simp; omega
    have hap : (a.take n ++ [a[n]'(by omega)] = b.take n ++ [b[n]'(by omega)]) ↔ (a.take n = b.take n ∧ a[n]'(by omega) = b[n]'(by omega)) :=
      ⟨fun h => by
        obtain ⟨h3, h4⟩ := List.append_inj h hlen
        exact ⟨h3, by simpa using h4⟩, fun ⟨h3, h4⟩ => by rw [h3, h4]⟩
    rw [hap]
    simp only [firstD]
    cases hf : firstD a b n with
    | some i =>
      simp only [reduceCtorEq, false_iff, not_and]
      intro e
      rw [ih.2 e] at hf
      cases hf
    | none =>
      have e := ih.1 hf
      simp only [List.getElem?_eq_getElem (show n < a.length by omega), List.getElem?_eq_getElem (show n < b.length by omega), e, true_and]
      cases hs : (a[n]'(by omega)).same (b[n]'(by omega)) with
      | true => simp [Ln.same_iff.1 hs]
      | false => simp [Ln.same_no.1 hs]
theorem firstD_some {a b : List Ln} : ∀ {n i : Nat}, n ≤ a.length → n ≤ b.length → firstD a b n = some i → i < n ∧ a.take i = b.take i ∧ ∀ (h1 : i < a.length) (h2 : i < b.length), a[i].same b[i] = false
  | 0, _, _, _, h => by simp [firstD] at h
  | n + 1, i, h1, h2, h => by
    simp only [firstD] at h
    cases hf : firstD a b n with
    | some j =>
      rw [hf] at h
      obtain rfl : j = i := by simpa using h
      obtain ⟨h3, h4, h5⟩ := firstD_some (by omega) (by omega) hf
      exact ⟨by omega, h4, h5⟩
    | none =>
      rw [hf] at h
      simp only [List.getElem?_eq_getElem (show n < a.length by omega), List.getElem?_eq_getElem (show n < b.length by omega)] at h
      cases hs : (a[n]'(by omega)).same (b[n]'(by omega)) with
      | true => rw [hs] at h; simp at h
      | false =>
        rw [hs] at h
        obtain rfl : n = i := by simpa using h
        exact ⟨by omega, (firstD_none (by omega) (by omega)).1 hf, fun _ _ => hs⟩
theorem firstD_symm (a b : List Ln) : ∀ n, firstD a b n = firstD b a n
  | 0 => rfl
  | n + 1 => by
    simp only [firstD, firstD_symm a b n]
    have hs : ∀ x y : Ln, x.same y = y.same x := fun x y => by
      cases h : y.same x with
      | true => rw [Ln.same_iff] at *; exact h.symm
      | false => rw [Ln.same_no] at *; exact fun e => h e.symm
    cases firstD b a n with
    | some i => rfl
    | none =>
      cases h1 : a[n]? <;> cases h2 : b[n]? <;> simp only
      rw [hs]
end Go.Proofs.YtalgceplcahgbaaDoor
