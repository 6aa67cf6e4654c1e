/- The tokens of a source, as a plain function, and what a reader's step means for it. -/
import Derived.Test.YtemapfhiiefieaaDoorSign
namespace Go.Proofs.YtemapfhiiefieaaDoor
open Go.RowKit

theorem stp_size {r : List UInt8} {sz : Nat} {o : Option (Nat × List UInt8 × Nat)} (h : stp r = some (sz, o)) : 1 ≤ sz ∧ sz ≤ r.length := by
  match r, h with
  | c :: r, h =>
    have hb : ∀ p : UInt8 → Bool, p c = true → 1 ≤ ((c :: r).takeWhile p).length := fun p hp => by
      rw [List.takeWhile_cons, if_pos hp]; simp
    simp only [stp] at h
    split at h
    · simp at h; obtain ⟨rfl, _⟩ := h; simp
    · split at h
      · rename_i h2
        split at h
        · rename_i h47
          simp at h
          obtain ⟨rfl, _⟩ := h
          refine ⟨hb isLn ?_, takeWhile_le _⟩
          simp at h47
          rw [h47.1]; decide
        · simp at h; obtain ⟨rfl, _⟩ := h; simp
      · split at h
        · rename_i h3
          split at h
          · simp at h
            obtain ⟨rfl, _⟩ := h
            exact ⟨hb isDg (by simp [isDg, h3]), takeWhile_le _⟩
          · simp at h
        · split at h
          · rename_i h4
            split at h
            · simp at h
              obtain ⟨rfl, _⟩ := h
              exact ⟨hb isNm (by simp [isNm, isLt, h4]), takeWhile_le _⟩
            · simp at h
          · simp at h

/-- The tokens of what is left, or the place of what is wrong. -/
def lexL : Nat → List UInt8 → Nat → List Tk → Except Nat (List Tk)
  | 0, _, _, ts => .ok ts
  | f + 1, r, a, ts =>
    if r = [] then .ok ts
    else match stp r with
      | none => .error a
      | some (sz, none) => lexL f (r.drop sz) (a + sz) ts
      | some (sz, some (k, t, n)) => lexL f (r.drop sz) (a + sz) (ts ++ [⟨k, t, n, a⟩])
theorem lexL_nil : ∀ (f a : Nat) (ts : List Tk), lexL f [] a ts = .ok ts
  | 0, _, _ => rfl
  | f + 1, _, _ => by simp [lexL]
/-- As many rounds as there are bytes are enough. -/
theorem lexL_fuel : ∀ (f g : Nat) (r : List UInt8) (a : Nat) (ts : List Tk), r.length ≤ f → r.length ≤ g → lexL f r a ts = lexL g r a ts
  | 0, g, r, a, ts, h, _ => by
    obtain rfl : r = [] := List.length_eq_zero_iff.1 (by omega)
    rw [lexL_nil, lexL_nil]
  | f + 1, 0, r, a, ts, _, h => by
    obtain rfl : r = [] := List.length_eq_zero_iff.1 (by omega)
    rw [lexL_nil, lexL_nil]
  | f + 1, g + 1, r, a, ts, h1, h2 => by
    by_cases h0 : r = []
    · subst h0; rw [lexL_nil, lexL_nil]
    · simp only [lexL, if_neg h0]
      cases hs : stp r with
      | none => rfl
      | some x =>
        obtain ⟨sz, o⟩ := x
        obtain ⟨p1, p2⟩ := stp_size hs
        cases o with
        | none => exact lexL_fuel f g _ _ _ (by rw [List.length_drop]; omega) (by rw [List.length_drop]; omega)
        | some y => exact lexL_fuel f g _ _ _ (by rw [List.length_drop]; omega) (by rw [List.length_drop]; omega)
/-- The tokens of a source. -/
def lexS (l : List UInt8) : Except Nat (List Tk) := lexL l.length l 0 []

theorem ReadPost.two {S : Nat} {l : List UInt8} {a : Nat} {ts : List Tk} {w w' : World} {e : Ending} (h : ReadPost S l a ts w e w') (ha : a < l.length) :
    (e = wrong a ∧ Below S w w' ∧ lexL (l.length - a) (l.drop a) a ts = .error a) ∨
      (∃ (sz : Nat) (ts' : List Tk), e = .returned (.tuple #[]) ∧ RP S l (a + sz) ts' w w' ∧ lexL (l.length - a) (l.drop a) a ts = lexL (l.length - (a + sz)) (l.drop (a + sz)) (a + sz) ts' ∧ 1 ≤ sz ∧ a + sz ≤ l.length ∧ ts'.length ≤ ts.length + 1) := by
  obtain ⟨f, hf⟩ : ∃ f, l.length - a = f + 1 := ⟨l.length - a - 1, by omega⟩
  have hne : l.drop a ≠ [] := List.ne_nil_of_length_pos (by rw [List.length_drop]; omega)
  have hlen : (l.drop a).length = f + 1 := by rw [List.length_drop, hf]
  unfold ReadPost at h
  cases hs : stp (l.drop a) with
  | none =>
    rw [hs] at h
    exact .inl ⟨h.1, h.2, by rw [hf, lexL, if_neg hne, hs]⟩
  | some x =>
    obtain ⟨sz, o⟩ := x
    obtain ⟨p1, p2⟩ := stp_size hs
    rw [hs] at h
    cases o with
    | none =>
      refine .inr ⟨sz, ts, h.1, h.2, ?_, p1, by omega, by omega⟩
      rw [hf, lexL, if_neg hne, hs]
      simp only [List.drop_drop]
      exact lexL_fuel _ _ _ _ _ (by rw [List.length_drop]; omega) (by rw [List.length_drop]; omega)
    | some y =>
      obtain ⟨k, t, n⟩ := y
      refine .inr ⟨sz, ts ++ [⟨k, t, n, a⟩], h.1, h.2, ?_, p1, by omega, by simp⟩
      rw [hf, lexL, if_neg hne, hs]
      simp only [List.drop_drop]
      exact lexL_fuel _ _ _ _ _ (by rw [List.length_drop]; omega) (by rw [List.length_drop]; omega)

/-- White space is passed over; what begins nothing is refused. -/
theorem white_post (S : Nat) (l : List UInt8) (a : Nat) (v : Value) (ts : List Tk) (w : World) (h : Sc S l a v ts w) (ha : a < l.length) (hl : l.length ≤ 1000000) (hc : cls l[a] = 1) : Calls Tryd.prog 43 #[.pointer (some ⟨S, 0, none⟩)] w (ReadPost S l a ts w) :=
  (passWhite_any S l a v ts w h ha (by omega)).mono fun e w' ⟨h1, h2⟩ => by
    unfold ReadPost
    rw [show stp (l.drop a) = some (1, none) by rw [drop_head ha]; simp [stp, hc]]
    exact ⟨h1, h2⟩
theorem refuse_post (S : Nat) (l : List UInt8) (a : Nat) (v : Value) (ts : List Tk) (w : World) (h : Sc S l a v ts w) (ha : a < l.length) (hc : cls l[a] = 0 ∨ cls l[a] = 5) : Calls Tryd.prog 42 #[.pointer (some ⟨S, 0, none⟩)] w (ReadPost S l a ts w) :=
  (refuse_any S l a v ts w h).mono fun e w' ⟨h1, h2⟩ => by
    unfold ReadPost
    rw [show stp (l.drop a) = none by rw [drop_head ha]; rcases hc with hc | hc <;> simp [stp, hc]]
    subst h2
    exact ⟨h1, Below.refl _ _⟩
end Go.Proofs.YtemapfhiiefieaaDoor
