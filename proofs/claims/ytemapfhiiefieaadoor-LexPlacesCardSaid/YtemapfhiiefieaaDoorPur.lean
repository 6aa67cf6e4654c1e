/- What Lex answers, as a plain function: its steps, other ends and other places. -/
import Derived.Test.YtemapfhiiefieaaDoorLawBase
namespace Go.Proofs.YtemapfhiiefieaaDoor
open Go.RowKit

/-- The tokens of a source that begins at a place. -/
def lexR (r : List UInt8) (a : Nat) : Except Nat (List Tk) := lexL r.length r a []
theorem lexS_R (l : List UInt8) : lexS l = lexR l 0 := rfl
theorem lexL_acc : ∀ (f : Nat) (r : List UInt8) (a : Nat) (ts : List Tk), lexL f r a ts = (lexL f r a []).map (ts ++ ·)
  | 0, r, a, ts => by simp [lexL, Except.map]
  | f + 1, r, a, ts => by
    simp only [lexL]
    by_cases h : r = []
    · simp [h, Except.map]
    · simp only [if_neg h]
      cases hs : stp r with
      | none => rfl
      | some x =>
        obtain ⟨sz, o⟩ := x
        cases o with
        | none => exact lexL_acc f _ _ ts
        | some y =>
          obtain ⟨k, t, n⟩ := y
          simp only
          rw [lexL_acc f _ _ (ts ++ _), lexL_acc f _ _ ([] ++ _)]
          cases lexL f (r.drop sz) (a + sz) [] <;> simp [Except.map]
theorem lexR_nil (a : Nat) : lexR [] a = .ok [] := lexL_nil _ _ _
theorem lexR_wrong {r : List UInt8} {a : Nat} (hr : r ≠ []) (h : stp r = none) : lexR r a = .error a := by
  obtain ⟨f, hf⟩ : ∃ f, r.length = f + 1 := ⟨r.length - 1, by have := List.length_pos_iff.2 hr; omega⟩
  unfold lexR
  rw [hf, lexL, if_neg hr, h]
theorem lexR_skip {r : List UInt8} {a sz : Nat} (h : stp r = some (sz, none)) : lexR r a = lexR (r.drop sz) (a + sz) := by
  obtain ⟨p1, p2⟩ := stp_size h
  have hr : r ≠ [] := by intro e; subst e; simp [stp] at h
  obtain ⟨f, hf⟩ : ∃ f, r.length = f + 1 := ⟨r.length - 1, by omega⟩
  unfold lexR
  rw [hf, lexL, if_neg hr, h]
  exact lexL_fuel _ _ _ _ _ (by rw [List.length_drop]; omega) (by rw [List.length_drop]; omega)
theorem lexR_tok {r : List UInt8} {a sz k n : Nat} {t : List UInt8} (h : stp r = some (sz, some (k, t, n))) : lexR r a = (lexR (r.drop sz) (a + sz)).map (⟨k, t, n, a⟩ :: ·) := by
  obtain ⟨p1, p2⟩ := stp_size h
  have hr : r ≠ [] := by intro e; subst e; simp [stp] at h
  obtain ⟨f, hf⟩ : ∃ f, r.length = f + 1 := ⟨r.length - 1, by omega⟩
  unfold lexR
  rw [hf, lexL, if_neg hr, h]
  simp only
  rw [lexL_acc, List.nil_append, lexL_fuel f (r.drop sz).length _ _ _ (by rw [List.length_drop]; omega) (Nat.le_refl _)]
  rfl

/-- The tokens, later. -/
def Tk.shift (b : Nat) (t : Tk) : Tk := { t with pos := t.pos + b }
def shiftE (b : Nat) : Except Nat (List Tk) → Except Nat (List Tk)
  | .ok ts => .ok (ts.map (Tk.shift b))
  | .error p => .error (p + b)
/-- The way of every proof over a source: by its steps. -/
theorem steps_ind {P : List UInt8 → Prop} (h0 : P []) (hw : ∀ r, r ≠ [] → stp r = none → P r) (hs : ∀ r sz o, stp r = some (sz, o) → P (r.drop sz) → P r) : ∀ r, P r := by
  intro r
  generalize hn : r.length = n
  induction n using Nat.strongRecOn generalizing r with
  | _ n ih =>
    by_cases hr : r = []
    · subst hr; exact h0
    · cases h : stp r with
      | none => exact hw r hr h
      | some x =>
        obtain ⟨sz, o⟩ := x
        obtain ⟨p1, p2⟩ := stp_size h
        exact hs r sz o h (ih (r.drop sz).length (by rw [List.length_drop]; omega) (r.drop sz) rfl)
theorem lexR_shift (b : Nat) : ∀ (r : List UInt8) (a : Nat), lexR r (a + b) = shiftE b (lexR r a) := by
  apply steps_ind (P := fun r => ∀ a, lexR r (a + b) = shiftE b (lexR r a))
  · intro a; simp [lexR_nil, shiftE]
  · intro r hr h a; rw [lexR_wrong hr h, lexR_wrong hr h]; rfl
  · intro r sz o h ih a
    cases o with
    | none => rw [lexR_skip h, lexR_skip h, show a + b + sz = (a + sz) + b by omega, ih]
    | some y =>
      obtain ⟨k, t, n⟩ := y
      rw [lexR_tok h, lexR_tok h, show a + b + sz = (a + sz) + b by omega, ih]
      cases lexR (r.drop sz) (a + sz) <;> simp [Except.map, shiftE, Tk.shift]
theorem lexR_zero (r : List UInt8) (a : Nat) : lexR r a = shiftE a (lexR r 0) := by
  have := lexR_shift a r 0
  rwa [Nat.zero_add] at this

theorem takeWhile_app_stop {p : UInt8 → Bool} : ∀ (l : List UInt8) (c : UInt8) (m : List UInt8), p c = false → (l ++ c :: m).takeWhile p = l.takeWhile p
  | [], c, m, h => by simp [h]
  | x :: l, c, m, h => by
    simp only [List.cons_append, List.takeWhile_cons]
    split
    · rw [takeWhile_app_stop l c m h]
    · rfl
theorem takeWhile_app_short {p : UInt8 → Bool} : ∀ (l m : List UInt8), (l.takeWhile p).length < l.length → (l ++ m).takeWhile p = l.takeWhile p
  | [], m, h => by simp at h
  | x :: l, m, h => by
    simp only [List.cons_append, List.takeWhile_cons] at h ⊢
    split
    · rename_i hp
      rw [if_pos hp] at h
      rw [takeWhile_app_short l m (by simpa using h)]
    · rfl
theorem takeWhile_cut {p : UInt8 → Bool} : ∀ (l : List UInt8) (m : Nat), (l.takeWhile p).length ≤ m → (l.take m).takeWhile p = l.takeWhile p
  | [], m, _ => by simp
  | x :: l, 0, h => by
    simp only [List.takeWhile_cons] at h ⊢
    split
    · rename_i hp; rw [if_pos hp] at h; simp at h
    · simp
  | x :: l, m + 1, h => by
    simp only [List.take_succ_cons, List.takeWhile_cons] at h ⊢
    split
    · rename_i hp
      rw [if_pos hp] at h
      rw [takeWhile_cut l m (by simpa using h)]
    · rfl
theorem cls10 : cls 10 = 1 := by decide
theorem cls32 : cls 32 = 1 := by decide
theorem take2 (x : UInt8) (r : List UInt8) (c : UInt8) (m : List UInt8) (hc : c ≠ 47) : ((x :: r) ++ c :: m).take 2 = [47, 47] ↔ (x :: r).take 2 = [47, 47] := by
  cases r with
  | nil => simp [hc]
  | cons y r => simp
/-- Where a line feed follows, nothing goes on. -/
theorem stp_feed {r : List UInt8} (hr : r ≠ []) (m : List UInt8) : stp (r ++ 10 :: m) = stp r := by
  match r, hr with
  | x :: r, _ =>
    have h1 : (x :: r ++ 10 :: m).takeWhile isLn = (x :: r).takeWhile isLn := takeWhile_app_stop _ _ _ (by decide)
    have h2 : (x :: r ++ 10 :: m).takeWhile isDg = (x :: r).takeWhile isDg := takeWhile_app_stop _ _ _ (by decide)
    have h3 : (x :: r ++ 10 :: m).takeWhile isNm = (x :: r).takeWhile isNm := takeWhile_app_stop _ _ _ (by decide)
    have h4 := take2 x r 10 m (by decide)
    simp only [List.cons_append] at h1 h2 h3 h4 ⊢
    simp only [stp, h1, h2, h3]
    simp only [h4]
/-- Where a space follows: nothing goes on but a comment that ends with the source. -/
theorem stp_space {r : List UInt8} (hr : r ≠ []) (m : List UInt8) (h : ∀ sz, stp r = some (sz, none) → sz < r.length ∨ sz = 1) : stp (r ++ 32 :: m) = stp r := by
  match r, hr with
  | x :: r, _ =>
    have h2 : (x :: r ++ 32 :: m).takeWhile isDg = (x :: r).takeWhile isDg := takeWhile_app_stop _ _ _ (by decide)
    have h3 : (x :: r ++ 32 :: m).takeWhile isNm = (x :: r).takeWhile isNm := takeWhile_app_stop _ _ _ (by decide)
    have h4 := take2 x r 32 m (by decide)
    simp only [List.cons_append] at h2 h3 h4 ⊢
    simp only [stp, h2, h3]
    simp only [h4]
    split
    · rfl
    · split
      · rename_i hc1 hc2
        split
        · rename_i h5
          have h6 : stp (x :: r) = some (((x :: r).takeWhile isLn).length, none) := by simp only [stp, if_neg hc1, if_pos hc2, if_pos h5]
          have h7 := h _ h6
          have h8 : 2 ≤ ((x :: r).takeWhile isLn).length := by
            match r, h5 with
            | y :: r, h5 =>
              simp at h5
              obtain ⟨rfl, rfl⟩ := h5
              have e : isLn 47 = true := by decide
              simp [e]
          have h9 := takeWhile_app_short (p := isLn) (x :: r) (32 :: m) (by omega)
          simp only [List.cons_append] at h9
          rw [h9]
        · rfl
      · rfl
/-- Cut off behind what was read: it reads the same. -/
theorem stp_cut {r : List UInt8} {sz : Nat} {o : Option (Nat × List UInt8 × Nat)} (h : stp r = some (sz, o)) (m : Nat) (hm : sz ≤ m) : stp (r.take m) = some (sz, o) := by
  match r, h with
  | x :: r, h =>
    obtain ⟨p1, p2⟩ := stp_size h
    obtain ⟨m, rfl⟩ : ∃ k, m = k + 1 := ⟨m - 1, by omega⟩
    rw [← h, List.take_succ_cons]
    simp only [stp] at h ⊢
    split
    · rfl
    · rename_i hc1
      rw [if_neg hc1] at h
      split
      · rename_i hc2
        rw [if_pos hc2] at h
        by_cases h5 : (x :: r).take 2 = [47, 47]
        · rw [if_pos h5] at h
          simp only [Option.some.injEq, Prod.mk.injEq] at h
          obtain ⟨h, _⟩ := h
          have h8 : 2 ≤ ((x :: r).takeWhile isLn).length := by
            match r, h5 with
            | y :: r, h5 =>
              simp at h5
              obtain ⟨rfl, rfl⟩ := h5
              have e : isLn 47 = true := by decide
              simp [e]
          have h6 := takeWhile_cut (p := isLn) (x :: r) (m + 1) (by omega)
          simp only [List.take_succ_cons] at h6
          have h7 : (x :: r.take m).take 2 = [47, 47] := by
            rw [← h5, show x :: r.take m = (x :: r).take (m + 1) from rfl, List.take_take]
            congr 1; omega
          rw [if_pos h7, if_pos h5, h6]
        · have h7 : (x :: r.take m).take 2 ≠ [47, 47] := by
            intro e
            apply h5
            match r, m, e with
            | [], m, e => simp at e
            | y :: r, 0, e => simp at e
            | y :: r, m + 1, e => simpa using e
          rw [if_neg h7, if_neg h5]
      · rename_i hc2
        rw [if_neg hc2] at h
        split
        · rename_i hc3
          rw [if_pos hc3] at h
          cases hn : numB ((x :: r).takeWhile isDg) with
          | none => rw [hn] at h; simp at h
          | some n =>
            rw [hn] at h
            simp only [Option.some.injEq, Prod.mk.injEq] at h
            have h6 := takeWhile_cut (p := isDg) (x :: r) (m + 1) (by omega)
            simp only [List.take_succ_cons] at h6
            rw [h6, hn]
        · rename_i hc3
          rw [if_neg hc3] at h
          split
          · rename_i hc4
            rw [if_pos hc4] at h
            by_cases hn : nameB ((x :: r).takeWhile isNm) = true
            · rw [if_pos hn] at h
              simp only [Option.some.injEq, Prod.mk.injEq] at h
              have h6 := takeWhile_cut (p := isNm) (x :: r) (m + 1) (by omega)
              simp only [List.take_succ_cons] at h6
              rw [h6]
            · rw [if_neg hn] at h; simp at h
          · rfl

/-- Two sources with a line feed between them. -/
theorem lexR_feed (m : List UInt8) : ∀ (r : List UInt8) (a : Nat), lexR (r ++ 10 :: m) a = (match lexR r a with
    | .ok ts => (lexR m (a + r.length + 1)).map (ts ++ ·)
    | .error p => .error p) := by
  apply steps_ind (P := fun r => ∀ a, lexR (r ++ 10 :: m) a = (match lexR r a with
    | .ok ts => (lexR m (a + r.length + 1)).map (ts ++ ·)
    | .error p => .error p))
  · intro a
    have h : stp (10 :: m) = some (1, none) := by simp [stp, cls10]
    rw [List.nil_append, lexR_skip h, lexR_nil]
    simp only [List.drop_succ_cons, List.drop_zero, List.length_nil, Nat.add_zero, List.nil_append]
    cases lexR m (a + 1) <;> rfl
  · intro r hr h a
    rw [lexR_wrong (by simp) (by rw [stp_feed hr, h]), lexR_wrong hr h]
  · intro r sz o h ih a
    obtain ⟨p1, p2⟩ := stp_size h
    have hr : r ≠ [] := by intro e; subst e; simp [stp] at h
    have h' : stp (r ++ 10 :: m) = some (sz, o) := by rw [stp_feed hr, h]
    have hd : (r ++ 10 :: m).drop sz = r.drop sz ++ 10 :: m := by rw [List.drop_append_of_le_length p2]
    have hl : a + sz + (r.drop sz).length + 1 = a + r.length + 1 := by rw [List.length_drop]; omega
    cases o with
    | none => rw [lexR_skip h', lexR_skip h, hd, ih, hl]
    | some y =>
      obtain ⟨k, t, n⟩ := y
      rw [lexR_tok h', lexR_tok h, hd, ih, hl]
      cases lexR (r.drop sz) (a + sz) with
      | error p => rfl
      | ok ts => cases lexR m (a + r.length + 1) <;> simp [Except.map]

/-- What is wrong stands in the source; what begins there is wrong; what stands before it has tokens; and it stays wrong, whatever follows a space. -/
theorem lexR_bad (m : List UInt8) : ∀ (r : List UInt8) (a p : Nat), lexR r a = .error p → a ≤ p ∧ p < a + r.length ∧ lexR (r.drop (p - a)) 0 = .error 0 ∧ (∃ ts, lexR (r.take (p - a)) 0 = .ok ts) ∧ lexR (r ++ 32 :: m) a = .error p := by
  apply steps_ind (P := fun r => ∀ (a p : Nat), lexR r a = .error p → a ≤ p ∧ p < a + r.length ∧ lexR (r.drop (p - a)) 0 = .error 0 ∧ (∃ ts, lexR (r.take (p - a)) 0 = .ok ts) ∧ lexR (r ++ 32 :: m) a = .error p)
  · intro a p h; rw [lexR_nil] at h; cases h
  · intro r hr h a p hp
    rw [lexR_wrong hr h] at hp
    cases hp
    have := List.length_pos_iff.2 hr
    refine ⟨Nat.le_refl _, by omega, ?_, ⟨[], ?_⟩, ?_⟩
    · rw [Nat.sub_self, List.drop_zero]; exact lexR_wrong hr h
    · rw [Nat.sub_self, List.take_zero]; exact lexR_nil _
    · exact lexR_wrong (by simp) (by rw [stp_space hr m (by rw [h]; intro sz e; cases e), h])
  · intro r sz o h ih a p hp
    obtain ⟨p1, p2⟩ := stp_size h
    have hr : r ≠ [] := by intro e; subst e; simp [stp] at h
    have hp' : lexR (r.drop sz) (a + sz) = .error p := by
      cases o with
      | none => rw [lexR_skip h] at hp; exact hp
      | some y =>
        obtain ⟨k, t, n⟩ := y
        rw [lexR_tok h] at hp
        cases he : lexR (r.drop sz) (a + sz) with
        | ok ts => rw [he] at hp; cases hp
        | error q => rw [he] at hp; exact hp
    obtain ⟨q1, q2, q3, ⟨ts, q4⟩, q5⟩ := ih _ _ hp'
    rw [List.length_drop] at q2
    have h' : stp (r ++ 32 :: m) = some (sz, o) := by rw [stp_space hr m (by intro s e; rw [h] at e; cases e; left; omega), h]
    have hd : (r ++ 32 :: m).drop sz = r.drop sz ++ 32 :: m := by rw [List.drop_append_of_le_length p2]
    have hc : stp (r.take (p - a)) = some (sz, o) := stp_cut h _ (by omega)
    have ht : (r.take (p - a)).drop sz = (r.drop sz).take (p - (a + sz)) := by rw [List.drop_take]; congr 1; omega
    refine ⟨by omega, by omega, ?_, ?_, ?_⟩
    · rw [← q3, List.drop_drop]; congr 2; omega
    · cases o with
      | none => rw [lexR_skip hc, ht, lexR_zero, q4]; exact ⟨_, rfl⟩
      | some y =>
        obtain ⟨k, t, n⟩ := y
        rw [lexR_tok hc, ht, lexR_zero, q4]; exact ⟨_, rfl⟩
    · cases o with
      | none => rw [lexR_skip h', hd, q5]
      | some y =>
        obtain ⟨k, t, n⟩ := y
        rw [lexR_tok h', hd, q5]; rfl

/-- Every token that Lex answers is valid. -/
def Tk.ok (t : Tk) : Prop := validT t.tok = true
theorem stp_ok {r : List UInt8} {sz k n : Nat} {t : List UInt8} (h : stp r = some (sz, some (k, t, n))) (a : Nat) : (⟨k, t, n, a⟩ : Tk).ok := by
  match r, h with
  | x :: r, h =>
    unfold Tk.ok
    rw [validT_tk]
    simp only [stp] at h
    split at h
    · simp at h
    · split at h
      · rename_i hc2
        split at h
        · simp at h
        · simp at h
          obtain ⟨rfl, rfl, rfl, rfl⟩ := h
          simp [signB, isSg, hc2]
      · split at h
        · cases hn : numB ((x :: r).takeWhile isDg) with
          | none => rw [hn] at h; simp at h
          | some m =>
            rw [hn] at h
            simp at h
            obtain ⟨rfl, rfl, rfl, rfl⟩ := h
            have hle : m ≤ 1099511627776 := by
              unfold numB at hn
              split at hn
              · cases hn
              · split at hn
                · cases hn; assumption
                · cases hn
            simp [hle]
        · split at h
          · split at h
            · rename_i hb
              simp at h
              obtain ⟨rfl, rfl, rfl, rfl⟩ := h
              simp [hb]
            · cases h
          · cases h
theorem lexR_ok : ∀ (r : List UInt8) (a : Nat) (ts : List Tk), lexR r a = .ok ts → (∀ t ∈ ts, t.ok) ∧ ts.length ≤ r.length ∧ (ts.map (fun t => t.text.length)).sum ≤ r.length := by
  apply steps_ind (P := fun r => ∀ (a : Nat) (ts : List Tk), lexR r a = .ok ts → (∀ t ∈ ts, t.ok) ∧ ts.length ≤ r.length ∧ (ts.map (fun t => t.text.length)).sum ≤ r.length)
  · intro a ts h
    rw [lexR_nil] at h
    cases h
    simp
  · intro r hr h a ts hp; rw [lexR_wrong hr h] at hp; cases hp
  · intro r sz o h ih a ts hp
    obtain ⟨p1, p2⟩ := stp_size h
    cases o with
    | none =>
      rw [lexR_skip h] at hp
      obtain ⟨q1, q2, q3⟩ := ih _ _ hp
      rw [List.length_drop] at q2 q3
      exact ⟨q1, by omega, by omega⟩
    | some y =>
      obtain ⟨k, t, n⟩ := y
      rw [lexR_tok h] at hp
      cases he : lexR (r.drop sz) (a + sz) with
      | error q => rw [he] at hp; cases hp
      | ok us =>
        rw [he] at hp
        cases hp
        obtain ⟨q1, q2, q3⟩ := ih _ _ he
        rw [List.length_drop] at q2 q3
        have ht : t.length ≤ sz := by
          match r, h with
          | x :: r, h =>
            simp only [stp] at h
            split at h
            · simp at h
            · split at h
              · split at h
                · simp at h
                · simp at h; obtain ⟨rfl, rfl, rfl, rfl⟩ := h; simp
              · split at h
                · split at h
                  · simp at h; obtain ⟨rfl, rfl, rfl, rfl⟩ := h; simp
                  · cases h
                · split at h
                  · split at h
                    · simp at h; obtain ⟨rfl, rfl, rfl, rfl⟩ := h; exact Nat.le_refl _
                    · cases h
                  · cases h
        refine ⟨?_, by simp; omega, by simp; omega⟩
        intro t' ht'
        rcases List.mem_cons.1 ht' with rfl | ht'
        · exact stp_ok h a
        · exact q1 t' ht'
theorem lexR_pos : ∀ (r : List UInt8) (a : Nat) (ts : List Tk), lexR r a = .ok ts → ∀ t ∈ ts, a ≤ t.pos ∧ t.pos < a + r.length := by
  apply steps_ind (P := fun r => ∀ (a : Nat) (ts : List Tk), lexR r a = .ok ts → ∀ t ∈ ts, a ≤ t.pos ∧ t.pos < a + r.length)
  · intro a ts h
    rw [lexR_nil] at h
    cases h
    simp
  · intro r hr h a ts hp; rw [lexR_wrong hr h] at hp; cases hp
  · intro r sz o h ih a ts hp
    obtain ⟨p1, p2⟩ := stp_size h
    cases o with
    | none =>
      rw [lexR_skip h] at hp
      intro t ht
      have := ih _ _ hp t ht
      rw [List.length_drop] at this
      omega
    | some y =>
      obtain ⟨k, t, n⟩ := y
      rw [lexR_tok h] at hp
      cases he : lexR (r.drop sz) (a + sz) with
      | error q => rw [he] at hp; cases hp
      | ok us =>
        rw [he] at hp
        cases hp
        intro t' ht'
        rcases List.mem_cons.1 ht' with rfl | ht'
        · exact ⟨Nat.le_refl _, by simp only; omega⟩
        · have := ih _ _ he t' ht'
          rw [List.length_drop] at this
          omega
end Go.Proofs.YtemapfhiiefieaaDoor
