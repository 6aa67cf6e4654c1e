/- What Lex answers, as tokens in memory. -/
import Derived.Test.YtemapfhiiefieaaDoorReq
import Derived.Test.YtemapfhiiefieaaDoorRvl
import Derived.Test.YtemapfhiiefieaaDoorText
namespace Go.Proofs.YtemapfhiiefieaaDoor
open Go.RowKit

/-- A token that Lex answers, as any token. -/
abbrev Tk.tok (t : Tk) : Tok := ⟨t.kind, str t.text, t.n, t.pos⟩
abbrev toks (l : List Tk) : List Tok := l.map Tk.tok
theorem tcs_cons (t : Tk) (l : List Tk) : tcs (t :: l) = t.cs ++ tcs l := by simp [tcs]
theorem tcs_length : ∀ l : List Tk, (tcs l).length = l.length * 4
  | [] => rfl
  | t :: l => by rw [tcs_cons, List.length_append, tcs_length l]; simp [Tk.cs]; omega
theorem tcs_get : ∀ (l : List Tk) (i : Nat) (h : i < l.length), (tcs l)[i * 4]? = some (.int .i64 (l[i].kind : Nat)) ∧ (tcs l)[i * 4 + 1]? = some (.string (str l[i].text)) ∧ (tcs l)[i * 4 + 2]? = some (.int .i64 (l[i].n : Nat)) ∧ (tcs l)[i * 4 + 3]? = some (.int .i64 (l[i].pos : Nat))
  | [], i, h => absurd h (by simp)
  | t :: l, 0, _ => by rw [tcs_cons]; exact ⟨rfl, rfl, rfl, rfl⟩
  | t :: l, i + 1, h => by
    have hg := tcs_get l i (by simpa using h)
    have hs : ∀ k, (tcs (t :: l))[(i + 1) * 4 + k]? = (tcs l)[i * 4 + k]? := fun k => by
      rw [tcs_cons, List.getElem?_append_right (by simp [Tk.cs]; omega)]
      congr 1
      simp [Tk.cs]; omega
    have h0 := hs 0
    simp only [Nat.add_zero] at h0
    rw [h0, hs 1, hs 2, hs 3]
    exact hg
theorem toks_own {w : World} {base : Nat} {v : Value} {ts : List Tk} (h : w.ownsRow base 35 4 v ts.length (tcs ts)) : ∃ A c, v = .slice A ts.length c ∧ Toks w A (toks ts) := by
  rcases h with ⟨_, ⟨rfl, hn⟩ | ⟨g, cap, cur, rfl, hg, hh, h1, h2, h3, h4⟩⟩
  · refine ⟨none, 0, by rw [hn], fun i hi => ?_⟩
    rw [List.length_map, hn] at hi
    exact absurd hi (by omega)
  · refine ⟨_, cap, rfl, fun i hi => ⟨g, 0, rfl, (Array.getElem?_eq_some_iff.1 hh).1, ?_⟩⟩
    have hi' : i < ts.length := by simpa using hi
    have hc : ∀ k, k < ts.length * 4 → w.cell? ⟨g, 0 + k, none⟩ = (tcs ts)[k]? := fun k hk => by
      rw [cell_of_row w g (0 + k) _ _ _ hh, ← h4, Nat.zero_add, List.getElem?_take, if_pos hk]
      simp
    obtain ⟨g0, g1, g2, g3⟩ := tcs_get ts i hi'
    have e : (toks ts)[i] = (ts[i]).tok := by simp
    rw [e]
    refine ⟨?_, ?_, ?_, ?_⟩
    · rw [hc _ (by omega), g0]
    · rw [Nat.add_assoc, hc _ (by omega), g1]
    · rw [Nat.add_assoc, hc _ (by omega), g2]
    · rw [Nat.add_assoc, hc _ (by omega), g3]

/-- What Lex answers to a source that is not too long. -/
def LexAns (l : List UInt8) (w : World) (e : Ending) (w' : World) : Prop :=
  (match lexS l with
    | .ok ts => ∃ A c, e = .returned (.tuple #[.slice A ts.length c, .int .i64 0, .int .i64 0]) ∧ Toks w' A (toks ts) ∧ w'.ownsRow w.heap.size 35 4 (.slice A ts.length c) ts.length (tcs ts)
    | .error p => e = .returned (.tuple #[.slice none 0 0, .int .i64 (p : Nat), .int .i64 30])) ∧ Below w.heap.size w w'
theorem lex_ans (l : List UInt8) (w : World) (hT : Tab w) (hl : l.length ≤ 65536) : Calls Tryd.prog 12 #[.string (str l)] w (LexAns l w) :=
  (lex_any l w hT (by omega)).mono fun e w' ⟨h, hb⟩ => by
    rw [if_neg (by omega)] at h
    refine ⟨?_, hb⟩
    cases hs : lexS l with
    | ok ts =>
      rw [hs] at h
      obtain ⟨v, rfl, ho⟩ := h
      obtain ⟨A, c, rfl, ht⟩ := toks_own ho
      exact ⟨A, c, rfl, ht, ho⟩
    | error p =>
      rw [hs] at h
      exact h
/-- .. when its tokens are known. -/
theorem lex_ok (l : List UInt8) (ts : List Tk) (w : World) (hT : Tab w) (hl : l.length ≤ 65536) (h : lexS l = .ok ts) : Calls Tryd.prog 12 #[.string (str l)] w fun e w' =>
    ∃ A c, e = .returned (.tuple #[.slice A ts.length c, .int .i64 0, .int .i64 0]) ∧ Toks w' A (toks ts) ∧ Below w.heap.size w w' :=
  (lex_ans l w hT hl).mono fun e w' ⟨h1, hb⟩ => by
    rw [h] at h1
    obtain ⟨A, c, he, ht, _⟩ := h1
    exact ⟨A, c, he, ht, hb⟩
theorem lex_wrong (l : List UInt8) (p : Nat) (w : World) (hT : Tab w) (hl : l.length ≤ 65536) (h : lexS l = .error p) : Calls Tryd.prog 12 #[.string (str l)] w fun e w' =>
    e = .returned (.tuple #[.slice none 0 0, .int .i64 (p : Nat), .int .i64 30]) ∧ Below w.heap.size w w' :=
  (lex_ans l w hT hl).mono fun e w' ⟨h1, hb⟩ => by
    rw [h] at h1
    exact ⟨h1, hb⟩

theorem ex_sum : lexS [115, 117, 109, 32, 51, 48, 59] = .ok [⟨1, [115, 117, 109], 0, 0⟩, ⟨2, [], 30, 4⟩, ⟨3, [59], 0, 6⟩] := by rfl
theorem ex_007 : lexS [48, 48, 55] = .error 0 := by rfl
theorem ex_big : lexS [49, 48, 57, 57, 53, 49, 49, 54, 50, 55, 55, 55, 54] = .ok [⟨2, [], 1099511627776, 0⟩] := by rfl
theorem ex_ab : lexS [97, 32, 47, 47, 32, 98] = .ok [⟨1, [97], 0, 0⟩] := by rfl
theorem ex_two : lexS [97, 32, 36] = .error 2 := by rfl
theorem ex_a1 : lexS [97, 61, 49] = .ok [⟨1, [97], 0, 0⟩, ⟨3, [61], 0, 1⟩, ⟨2, [], 1, 2⟩] := by rfl
theorem ex_nil : lexS [] = .ok [] := by rfl
end Go.Proofs.YtemapfhiiefieaaDoor
