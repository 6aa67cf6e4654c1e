/- sane. -/
import Derived.Test.YtemapfhiiefieaaDoorAns
namespace Go.Proofs.YtemapfhiiefieaaDoor
open Go.RowKit

theorem name_world {P : Program} {f : Nat} {args : Array Value} {w : World} {Q : Ending → World → Prop} (h : ∀ W, Hid (W = w) → Calls P f args W Q) : Calls P f args w Q := h w rfl
theorem name_list {P : Program} {ops : Array Oper} {Q : Exit → Act → World → Prop} {os : List Oper} {a : Act} {w : World} (h : ∀ W, Hid (W = w) → wpList P ops Q os a W) : wpList P ops Q os a w := h w rfl

/-- A token of Lex is valid. -/
theorem validT_tk (t : Tk) : validT t.tok = (if t.kind = 1 then t.n == 0 && nameB t.text else if t.kind = 2 then t.text.isEmpty && decide (t.n ≤ 1099511627776) else if t.kind = 3 then t.n == 0 && signB t.text else false) := by
  obtain ⟨k, s, n, p⟩ := t
  simp only [validT]
  have h0 : ((n : Int) == 0) = (n == 0) := by rw [Bool.eq_iff_iff]; simp only [beq_iff_eq, Int.natCast_eq_zero]
  have h1 : decide ((0 : Int) ≤ n) = true := by simp
  have h2 : decide ((n : Int) ≤ 1099511627776) = decide (n ≤ 1099511627776) := by rw [Bool.eq_iff_iff]; simp only [decide_eq_true_eq]; omega
  have h3 : decide ((str s).toList = []) = s.isEmpty := by rw [Bool.eq_iff_iff, ByteArray.toList_eq]; simp
  have k1 : ((k : Int) = 1) = (k = 1) := by rw [eq_iff_iff]; omega
  have k2 : ((k : Int) = 2) = (k = 2) := by rw [eq_iff_iff]; omega
  have k3 : ((k : Int) = 3) = (k = 3) := by rw [eq_iff_iff]; omega
  simp only [h0, h1, h2, h3, k1, k2, k3, Bool.true_and]
theorem sameT_tk (t u : Tk) : sameT t.tok u.tok = (t.kind == u.kind && decide (t.text = u.text) && t.n == u.n) := by
  simp only [sameT]
  have k1 : ((t.kind : Int) == u.kind) = (t.kind == u.kind) := by rw [Bool.eq_iff_iff]; simp only [beq_iff_eq]; omega
  have k2 : ((t.n : Int) == u.n) = (t.n == u.n) := by rw [Bool.eq_iff_iff]; simp only [beq_iff_eq]; omega
  have h3 : decide ((str t.text).toList = (str u.text).toList) = decide (t.text = u.text) := by rw [ByteArray.toList_eq, ByteArray.toList_eq]
  rw [k1, k2, h3]

/-- What is kept through a walk: the world that was, and slices of tokens. -/
def Ks (w W : World) (L : List (Option Addr × List Tok)) : Prop := (Below w.heap.size w W ∧ Tab w ∧ Pow w) ∧ ∀ p ∈ L, Toks W p.1 p.2
section
variable {w W W' : World} {L : List (Option Addr × List Tok)}
theorem Ks.new (hT : Tab w) (hP : Pow w) : Ks w w [] := ⟨⟨Below.refl _ _, hT, hP⟩, by simp⟩
theorem Ks.later (h : Ks w W L) (hb : Below W.heap.size W W') : Ks w W' L := ⟨⟨below_one h.1.1 hb, h.1.2⟩, fun p hp => (h.2 p hp).below hb⟩
theorem Ks.more {A : Option Addr} {l : List Tok} (h : Ks w W L) (ht : Toks W A l) : Ks w W ((A, l) :: L) := ⟨h.1, fun p hp => by
  rcases List.mem_cons.1 hp with rfl | hp
  · exact ht
  · exact h.2 p hp⟩
theorem Ks.add {A : Option Addr} {l : List Tok} (h : Ks w W L) (hb : Below W.heap.size W W') (ht : Toks W' A l) : Ks w W' ((A, l) :: L) := (h.later hb).more ht
theorem Ks.tab (h : Ks w W L) : Tab W := tab_below h.1.2.1 h.1.1 (cell_lt (h.1.2.1 0 (by decide)))
theorem Ks.pow (h : Ks w W L) : Pow W := pow_below h.1.2.2 h.1.1
end

theorem lex_okn (l : List UInt8) (ts : List Tk) (n : Nat) (w : World) (hT : Tab w) (hl : l.length ≤ 65536) (h : lexS l = .ok ts) (hn : ts.length = n) : Calls Tryd.prog 12 #[.string (str l)] w fun e w' =>
    ∃ A c, e = .returned (.tuple #[.slice A n c, .int .i64 0, .int .i64 0]) ∧ Toks w' A (toks ts) ∧ Below w.heap.size w w' := by
  subst hn
  exact lex_ok l ts w hT hl h
theorem lex_wrongn (l : List UInt8) (p : Nat) (w : World) (hT : Tab w) (hl : l.length ≤ 65536) (h : lexS l = .error p) (q : Int) (hq : (p : Int) = q) : Calls Tryd.prog 12 #[.string (str l)] w fun e w' =>
    e = .returned (.tuple #[.slice none 0 0, .int .i64 q, .int .i64 30]) ∧ Below w.heap.size w w' := by
  subst hq
  exact lex_wrong l p w hT hl h
theorem text_ok (A : Option Addr) (l : List Tok) (n ca : Nat) (s : List UInt8) (w : World) (hn : l.length = n) (hl : n ≤ 100000) (hA : Toks w A l) (hT : Tab w) (hP : Pow w)
    (hV : ∀ t ∈ l, t.text.data.toList.length ≤ 1000000000 ∧ -9223372036854775808 ≤ t.n ∧ t.n ≤ 9223372036854775807) (hJ : joinT l = s) (hs : s.length ≤ 140737488355328) (hv : l.all validT = true) :
    Calls Tryd.prog 16 #[.slice A n ca] w fun e w' => e = .returned (.tuple #[.string (str s), .int .i64 0]) ∧ Below w.heap.size w w' := by
  subst hn
  refine (text16_any A l ca w hl hA hT hP hV (by rw [hJ]; exact hs)).mono fun e w' h => ?_
  unfold TextPost at h
  rw [hv, if_pos rfl, hJ] at h
  exact h
theorem text_bad (A : Option Addr) (l : List Tok) (n ca : Nat) (w : World) (hn : l.length = n) (hl : n ≤ 100000) (hA : Toks w A l) (hT : Tab w) (hP : Pow w)
    (hV : ∀ t ∈ l, t.text.data.toList.length ≤ 1000000000 ∧ -9223372036854775808 ≤ t.n ∧ t.n ≤ 9223372036854775807) (hs : (joinT l).length ≤ 140737488355328) (hv : l.all validT = false) :
    Calls Tryd.prog 16 #[.slice A n ca] w fun e w' => e = .returned (.tuple #[.string ⟨#[]⟩, .int .i64 30]) ∧ Below w.heap.size w w' := by
  subst hn
  refine (text16_any A l ca w hl hA hT hP hV hs).mono fun e w' h => ?_
  unfold TextPost at h
  rw [hv, if_neg (by simp)] at h
  exact h
theorem same_is (A C : Option Addr) (l m : List Tok) (n k ca cb : Nat) (r : Bool) (w : World) (hn : l.length = n) (hk : m.length = k) (hl : n ≤ 100000) (hA : Toks w A l) (hC : Toks w C m) (hr : samesT l m = r) :
    Calls Tryd.prog 18 #[.slice A n ca, .slice C k cb] w fun e w' => e = .returned (.bool r) ∧ Below w.heap.size w w' := by
  subst hn hk hr
  exact same_any A C l m ca cb w (by omega) hA hC
theorem requal_is (A C : Option Addr) (l m : List Tok) (n k ca cb : Nat) (r : Bool) (w : World) (hn : l.length = n) (hk : m.length = k) (hl : n ≤ 100000) (hA : Toks w A l) (hC : Toks w C m) (hr : equalT l m = r) :
    Calls Tryd.prog 14 #[.slice A n ca, .slice C k cb] w fun e w' => e = .returned (.bool r) ∧ Below w.heap.size w w' := by
  subst hn hk hr
  exact requal_any A C l m ca cb w (by omega) hA hC

abbrev tkSum : List Tk := [⟨1, [115, 117, 109], 0, 0⟩, ⟨2, [], 30, 4⟩, ⟨3, [59], 0, 6⟩]
abbrev tkBig : List Tk := [⟨2, [], 1099511627776, 0⟩]
abbrev tkA : List Tk := [⟨1, [97], 0, 0⟩]
abbrev tkA1 : List Tk := [⟨1, [97], 0, 0⟩, ⟨3, [61], 0, 1⟩, ⟨2, [], 1, 2⟩]
theorem same_self : ∀ l : List Tk, samesT (toks l) (toks l) = true
  | [] => rfl
  | t :: l => by simp only [toks, List.map_cons, samesT]; rw [sameT_tk, same_self l]; simp
theorem places_self : ∀ l : List Tok, placesT l l = true
  | [] => rfl
  | t :: l => by simp [placesT, places_self l]
theorem sum_self : equalT (toks tkSum) (toks tkSum) = true := by unfold equalT; rw [same_self, places_self]; rfl
theorem a_a1 : samesT (toks tkA) (toks tkA1) = false := by simp [samesT, tkA1, tkA]
theorem a_a9 : samesT (toks tkA) (toks [⟨1, [97], 0, 9⟩]) = true := by
  simp only [toks, List.map_cons, List.map_nil, samesT]; rw [sameT_tk]; rfl
theorem valid_a1 : (toks tkA1).all validT = true := by
  simp only [toks, List.map_cons, List.map_nil, List.all_cons, List.all_nil, validT_tk]; rfl
theorem valid_none : ([⟨0, ⟨#[]⟩, 0, 0⟩] : List Tok).all validT = false := by
  simp [validT]
theorem join_a1 : joinT (toks tkA1) = [97, 32, 61, 32, 49] := by
  have e : Lib.itoa 1 = [49] := by unfold Lib.itoa Lib.decDigits; rfl
  simp [joinT, textT, tkA1, toks, e]; rfl
theorem name_b12 : nameB [66, 95, 49, 50] = true := by rfl
theorem name_12 : nameB [95, 49, 50] = false := by rfl
end Go.Proofs.YtemapfhiiefieaaDoor
