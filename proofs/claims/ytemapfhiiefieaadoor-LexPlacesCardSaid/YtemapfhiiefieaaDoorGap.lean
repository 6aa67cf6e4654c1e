/- White space and comments between tokens. -/
import Derived.Test.YtemapfhiiefieaaDoorBackL
import Derived.Test.YtemapfhiiefieaaDoorWrongL
namespace Go.Proofs.YtemapfhiiefieaaDoor
open Go.RowKit

/-- What is passed over. -/
def Gap (g : List UInt8) : Prop := ∀ (r : List UInt8) (a : Nat), lexR (g ++ r) a = lexR r (a + g.length)
theorem Gap.nil : Gap [] := fun _ _ => rfl
theorem Gap.app {g h : List UInt8} (hg : Gap g) (hh : Gap h) : Gap (g ++ h) := fun r a => by
  rw [List.append_assoc, hg, hh, List.length_append, Nat.add_assoc]
theorem Gap.white {c : UInt8} (hc : cls c = 1) : Gap [c] := fun r a => by
  have h : stp (c :: r) = some (1, none) := by simp [stp, hc]
  rw [List.cons_append, List.nil_append, lexR_skip h, List.drop_succ_cons, List.drop_zero]
  rfl
theorem Gap.line {ws : List UInt8} (h : ∀ c ∈ ws, c ≠ 10) : Gap (47 :: 47 :: ws ++ [10]) := fun r a => by
  have hall : ∀ c ∈ 47 :: 47 :: ws, isLn c = true := by
    intro c hc
    rcases List.mem_cons.1 hc with rfl | hc
    · decide
    · rcases List.mem_cons.1 hc with rfl | hc
      · decide
      · have := h c hc
        simp only [isLn, Bool.not_eq_true', beq_eq_false_iff_ne, ne_eq]
        intro e
        exact this (UInt8.toNat_inj.1 e)
  have ht : (47 :: 47 :: ws ++ 10 :: r).takeWhile isLn = 47 :: 47 :: ws := takeWhile_past hall (by simp [isLn])
  have hs : stp (47 :: 47 :: ws ++ 10 :: r) = some ((47 :: 47 :: ws).length, none) := by
    have hc : cls 47 = 2 := by decide
    simp only [List.cons_append] at ht ⊢
    simp only [stp, ht, hc]
    simp
  have e : (47 :: 47 :: ws ++ [10]) ++ r = 47 :: 47 :: ws ++ 10 :: r := by simp
  rw [e, lexR_skip hs, List.drop_left]
  have := Gap.white (c := 10) (by decide) r (a + (47 :: 47 :: ws).length)
  rw [List.cons_append, List.nil_append] at this
  rw [this]
  simp [Nat.add_assoc]
/-- The eight. -/
def gaps (ws : List UInt8) : List (List UInt8) := [[32], [9], [10], [13, 10], [32, 32], 47 :: 47 :: ws ++ [10], [32, 47, 47, 32, 10], [10, 47, 47, 10]]
theorem gaps_len (ws : List UInt8) : (gaps ws).length = 8 := rfl
theorem gaps_gap {ws : List UInt8} (h : ∀ c ∈ ws, c ≠ 10) : ∀ g ∈ gaps ws, Gap g := by
  intro g hg
  simp only [gaps, List.mem_cons, List.not_mem_nil, or_false] at hg
  rcases hg with rfl | rfl | rfl | rfl | rfl | rfl | rfl | rfl
  · exact Gap.white (by decide)
  · exact Gap.white (by decide)
  · exact Gap.white (by decide)
  · exact (Gap.white (c := 13) (by decide)).app (Gap.white (c := 10) (by decide))
  · exact (Gap.white (c := 32) (by decide)).app (Gap.white (c := 32) (by decide))
  · exact Gap.line h
  · exact (Gap.white (c := 32) (by decide)).app (Gap.line (ws := [32]) (by decide))
  · exact (Gap.white (c := 10) (by decide)).app (Gap.line (ws := []) (by decide))
theorem gaps_short {ws : List UInt8} (h : ws.length ≤ 100) : ∀ g ∈ gaps ws, g.length ≤ 103 := by
  intro g hg
  simp only [gaps, List.mem_cons, List.not_mem_nil, or_false] at hg
  rcases hg with rfl | rfl | rfl | rfl | rfl | rfl | rfl | rfl <;> simp <;> omega
/-- What is written so far: its tokens, whatever follows. -/
def Sofar (s : List UInt8) (l : List Tok) : Prop := (∃ ts, (∀ r, lexR (s ++ r) 0 = (lexR r s.length).map (ts ++ ·)) ∧ samesT l (toks ts) = true ∧ ts.length = l.length) ∧ s.length ≤ 1 + sumT l + l.length * 117 ∧ l.all validT = true
theorem samesT_snoc : ∀ {l m : List Tok} {t u : Tok}, samesT l m = true → sameT t u = true → samesT (l ++ [t]) (m ++ [u]) = true
  | [], [], t, u, _, h => by simp [samesT, h]
  | x :: l, y :: m, t, u, h, h2 => by
    simp only [samesT, List.cons_append, Bool.and_eq_true] at h ⊢
    exact ⟨h.1, samesT_snoc h.2 h2⟩
  | [], y :: m, _, _, h, _ => by simp [samesT] at h
  | x :: l, [], _, _, h, _ => by simp [samesT] at h
theorem Sofar.start : Sofar [10] [] := by
  refine ⟨⟨[], fun r => ?_, rfl, rfl⟩, by simp [sumT], rfl⟩
  have := Gap.white (c := 10) (by decide) r 0
  rw [this]
  simp only [List.nil_append, Nat.zero_add]
  cases lexR r [10].length <;> rfl
theorem sumT_snoc (l : List Tok) (t : Tok) : sumT (l ++ [t]) = sumT l + t.text.size := by unfold sumT; simp
theorem Sofar.more {s : List UInt8} {l : List Tok} (h : Sofar s l) (t : Tok) (hv : validT t = true) (g : List UInt8) (hg : Gap g) (hl : g.length ≤ 103) : Sofar (s ++ ((textT t).data.toList ++ [32] ++ g)) (l ++ [t]) := by
  obtain ⟨⟨ts, h1, h2, h3⟩, h4, h5⟩ := h
  have hlen := textT_len t hv
  have hlen2 : (textT t).data.toList.length = (textT t).size := Array.length_toList
  refine ⟨⟨ts ++ [t.tk s.length], fun r => ?_, ?_, by simp [h3]⟩, ?_, ?_⟩
  · have hs := stp_text t hv (r := 32 :: (g ++ r)) (.inr ⟨_, rfl⟩)
    have e : s ++ ((textT t).data.toList ++ [32] ++ g) ++ r = s ++ ((textT t).data.toList ++ 32 :: (g ++ r)) := by simp
    rw [e, h1, lexR_tok hs, List.drop_left]
    have h32 := Gap.white (c := 32) (by decide) (g ++ r) (s.length + (textT t).data.toList.length)
    rw [List.cons_append, List.nil_append] at h32
    rw [h32, hg]
    have e2 : s.length + (textT t).data.toList.length + [(32 : UInt8)].length + g.length = (s ++ ((textT t).data.toList ++ [32] ++ g)).length := by simp; omega
    rw [e2]
    cases lexR r (s ++ ((textT t).data.toList ++ [32] ++ g)).length with
    | error p => rfl
    | ok us => simp [Except.map, Tok.tk]
  · rw [toks, List.map_append]
    exact samesT_snoc h2 (sameT_self t _ hv)
  · rw [sumT_snoc]
    simp only [List.length_append, List.length_cons, List.length_nil, Nat.add_mul]
    omega
  · rw [List.all_append, h5]
    simp [hv]
theorem Sofar.done {s : List UInt8} {l : List Tok} (h : Sofar s l) : ∃ ts, lexS s = .ok ts ∧ samesT l (toks ts) = true ∧ ts.length = l.length := by
  obtain ⟨⟨ts, h1, h2, h3⟩, _⟩ := h
  refine ⟨ts, ?_, h2, h3⟩
  have := h1 []
  rw [List.append_nil, lexR_nil] at this
  rw [lexS_R, this]
  simp [Except.map]
/-- The bytes of a note, without line feeds. -/
def plain (l : List UInt8) : List UInt8 := l.filter (fun c => c.toNat != 10)
theorem plain_ne (l : List UInt8) : ∀ c ∈ plain l, c ≠ 10 := by
  intro c hc e
  subst e
  have := (List.mem_filter.1 hc).2
  exact absurd this (by decide)
theorem plain_take {l : List UInt8} {k : Nat} (h : k < l.length) : plain (l.take (k + 1)) = plain (l.take k) ++ (if l[k].toNat = 10 then [] else [l[k]]) := by
  unfold plain
  rw [List.take_succ_eq_append_getElem h, List.filter_append]
  congr 1
  by_cases h1 : l[k].toNat = 10
  · simp [h1]
  · simp [h1]
/-- One token in a new block. -/
theorem tok_new (w : World) (k n p : Int) (s : ByteArray) : Toks (w.alloc (.cells #[.int .i64 k, .string s, .int .i64 n, .int .i64 p] 35)) (some ⟨w.heap.size, 0, none⟩) [⟨k, s, n, p⟩] := fun i hi => by
  obtain rfl : i = 0 := by simpa using hi
  have hB := Blk.new w 35 [.int .i64 k, .string s, .int .i64 n, .int .i64 p]
  refine ⟨w.heap.size, 0, rfl, by simp, ?_, ?_, ?_, ?_⟩
  · exact hB.cell 0
  · exact hB.cell 1
  · exact hB.cell 2
  · exact hB.cell 3
end Go.Proofs.YtemapfhiiefieaaDoor
