/- What 'append' does with tokens. -/
import Derived.Test.YtemapfhiiefieaaDoorPur
namespace Go.Proofs.YtemapfhiiefieaaDoor
open Go.RowKit

theorem wpList_of_wp {P : Program} {ops : Array Oper} {Q : Exit → Act → World → Prop} {o : Oper} {rest : List Oper} {a : Act} {w : World} (hw : Region.wanted o (yielded ops a.tmps) = true) (h : o.wp P a w (wpList P ops Q rest) Q) : wpList P ops Q (o :: rest) a w := by
  unfold wpList
  rw [if_pos hw]
  exact .inl h
theorem step_of_wp {P : Program} {ops : Array Oper} {Q : Exit → Act → World → Prop} {K : Act → World → Prop} {E : Prop} {o : Oper} {a : Act} {w : World} (hw : Region.wanted o (yielded ops a.tmps) = true) (h : o.wp P a w K Q) :
    if Region.wanted o (yielded ops a.tmps) = true then Oper.wp P o a w K Q else E := by
  rw [if_pos hw]
  exact h

section
variable {P : Program} {w : World} {o : Oper} {a : Act} {K : Act → World → Prop} {Q : Exit → Act → World → Prop}
/-- What 'append' leaves: the row with the news behind it. -/
theorem wp_app (s x : Operand) (t : TypeId) (ho : o.op = .call { callee := .builtin .append, args := #[s, x], argTypes := #[t, t] })
    (base : Nat) (e : TypeId) (i : TypeInfo) (z : Value) (size bytes : Nat) (ht : P.underlying t = some (.slice e)) (hi : P.info? e = some i ∧ i.zero = some z ∧ i.size = size ∧ i.bytes = bytes) (hzs : z.cells.size = size) (hsz : 0 < size)
    (v : Value) (n : Nat) (xs : List Value) (hs : a.eval s = v) (hown : w.ownsRow base e size v n xs)
    (A : Option Addr) (m c : Nat) (news : List Value) (hx : a.eval x = .slice A m c) (hA : A = none → m = 0 ∧ c = 0) (hl : news.length = m * size) (hnews : ∀ ad, A = some ad → ∀ j u, news[j]? = some u → w.cell? (ad.add j) = some u) (h1 : ∀ u ∈ news, u.oneCell' = true)
    (h63 : n + m ≤ maxLen) (hbytes : (n + m) * bytes ≤ 140737488355328) (hbase : base ≤ w.heap.size)
    (h : ∀ v' w', w'.ownsRow base e size v' (n + m) (xs ++ news) → w.grownBy w' v.ownBlock → K (a.put o.dst v') w') : o.wp P a w K Q := by
  cases A with
  | none =>
    obtain ⟨rfl, rfl⟩ := hA rfl
    have hn : news = [] := List.length_eq_zero_iff.1 (by simpa using hl)
    subst hn
    have hr := run_append_owned_none (P := P) (w := w) base t o.type e i size ht hi.1 v n xs hown
    have h' := h v w (by simpa using hown) ⟨rfl, rfl, rfl, Nat.le_refl _, fun _ _ _ => rfl⟩
    unfold Oper.wp execOp
    simp only [ho, resolve, invoke, builtin, Sem.run_bind, Sem.run_pure, Result.andThen_ok, List.map_toArray, List.map_cons, List.map_nil, hs, hx, hr]
    exact h'
  | some ad => exact wp_append_own w s x t ho base e i z size bytes ht hi.1 hi.2.1 hi.2.2.1 hi.2.2.2 hzs hsz v n xs hs hown ad m c news hx hl (hnews ad rfl) h1 h63 hbytes hbase fun v' w' h2 h3 _ => h v' w' h2 h3
end


theorem hinfo35 : ∃ i0, Tryd.prog.info? 35 = some i0 ∧ i0.zero = some (.agg #[.int .i64 0, .string ⟨#[]⟩, .int .i64 0, .int .i64 0]) ∧ i0.size = 4 ∧ i0.bytes = 40 := by
  obtain ⟨i0, hi, hz0, hz1, hz2⟩ := info_parts Tryd.info35
  exact ⟨i0, hi, hz0, hz1, hz2⟩
theorem tcs_app (a b : List Tk) : tcs (a ++ b) = tcs a ++ tcs b := by simp [tcs]
theorem tcs_one : ∀ l : List Tk, ∀ u ∈ tcs l, u.oneCell' = true
  | [], u, h => by simp [tcs] at h
  | t :: l, u, h => by
    rw [tcs_cons, List.mem_append] at h
    rcases h with h | h
    · simp [Tk.cs] at h
      rcases h with rfl | rfl | rfl | rfl <;> rfl
    · exact tcs_one l u h
/-- 'append' of tokens. -/
theorem wp_app_tk {w : World} {o : Oper} {a : Act} {K : Act → World → Prop} {Q : Exit → Act → World → Prop} (s x : Operand) (ho : o.op = .call { callee := .builtin .append, args := #[s, x], argTypes := #[23, 23] })
    (base : Nat) (v : Value) (n : Nat) (xs : List Tk) (hs : a.eval s = v) (hn : n = xs.length) (hown : w.ownsRow base 35 4 v n (tcs xs)) (b2 : Nat) (u : Value) (m : Nat) (ts : List Tk) (hx : a.eval x = u) (hm : m = ts.length) (hown2 : w.ownsRow b2 35 4 u m (tcs ts))
    (hb : n + m ≤ 1000000) (hbase : base ≤ w.heap.size)
    (h : ∀ v' w', w'.ownsRow base 35 4 v' (n + m) (tcs (xs ++ ts)) → w.grownBy w' v.ownBlock → K (a.put o.dst v') w') : o.wp Tryd.prog a w K Q := by
  subst hn hm
  obtain ⟨i0, hi⟩ := hinfo35
  have hsl : ∃ A c, u = .slice A ts.length c ∧ (A = none → ts.length = 0 ∧ c = 0) := by
    rcases hown2.2 with ⟨rfl, hn⟩ | ⟨g, cap, cur, rfl, _⟩
    · exact ⟨none, 0, by rw [hn], fun _ => ⟨hn, rfl⟩⟩
    · exact ⟨_, _, rfl, fun h => by cases h⟩
  obtain ⟨A, c, rfl, hA⟩ := hsl
  refine wp_app s x 23 ho base 35 i0 _ 4 40 Tryd.underlying23 hi rfl (by decide) v xs.length (tcs xs) hs hown A ts.length c (tcs ts) hx hA (tcs_length ts) ?_ (tcs_one ts) (by unfold maxLen; omega) (by omega) hbase ?_
  · intro ad ea j q hq
    subst ea
    have hg : (Value.slice (some ad) ts.length c).ownBlock = some ad.block := rfl
    have := hown2.cells hg j q hq
    rcases hown2.2 with ⟨h0, _⟩ | ⟨g, cap, cur, h0, _⟩
    · cases h0
    · simp only [Value.slice.injEq, Option.some.injEq] at h0
      obtain ⟨rfl, _⟩ := h0
      exact this
  · intro v' w' h2 h3
    rw [← tcs_app] at h2
    exact h v' w' h2 h3
theorem own_empty (w : World) (base T : Nat) (e size : Nat) (hT : T = e) (hb : base ≤ w.heap.size) : (w.alloc (.cells #[] T)).ownsRow base e size (.slice (some ⟨w.heap.size, 0, none⟩) 0 0) 0 [] := by
  subst hT
  exact ⟨by simp, .inr ⟨w.heap.size, 0, #[], rfl, hb, heap_alloc_new w _, Nat.le_refl _, by decide, by simp, by simp⟩⟩
theorem own_below {w w' : World} {base B n : Nat} {v : Value} {l : List Tk} (h : w.ownsRow base 35 4 v n (tcs l)) (hb : Below B w w') (hB : ∀ k, v.ownBlock = some k → k < B) : w'.ownsRow base 35 4 v n (tcs l) := by
  refine ⟨h.1, ?_⟩
  rcases h.2 with h | ⟨g, cap, cur, rfl, h1, h2, h3⟩
  · exact .inl h
  · exact .inr ⟨g, cap, cur, rfl, h1, by rw [hb.block g (hB g rfl)]; exact h2, h3⟩
theorem own_later {w w' : World} {base n : Nat} {v : Value} {l : List Tk} (h : w.ownsRow base 35 4 v n (tcs l)) (hb : Below w.heap.size w w') : w'.ownsRow base 35 4 v n (tcs l) := own_below h hb fun k hk => (h.lt k hk).2
end Go.Proofs.YtemapfhiiefieaaDoor
