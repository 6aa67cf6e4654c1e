/- The reference's Add. -/
import Derived.Test.YtalgceplcahgbaaDoorRck
import Derived.Test.YtalgceplcahgbaaDoorAdd
namespace Go.Proofs.YtalgceplcahgbaaDoor
open Go.RowKit Go.Shelf

theorem lcs_two (l m : List Lr) : lcs (l ++ m) = lcs l ++ lcs m := by simp [lcs]
theorem lcs_one (l : List Lr) : ∀ u ∈ lcs l, u.oneCell' = true := by
  intro u hu
  simp only [lcs, List.mem_flatten, List.mem_map] at hu
  obtain ⟨cs, ⟨r, _, rfl⟩, hc⟩ := hu
  exact Lr.cs_one r u hc
theorem Lks.news {w : World} {A : Option Addr} {l : List Lr} (h : Lks w A l) : ∀ ad, A = some ad → ∀ j u, (lcs l)[j]? = some u → w.cell? (ad.add j) = some u := fun ad e j u hu => by
  have hp : ∀ q ∈ l, q.x.prev.length = 32 := fun q hq => (h.each q hq).p32
  have hne : l ≠ [] := by intro e; subst e; simp [lcs] at hu
  obtain ⟨b, o, h1, h2, h3⟩ := h.cel hne
  rw [e] at h1
  cases h1
  rw [Addr.add_mid]
  exact lcs_range hp h3 j u hu
/-- 'append' of links. -/
theorem wp_app60 {w : World} {o : Oper} {a : Act} {K : Act → World → Prop} {Q : Exit → Act → World → Prop} (s x : Operand) (ho : o.op = .call { callee := .builtin .append, args := #[s, x], argTypes := #[49, 49] })
    (base : Nat) (v : Value) (n : Nat) (l1 : List Lr) (hs : a.eval s = v) (hown : w.ownsRow base 60 35 v n (lcs l1)) (A : Option Addr) (m c : Nat) (l2 : List Lr) (hx : a.eval x = .slice A m c) (hm : m = l2.length) (hA : A = none → c = 0) (hL : Lks w A l2)
    (hb : n + m ≤ 1000000000) (hbase : base ≤ w.heap.size) (N : Nat) (L : List Lr) (hN : N = n + m) (hLL : L = l1 ++ l2)
    (h : ∀ v' w', w'.ownsRow base 60 35 v' N (lcs L) → w.grownBy w' v.ownBlock → K (a.put o.dst v') w') : o.wp Tryd.prog a w K Q := by
  obtain ⟨i0, hi⟩ := hinfo60
  have hp : ∀ q ∈ l2, q.x.prev.length = 32 := fun q hq => (hL.each q hq).p32
  refine wp_app s x 49 ho base 60 i0 _ 35 72 Tryd.underlying49 hi (by kernel_rfl) (by omega) v n (lcs l1) hs hown A m c (lcs l2) hx (fun e => ⟨?_, hA e⟩) (by rw [lcs_len hp, hm]) hL.news (lcs_one l2) (by unfold maxLen; omega) (by omega) hbase ?_
  · cases l2 with
    | nil => exact hm
    | cons q l2 =>
      obtain ⟨b, o, h1, _⟩ := hL.cel (by simp)
      rw [e] at h1
      cases h1
  intro v' w' h2 h3
  rw [← lcs_two, ← hLL, ← hN] at h2
  exact h v' w' h2 h3
/-- A row of the call's own, read as links. -/
theorem own_lks {w : World} {base n : Nat} {v : Value} {l : List Lr} (h : w.ownsRow base 60 35 v n (lcs l)) (hn : n = l.length) (h0 : 0 < n) (he : ∀ r ∈ l, r.In w) : ∃ g cap, v = .slice (some ⟨g, 0, none⟩) n cap ∧ Lks w (some ⟨g, 0, none⟩) l ∧ n ≤ cap ∧ cap ≤ 9223372036854775807 := by
  rcases h.2 with ⟨rfl, hz⟩ | ⟨g, cap, cur, rfl, hg, hcur, hc, hm, hsz, htake⟩
  · omega
  · have hp : ∀ q ∈ l, q.x.prev.length = 32 := fun q hq => (he q hq).p32
    refine ⟨g, cap, rfl, ⟨fun _ => ⟨g, 0, rfl, (h.lt g rfl).2, range_lcs hp fun j u hu => ?_⟩, he⟩, hc, by unfold maxLen at hm; omega⟩
    have hj := (List.getElem?_eq_some_iff.1 hu).1
    have h5 : w.cell? ⟨g, j, none⟩ = cur[j]? := cell_of_row w g j _ _ _ hcur
    have h6 : (List.take (n * 35) cur.toList)[j]? = some u := (congrArg (fun l => l[j]?) htake).trans hu
    rw [List.getElem?_take] at h6
    rw [Nat.zero_add, h5]
    split at h6
    · rw [← h6]; simp
    · cases h6

end Go.Proofs.YtalgceplcahgbaaDoor
