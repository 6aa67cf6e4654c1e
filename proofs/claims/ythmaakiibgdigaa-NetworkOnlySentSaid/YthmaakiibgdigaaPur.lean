/- Cuts, as plain functions. -/
import Derived.Test.YthmaakiibgdigaaEnv
namespace Go.Proofs.Ythmaakiibgdigaa
open Go.RowKit
theorem asc_ap {l : List (Int × Int)} (h : l.Pairwise fun x y => ltPr x y = true) (ho : ∀ q ∈ l, okPr q = true) : apB l = true := by
  rw [apB_iff]
  intro j hj
  unfold stepB
  have e : ∀ k (hk : k < l.length), l.getD k (0, 0) = l[k] := fun k hk => by simp [List.getD_eq_getElem?_getD, hk]
  rw [e j hj, ho _ (List.getElem_mem hj), Bool.true_and]
  rcases Nat.eq_zero_or_pos j with rfl | h0
  · simp
  · rw [e (j - 1) (by omega), List.pairwise_iff_getElem.1 h (j - 1) j (by omega) hj (by omega)]
    simp
theorem ap_cutA (l : List (Int × Int)) (p : Int × Int) (on : Bool) : apB (cutA l p on) = true := asc_ap (cutA_asc l p on) fun _ hq => (mem_cutA.1 hq).1
theorem cutA_cutA (l : List (Int × Int)) (p : Int × Int) (x y : Bool) : cutA (cutA l p x) p y = cutA l p y :=
  asc_eq (cutA_asc _ _ _) (cutA_asc _ _ _) fun q => by
    rw [mem_cutA (l := cutA l p x), mem_cutA (l := l) (on := y)]
    refine and_congr_right fun ho => ?_
    by_cases h : q = p
    · rw [if_pos h, if_pos h]
    · rw [if_neg h, if_neg h, mem_cutA, if_neg h]
      exact ⟨fun h => h.2, fun h => ⟨ho, h⟩⟩
theorem filter_ne {l : List (Int × Int)} {p : Int × Int} (hp : p ∉ l) : l.filter (fun q => !(q == p)) = l := by
  rw [List.filter_eq_self]
  intro q hq
  have : q ≠ p := fun e => hp (e ▸ hq)
  simp [this]
theorem filter_one : ∀ {l : List (Int × Int)} (_ : l.Pairwise fun x y => ltPr x y = true) {p : Int × Int} (_ : p ∈ l), (l.filter (fun q => !(q == p))).length + 1 = l.length
  | x :: l, h, p, hp => by
    rw [List.pairwise_cons] at h
    by_cases e : x = p
    · subst e
      have hx : x ∉ l := fun hm => by have := h.1 x hm; rw [lt_irr] at this; cases this
      rw [List.filter_cons, if_neg (by simp), filter_ne hx, List.length_cons]
    · rw [List.filter_cons, if_pos (by simp [e]), List.length_cons, List.length_cons, filter_one h.2 (by
        rcases List.mem_cons.1 hp with h | h
        · exact absurd h.symm e
        · exact h)]
theorem cutA_len (l : List (Int × Int)) {p : Int × Int} (hp : okPr p = true) : (cutA l p true).length = (cutA l p false).length + 1 := by
  have h1 := cut_off (ap_cutA l p true) p
  rw [cutA_cutA] at h1
  have h2 := filter_one (cutA_asc l p true) (p := p) (mem_cutA.2 ⟨hp, by rw [if_pos rfl]⟩)
  rw [h1] at h2
  omega
theorem pairN_comm (a b : Int) : pairN a b = pairN b a := by unfold pairN; rw [Int.min_comm, Int.max_comm]
theorem partB_comm {a b : Int} (h : partB a b = true) : partB b a = true := by
  unfold partB at h ⊢
  simp only [Bool.and_eq_true, decide_eq_true_eq] at h ⊢
  exact ⟨⟨h.1.2, h.1.1⟩, fun e => h.2 e.symm⟩
theorem chk_cut {n : Nt} (h : n.chk = true) (p : Int × Int) (on : Bool) : (Nt.mk n.q (cutA n.a p on)).chk = true := by
  unfold Nt.chk at h ⊢
  simp only [Bool.and_eq_true] at h ⊢
  exact ⟨h.1, ap_cutA _ _ _⟩
theorem cut_yes {n : Nt} (h : n.chk = true) {a b : Int} (hp : partB a b = true) (on : Bool) : n.cut a b on = (⟨n.q, cutA n.a (pairN a b) on⟩, 0) := by unfold Nt.cut; rw [h, hp]; rfl
theorem cut_no {n : Nt} (h : n.chk = true) {a b : Int} (hp : partB a b = false) (on : Bool) : n.cut a b on = (Nt.zero, 1) := by unfold Nt.cut; rw [h, hp]; rfl
theorem cut_again {n : Nt} (h : n.chk = true) {a b : Int} (hp : partB a b = true) (x y : Bool) : (Nt.mk n.q (cutA n.a (pairN a b) x)).cut a b y = (⟨n.q, cutA n.a (pairN a b) y⟩, 0) := by
  rw [cut_yes (chk_cut h _ _) hp]
  show (Nt.mk n.q (cutA (cutA n.a (pairN a b) x) (pairN a b) y), (0 : Int)) = _
  rw [cutA_cutA]
theorem cut_back {n : Nt} (h : n.chk = true) {a b : Int} (hp : partB a b = true) (x y : Bool) : (Nt.mk n.q (cutA n.a (pairN a b) x)).cut b a y = (⟨n.q, cutA n.a (pairN a b) y⟩, 0) := by
  rw [cut_yes (chk_cut h _ _) (partB_comm hp), pairN_comm b a]
  show (Nt.mk n.q (cutA (cutA n.a (pairN a b) x) (pairN a b) y), (0 : Int)) = _
  rw [cutA_cutA]
theorem asked_yes {n : Nt} (h : n.chk = true) {i : Nat} (hi : i < n.q.length) : n.asked (i : Int) = 0 := asked_in h (by unfold Nt.hasI; rw [decide_eq_true_eq]; omega)
theorem give_yes {n : Nt} (h : n.chk = true) {i : Nat} (hi : i < n.q.length) : n.give (i : Int) = ((if n.isCut (n.get i).fr (n.get i).to then Pk.zero else n.get i), n.drop i, 0) := by
  unfold Nt.give
  rw [if_pos (asked_yes h hi)]
  rfl
theorem get_part {n : Nt} (h : n.chk = true) {i : Nat} (hi : i < n.q.length) : partB (n.get i).fr (n.get i).to = true := by
  unfold Nt.chk at h
  simp only [Bool.and_eq_true] at h
  have := (quB_iff.1 h.1).2 i hi
  unfold Nt.get
  rw [show n.q.getD i Pk.zero = n.q[i] by simp [List.getD_eq_getElem?_getD, hi]]
  unfold pkB at this
  simp only [Bool.and_eq_true] at this
  exact this.1
theorem pairN_eq {a b x y : Int} (h : pairN x y = pairN a b) : x = a ∧ y = b ∨ x = b ∧ y = a := by
  unfold pairN at h
  have h1 := (Prod.mk.inj h).1
  have h2 := (Prod.mk.inj h).2
  omega
/-- What a cut link gives, and the same link whole. -/
theorem cuts_give {n : Nt} (hc : n.chk = true) {a b : Int} (hp : partB a b = true) {i : Nat} (hi : i < n.q.length) :
    ∃ P R x y, (Nt.mk n.q (cutA n.a (pairN a b) true)).give (i : Int) = (P, x, 0) ∧ (Nt.mk n.q (cutA n.a (pairN a b) false)).give (i : Int) = (R, y, 0) ∧
      (R.fr = a ∧ R.to = b ∨ R.fr = b ∧ R.to = a → P = Pk.zero) ∧ (¬ (R.fr = a ∧ R.to = b ∨ R.fr = b ∧ R.to = a) → P = R) := by
  refine ⟨_, _, _, _, give_yes (chk_cut hc _ _) hi, give_yes (chk_cut hc _ _) hi, ?_, ?_⟩
  all_goals
    simp only [show ∀ on, (Nt.mk n.q (cutA n.a (pairN a b) on)).get i = n.get i from fun _ => rfl]
    have hg := get_part hc hi
    generalize n.get i = g at *
    have hab : a ≠ b := by simp [partB] at hp; exact hp.2
    have hgg : g.fr ≠ g.to := by simp [partB] at hg; exact hg.2
    have h1 : (Nt.mk n.q (cutA n.a (pairN a b) true)).isCut g.fr g.to = true ↔ pairN g.fr g.to = pairN a b ∨ pairN g.fr g.to ∈ n.a := by
      unfold Nt.isCut
      rw [List.contains_iff_mem, mem_cutA]
      by_cases e : pairN g.fr g.to = pairN a b
      · rw [if_pos e]; simp [e, pair_ok hp]
      · rw [if_neg e]; simp [e, pair_ok hg]
    have h0 : (Nt.mk n.q (cutA n.a (pairN a b) false)).isCut g.fr g.to = true ↔ pairN g.fr g.to ≠ pairN a b ∧ pairN g.fr g.to ∈ n.a := by
      unfold Nt.isCut
      rw [List.contains_iff_mem, mem_cutA]
      by_cases e : pairN g.fr g.to = pairN a b
      · rw [if_pos e]; simp [e]
      · rw [if_neg e]; simp [e, pair_ok hg]
    intro hR
    by_cases e : pairN g.fr g.to = pairN a b
    · rw [if_pos (h1.2 (.inl e))]
      try first
        | rfl
        | (have hn : ¬ (Nt.mk n.q (cutA n.a (pairN a b) false)).isCut g.fr g.to = true := fun h => (h0.1 h).1 e
           rw [if_neg hn] at hR
           exact absurd (pairN_eq e) hR)
    · by_cases hm : pairN g.fr g.to ∈ n.a
      · rw [if_pos (h1.2 (.inr hm))]
        try first
          | rfl
          | rw [if_pos (h0.2 ⟨e, hm⟩)]
      · have hn : ¬ (Nt.mk n.q (cutA n.a (pairN a b) false)).isCut g.fr g.to = true := fun h => hm (h0.1 h).2
        have hn1 : ¬ (Nt.mk n.q (cutA n.a (pairN a b) true)).isCut g.fr g.to = true := fun h => (h1.1 h).elim e hm
        rw [if_neg hn1]
        first
          | (rw [if_neg hn])
          | (rw [if_neg hn] at hR
             exfalso
             refine e ?_
             rcases hR with ⟨h, k⟩ | ⟨h, k⟩
             · rw [h, k]
             · rw [h, k, pairN_comm])
end Go.Proofs.Ythmaakiibgdigaa
