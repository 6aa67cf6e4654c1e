/- What is delivered has been sent: as plain functions. -/
import Derived.Test.YthmaakiibgdigaaHap
namespace Go.Proofs.Ythmaakiibgdigaa
open Go.RowKit
/-- What holds between the moves: of the links, the packets sent so far, and how many cuts there have been. -/
structure Sent (n : Nt) (sent : List Pk) (c : Nat) : Prop where
  chk : n.chk = true
  sub : ∀ p ∈ n.q, p ∈ sent
  cut : c = 0 → n.a = []
theorem Sent.drop {n : Nt} {sent : List Pk} {c : Nat} (h : Sent n sent c) (i : Nat) : Sent (n.drop i) sent c :=
  ⟨chk_drop h.chk i, fun p hp => by
    rcases List.mem_append.1 (show p ∈ n.q.take i ++ n.q.drop (i + 1) from hp) with hp | hp
    · exact h.sub p (List.mem_of_mem_take hp)
    · exact h.sub p (List.mem_of_mem_drop hp), h.cut⟩
theorem get_mem {n : Nt} {i : Nat} (hi : i < n.q.length) : n.get i ∈ n.q := by
  unfold Nt.get
  rw [show n.q.getD i Pk.zero = n.q[i] by simp [List.getD_eq_getElem?_getD, hi]]
  exact List.getElem_mem hi
theorem put_case (n : Nt) (p : Pk) : (n.put p = (Nt.zero, 2)) ∨ (n.q.length ≠ 4096 ∧ n.put p = (⟨n.q ++ [p], n.a⟩, 0)) := by
  unfold Nt.put
  by_cases h : n.q.length = 4096
  · rw [if_pos h]; exact .inl rfl
  · rw [if_neg h]; exact .inr ⟨h, rfl⟩
theorem Sent.put {n : Nt} {sent : List Pk} {c : Nat} (h : Sent n sent c) {p : Pk} (hp : pkB p = true) (hl : n.q.length ≠ 4096) : Sent ⟨n.q ++ [p], n.a⟩ (sent ++ [p]) c :=
  ⟨chk_more h.chk hp (by have := chk_len h.chk; omega), fun q hq => by
    rcases List.mem_append.1 (show q ∈ n.q ++ [p] from hq) with hq | hq
    · exact List.mem_append_left _ (h.sub q hq)
    · exact List.mem_append_right _ hq, h.cut⟩
theorem Sent.same {n : Nt} {sent : List Pk} {c : Nat} (h : Sent n sent c) {p : Pk} (hp : p ∈ n.q) (hk : pkB p = true) (hl : n.q.length ≠ 4096) : Sent ⟨n.q ++ [p], n.a⟩ sent c :=
  ⟨chk_more h.chk hk (by have := chk_len h.chk; omega), fun q hq => by
    rcases List.mem_append.1 (show q ∈ n.q ++ [p] from hq) with hq | hq
    · exact h.sub q hq
    · rw [List.mem_singleton.1 hq]; exact h.sub p hp, h.cut⟩
theorem Sent.send {n : Nt} {sent : List Pk} {c : Nat} (h : Sent n sent c) (p : Pk) : ((n.send p).1 = Nt.zero ∧ (n.send p).2 ≠ 0) ∨ ((n.send p) = (⟨n.q ++ [p], n.a⟩, 0) ∧ Sent ⟨n.q ++ [p], n.a⟩ (sent ++ [p]) c) := by
  unfold Nt.send
  rw [h.chk, Bool.true_and]
  by_cases hp : pkB p = true
  · rw [if_pos hp]
    rcases put_case n p with e | ⟨hl, e⟩
    · rw [e]; exact .inl ⟨rfl, by decide⟩
    · rw [e]; exact .inr ⟨rfl, h.put hp hl⟩
  · rw [if_neg hp]; exact .inl ⟨rfl, by decide⟩
theorem Sent.give {n : Nt} {sent : List Pk} {c : Nat} (h : Sent n sent c) (i : Nat) : ((n.give (i : Int)).2.1 = Nt.zero ∧ (n.give (i : Int)).2.2 ≠ 0) ∨ (∃ P y, n.give (i : Int) = (P, y, 0) ∧ Sent y sent c ∧ (P = Pk.zero ∧ 0 < c ∨ P ∈ sent)) := by
  by_cases hk : n.asked (i : Int) = 0
  · obtain ⟨hc, _, h1⟩ := asked_zero hk
    have hi : i < n.q.length := by omega
    refine .inr ⟨_, _, give_yes hc hi, h.drop i, ?_⟩
    by_cases hcut : n.isCut (n.get i).fr (n.get i).to = true
    · rw [if_pos hcut]
      refine .inl ⟨rfl, Nat.pos_of_ne_zero fun e => ?_⟩
      unfold Nt.isCut at hcut
      rw [h.cut e] at hcut
      simp at hcut
    · rw [if_neg hcut]
      exact .inr (h.sub _ (get_mem hi))
  · left
    unfold Nt.give
    rw [if_neg hk]
    exact ⟨rfl, hk⟩
theorem Sent.lose {n : Nt} {sent : List Pk} {c : Nat} (h : Sent n sent c) (i : Nat) : ((n.lose (i : Int)).1 = Nt.zero ∧ (n.lose (i : Int)).2 ≠ 0) ∨ (∃ y, n.lose (i : Int) = (y, 0) ∧ Sent y sent c) := by
  by_cases hk : n.asked (i : Int) = 0
  · obtain ⟨hc, _, h1⟩ := asked_zero hk
    exact .inr ⟨_, lose_yes hc (by omega), h.drop i⟩
  · left
    unfold Nt.lose
    rw [if_neg hk]
    exact ⟨rfl, hk⟩
theorem Sent.again {n : Nt} {sent : List Pk} {c : Nat} (h : Sent n sent c) (i : Nat) : ((n.again (i : Int)).1 = Nt.zero ∧ (n.again (i : Int)).2 ≠ 0) ∨ (∃ y, n.again (i : Int) = (y, 0) ∧ Sent y sent c) := by
  by_cases hk : n.asked (i : Int) = 0
  · obtain ⟨hc, _, h1⟩ := asked_zero hk
    have hi : i < n.q.length := by omega
    unfold Nt.again
    rw [if_pos hk, show (i : Int).toNat = i from rfl]
    rcases put_case n (n.get i) with e | ⟨hl, e⟩
    · rw [e]; exact .inl ⟨rfl, by decide⟩
    · rw [e]; exact .inr ⟨_, rfl, h.same (get_mem hi) (get_pk hc hi) hl⟩
  · left
    unfold Nt.again
    rw [if_neg hk]
    exact ⟨rfl, hk⟩
theorem cutA_none (p : Int × Int) : cutA [] p false = [] := by
  have : ∀ q, q ∉ cutA [] p false := fun q hq => by
    have := (mem_cutA.1 hq).2
    by_cases e : q = p
    · rw [if_pos e] at this; cases this
    · rw [if_neg e] at this; cases this
  exact List.eq_nil_iff_forall_not_mem.2 this
theorem Sent.cuts {n : Nt} {sent : List Pk} {c : Nat} (h : Sent n sent c) (a b : Int) (on : Bool) : ((n.cut a b on).1 = Nt.zero ∧ (n.cut a b on).2 ≠ 0) ∨ (∃ y, n.cut a b on = (y, 0) ∧ Sent y sent (c + 1) ∧ (on = false → Sent y sent c)) := by
  cases hp : partB a b with
  | false => rw [cut_no h.chk hp]; exact .inl ⟨rfl, by decide⟩
  | true =>
    refine .inr ⟨_, cut_yes h.chk hp on, ⟨chk_cut h.chk _ _, h.sub, fun e => by omega⟩, fun ho => ⟨chk_cut h.chk _ _, h.sub, fun e => ?_⟩⟩
    subst ho
    show cutA n.a (pairN a b) false = []
    rw [h.cut e, cutA_none]
end Go.Proofs.Ythmaakiibgdigaa
