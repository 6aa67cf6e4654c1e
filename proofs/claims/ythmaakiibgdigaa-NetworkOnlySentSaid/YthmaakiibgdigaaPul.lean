/- Lost packets, as plain functions. -/
import Derived.Test.YthmaakiibgdigaaPur
namespace Go.Proofs.Ythmaakiibgdigaa
open Go.RowKit
theorem chk_iff {n : Nt} : n.chk = true ↔ quB n.q = true ∧ apB n.a = true := by unfold Nt.chk; simp
theorem get_pk {n : Nt} (h : n.chk = true) {i : Nat} (hi : i < n.q.length) : pkB (n.get i) = true := by
  have := (quB_iff.1 (chk_iff.1 h).1).2 i hi
  unfold Nt.get
  rwa [show n.q.getD i Pk.zero = n.q[i] by simp [List.getD_eq_getElem?_getD, hi]]
theorem quB_mem {l : List Pk} : quB l = true ↔ l.length ≤ 4096 ∧ ∀ p ∈ l, pkB p = true := by
  simp only [quB, Bool.and_eq_true, decide_eq_true_eq, List.all_eq_true]
theorem chk_drop {n : Nt} (h : n.chk = true) (i : Nat) : (n.drop i).chk = true := by
  rw [chk_iff] at h ⊢
  refine ⟨?_, h.2⟩
  have h1 := quB_mem.1 h.1
  refine quB_mem.2 ⟨?_, fun p hp => ?_⟩
  · show (n.q.take i ++ n.q.drop (i + 1)).length ≤ 4096
    rw [List.length_append, List.length_take, List.length_drop]
    omega
  · rcases List.mem_append.1 (show p ∈ n.q.take i ++ n.q.drop (i + 1) from hp) with hp | hp
    · exact h1.2 p (List.mem_of_mem_take hp)
    · exact h1.2 p (List.mem_of_mem_drop hp)
theorem chk_more {n : Nt} (h : n.chk = true) {g : Pk} (hg : pkB g = true) (hl : n.q.length < 4096) : (Nt.mk (n.q ++ [g]) n.a).chk = true := by
  rw [chk_iff] at h ⊢
  refine ⟨?_, h.2⟩
  have h1 := quB_mem.1 h.1
  refine quB_mem.2 ⟨by show (n.q ++ [g]).length ≤ 4096; rw [List.length_append]; simp; omega, fun p hp => ?_⟩
  rcases List.mem_append.1 (show p ∈ n.q ++ [g] from hp) with hp | hp
  · exact h1.2 p hp
  · rw [List.mem_singleton.1 hp]; exact hg
theorem put_yes {n : Nt} (hl : n.q.length < 4096) (g : Pk) : n.put g = (⟨n.q ++ [g], n.a⟩, 0) := by unfold Nt.put; rw [if_neg (by omega)]
theorem lose_yes {n : Nt} (h : n.chk = true) {i : Nat} (hi : i < n.q.length) : n.lose (i : Int) = (n.drop i, 0) := by
  unfold Nt.lose
  rw [if_pos (asked_yes h hi)]
  rfl
theorem again_yes {n : Nt} (h : n.chk = true) {i : Nat} (hi : i < n.q.length) (hl : n.q.length < 4096) : n.again (i : Int) = (⟨n.q ++ [n.get i], n.a⟩, 0) := by
  unfold Nt.again
  rw [if_pos (asked_yes h hi), show (i : Int).toNat = i from rfl, put_yes hl]
theorem send_yes {n : Nt} (h : n.chk = true) {g : Pk} (hg : pkB g = true) (hl : n.q.length < 4096) : n.send g = (⟨n.q ++ [g], n.a⟩, 0) := by
  unfold Nt.send
  rw [h, hg, if_pos (by rfl), put_yes hl]
theorem drop_len (n : Nt) {i : Nat} (hi : i < n.q.length) : (n.drop i).q.length = n.q.length - 1 := by
  show (n.q.take i ++ n.q.drop (i + 1)).length = _
  rw [List.length_append, List.length_take, List.length_drop]
  omega
theorem drop_more {n : Nt} {i : Nat} (hi : i < n.q.length) (g : Pk) : (Nt.mk (n.q ++ [g]) n.a).drop i = ⟨(n.drop i).q ++ [g], n.a⟩ := by
  unfold Nt.drop
  simp only [Nt.mk.injEq, and_true]
  rw [List.take_append_of_le_length (by omega), List.drop_append_of_le_length (by omega), List.append_assoc]
end Go.Proofs.Ythmaakiibgdigaa
