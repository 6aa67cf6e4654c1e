/- With nothing cut each packet comes through: as plain functions. -/
import Derived.Test.YthmaakiibgdigaaPul
namespace Go.Proofs.Ythmaakiibgdigaa
open Go.RowKit
theorem all_send {l : List Pk} {p : Pk} (h : (Nt.mk l []).chk = true) (hp : pkB p = true) (hl : l.length < 4096) : (Nt.mk l []).send p = (⟨l ++ [p], []⟩, 0) ∧ (Nt.mk (l ++ [p]) []).chk = true :=
  ⟨send_yes h hp hl, chk_more (n := ⟨l, []⟩) h hp hl⟩
theorem all_refused {l : List Pk} {p : Pk} (hp : pkB p = false) : (Nt.mk l []).send p = (Nt.zero, 60) := by
  unfold Nt.send
  rw [hp, Bool.and_false, if_neg (by decide)]
theorem all_give {l : List Pk} (h : (Nt.mk l []).chk = true) {i : Nat} (hi : i < l.length) : (Nt.mk l []).give (i : Int) = (l[i], ⟨l.take i ++ l.drop (i + 1), []⟩, 0) ∧ (Nt.mk (l.take i ++ l.drop (i + 1)) []).chk = true := by
  refine ⟨?_, chk_drop h i⟩
  rw [give_yes h hi, show (Nt.mk l []).get i = l[i] by unfold Nt.get; simp [List.getD_eq_getElem?_getD, hi], if_neg (by unfold Nt.isCut; simp)]
  rfl
theorem all_empty : (Nt.mk [] []).chk = true := rfl
end Go.Proofs.Ythmaakiibgdigaa
