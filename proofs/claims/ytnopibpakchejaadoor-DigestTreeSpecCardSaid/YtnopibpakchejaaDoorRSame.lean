/- The reference's Same, of two lists that are one. -/
import Derived.Test.YtnopibpakchejaaDoorRPath2
import Derived.Test.YtnopibpakchejaaDoorPlaces
import Derived.Test.YtnopibpakchejaaDoorSumLaw
namespace Go.Proofs.YtnopibpakchejaaDoor
open Go.RowKit

theorem ds_el {w : World} {b o i : Nat} {l : List (List UInt8)} (hD : D32 l) (hB : Bs w b o l.flatten) (h : i < l.length) : Bs w b (o + i * 32) l[i] := by
  have h1 := bs_drop hD hB i
  rw [List.drop_eq_getElem_cons h, List.flatten_cons] at h1
  have h2 := h1.take 32
  rw [List.take_append_of_le_length (by rw [hD _ (List.getElem_mem h)]; omega), List.take_of_length_le (by rw [hD _ (List.getElem_mem h)]; omega), Nat.mul_comm] at h2
  exact h2

set_option maxRecDepth 10000 in
set_option maxHeartbeats 800000 in
theorem rsame_any (l : List (List UInt8)) (m c c' : Nat) (a a' : Option Addr) (w : World) (hD : D32 l) (h1 : Ds w a l) (h2 : Ds w a' l) (hm : m = l.length) (hn : m ≤ 9223372036854775807) :
    Calls Tryd.prog 21 #[.slice a m c, .slice a' m c'] w fun e w' => e = .returned (.bool true) ∧ Below w.heap.size w w' := by
  have HD := hide hD
  have H1 := hide h1
  have H2 := hide h2
  have HM := hide hm
  clear hD h1 h2 hm
  go_enter Tryd.func21, Tryd.ntmps21
  go_wp2_with fail
  go_loopw [5] (fun i wr => ∃ k : Nat, k ≤ m ∧ i = .int .i64 (k : Nat) ∧ Hid (Below w.heap.size w wr)) (fun i _ => m - (intOf i).toNat)
  case atStart => exact ⟨0, by omega, rfl, hide (Below.refl _ _)⟩
  case round =>
    obtain ⟨k, hk, rfl, HB⟩ := hrel
    by_cases hlt : k < m
    · have hltI : (k : Int) < (m : Int) := by omega
      have hkl : k < l.length := by rw [← HM.out]; exact hlt
      obtain ⟨b, o, rfl, hB1⟩ := H1.out.at HD.out (by omega)
      obtain ⟨b', o', rfl, hB2⟩ := H2.out.at HD.out (by omega)
      have hp : 0 < l.flatten.length := by rw [HD.out.flat]; omega
      have HE1 := hide (ds_el HD.out (hB1.below HB.out (hB1.lt hp)) hkl)
      have HE2 := hide (ds_el HD.out (hB2.below HB.out (hB2.lt hp)) hkl)
      have HLE := hide (HD.out _ (List.getElem_mem hkl))
      clear hB1 hB2 hp
      generalize l[k] = d at *
      have HSZ := hide (show (Tryd.prog.info? 26).map (·.size) = some (bc d).length by rw [bc_len, HLE.out]; exact Tryd.size26)
      go_wp2_with fail
      refine wp_region_plan (fun W => W.rangeAt b (o + k * 32) (bc d) ∧ W.rangeAt b' (o' + k * 32) (bc d)) (.take 0 (.take 1 (.take 2 (.take 4 (.take 5 (.take 6 (.take 3 (.take 7 (.take 8 .done))))))))) (by kernel_rfl) (by kernel_rfl) ⟨bs_range HE1.out, bs_range HE2.out⟩ ?_
      (refine plan_take (o := ?_) (v := ?_) (by simp only [List.getElem?_toArray, List.getElem?_cons_zero]; rfl) (yields_run (by rfl) ?_) ?_; rotate_left; (focus (intro w' _; go_simp <;> with_reducible rfl)); (simp only [Act.put, List.setIfInBounds_toArray, List.set_cons_zero, List.set_cons_succ]))
      (refine plan_take (o := ?_) (v := ?_) (by simp only [List.getElem?_toArray, List.getElem?_cons_succ, List.getElem?_cons_zero]; rfl) (yields_run (by rfl) ?_) ?_; rotate_left; (focus (intro w' _; go_simp <;> with_reducible rfl)); (simp only [Act.put, List.setIfInBounds_toArray, List.set_cons_zero, List.set_cons_succ]))
      (refine plan_take (o := ?_) (v := ?_) (by simp only [List.getElem?_toArray, List.getElem?_cons_succ, List.getElem?_cons_zero]; rfl) (yields_run (by rfl) ?_) ?_; rotate_left; (focus (intro w' _; go_simp <;> with_reducible rfl)); (simp only [Act.put, List.setIfInBounds_toArray, List.set_cons_zero, List.set_cons_succ]))
      (refine plan_take (o := ?_) (v := ?_) (by simp only [List.getElem?_toArray, List.getElem?_cons_succ, List.getElem?_cons_zero]; rfl) (yields_run (by rfl) ?_) ?_; rotate_left; (focus (intro w' _; go_simp <;> with_reducible rfl)); (simp only [Act.put, List.setIfInBounds_toArray, List.set_cons_zero, List.set_cons_succ]))
      (refine plan_take (o := ?_) (v := ?_) (by simp only [List.getElem?_toArray, List.getElem?_cons_succ, List.getElem?_cons_zero]; rfl) (yields_run (by rfl) ?_) ?_; rotate_left; (focus (intro w' _; go_simp <;> with_reducible rfl)); (simp only [Act.put, List.setIfInBounds_toArray, List.set_cons_zero, List.set_cons_succ]))
      (refine plan_take (o := ?_) (v := ?_) (by simp only [List.getElem?_toArray, List.getElem?_cons_succ, List.getElem?_cons_zero]; rfl) (yields_run (by rfl) ?_) ?_; rotate_left; (focus (intro w' _; go_simp <;> with_reducible rfl)); (simp only [Act.put, List.setIfInBounds_toArray, List.set_cons_zero, List.set_cons_succ]))
      (refine plan_take (o := ?_) (by simp only [List.getElem?_toArray, List.getElem?_cons_succ, List.getElem?_cons_zero]; rfl) (yieldsIf_load_mid (by rfl) 26 (.tmp 19) rfl b (o + k * 32) rfl (bc d) _ (fun _ (h : _ ∧ _) => h.1) Tryd.underlying26 rfl HSZ.out) ?_; (simp only [Act.put, List.setIfInBounds_toArray, List.set_cons_zero, List.set_cons_succ]))
      (refine plan_take (o := ?_) (by simp only [List.getElem?_toArray, List.getElem?_cons_succ, List.getElem?_cons_zero]; rfl) (yieldsIf_load_mid (by rfl) 26 (.tmp 23) rfl b' (o' + k * 32) rfl (bc d) _ (fun _ (h : _ ∧ _) => h.2) Tryd.underlying26 rfl HSZ.out) ?_; (simp only [Act.put, List.setIfInBounds_toArray, List.set_cons_zero, List.set_cons_succ]))
      (refine plan_take (o := ?_) (by simp only [List.getElem?_toArray, List.getElem?_cons_succ, List.getElem?_cons_zero]; rfl) (yields_neq (by rfl) (.tmp 20) (.tmp 24) 26 rfl d d rfl rfl HLE.out HLE.out false (by simp)) ?_; (simp only [Act.put, List.setIfInBounds_toArray, List.set_cons_zero, List.set_cons_succ]))
      refine plan_done ?_
      go_wp2_with fail
      go_roundw
      case rel => exact ⟨k + 1, by omega, by go_num, hide HB.out.drew⟩
      case measure => simp [intOf]; omega
    · have hltI : ¬ (k : Int) < (m : Int) := by omega
      go_wp2_with fail
      go_ret
      exact ⟨rfl, HB.out⟩
end Go.Proofs.YtnopibpakchejaaDoor
