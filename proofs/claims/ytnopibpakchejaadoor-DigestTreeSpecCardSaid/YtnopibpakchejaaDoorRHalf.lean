/- The reference's node. -/
import Derived.Test.YtnopibpakchejaaDoorRChain
import Derived.Test.YtnopibpakchejaaDoorHalf
namespace Go.Proofs.YtnopibpakchejaaDoor
open Go.RowKit

set_option maxRecDepth 10000 in
set_option maxHeartbeats 800000 in
theorem rnode_any (a b : List UInt8) (w : World) (ha : a.length = 32) (hb : b.length = 32) :
    Calls Tryd.prog 39 #[dv a, dv b] w fun e w' => e = .returned (dv (tagd tNode (a ++ b))) ∧ Below w.heap.size w w' := by
  have HD := hide (And.intro ha hb)
  have HAB := hide (show 32 + 32 = (a ++ b).length by rw [List.length_append, ha, hb])
  clear ha hb
  go_enter Tryd.func39, Tryd.ntmps39
  go_wp2_with fail
  refine name_code ?_
  intro W1 HW1
  have HA : Hid (T3 w a b W1.drew) := by
    have e : W1 = (((w.alloc (.cells (bc a).toArray 26)).alloc (.cells (bc b).toArray 26)).alloc (.cells (List.replicate 32 (.int .u8 0)).toArray 26)) := HW1.out
    subst e
    have h := three_new w 26 26 26 (bc a) (bc b) (List.replicate 32 (.int .u8 0))
    exact hide ⟨h.1, h.2.1, h.2.2.1, h.2.2.2.1, Nat.le_of_eq h.2.2.2.2.symm⟩
  clear HW1
  refine wp_region_plan (fun _ => True) (.take 1 (.take 3 (.run 0 (.run 2 (.run 4 (.run 5 (.run 6 .done))))))) (by kernel_rfl) (by kernel_rfl) trivial ?_
  (refine plan_take (o := ?_) (v := ?_) (by simp only [List.getElem?_toArray, List.getElem?_cons_succ, List.getElem?_cons_zero]; rfl) (yields_run (by rfl) ?_) ?_; rotate_left; (focus (intro w' _; go_simp <;> with_reducible rfl)); (simp only [Act.put, List.setIfInBounds_toArray, List.set_cons_zero, List.set_cons_succ]))
  (refine plan_take (o := ?_) (v := ?_) (by simp only [List.getElem?_toArray, List.getElem?_cons_succ, List.getElem?_cons_zero]; rfl) (yields_run (by rfl) ?_) ?_; rotate_left; (focus (intro w' _; go_simp <;> with_reducible rfl)); (simp only [Act.put, List.setIfInBounds_toArray, List.set_cons_zero, List.set_cons_succ]))
  refine plan_run (o := ?_) (by simp only [List.getElem?_toArray, List.getElem?_cons_zero]; rfl) ?_
  intro R HR
  go_wp2_with fail
  refine HR.out _ _ trivial ?_
  clear HR
  have HB := hide (HA.out.keep (below_new W1.drew (.cells #[] 5)))
  have hown := own_empty W1.drew (w.heap.size + 3) 5 5 1 rfl HA.out.sz
  refine plan_run (o := ?_) (by simp only [List.getElem?_toArray, List.getElem?_cons_succ, List.getElem?_cons_zero]; rfl) ?_
  intro R HR
  refine wpList_of_wp (by rfl) (wp_app5 (.tmp 5) (.tmp 6) rfl (w.heap.size + 3) _ 0 [] rfl hown (some ⟨w.heap.size, 0, none⟩) 32 32 a rfl ⟨HD.out.1.symm, Sb.of HB.out.x.bs, fun h => by cases h⟩ (by decide) HB.out.sz 32 a rfl rfl ?_)
  intro v1 wA hA1 hgA
  have HC := hide (HB.out.grow hgA hown)
  clear hgA hown HB HA
  obtain ⟨gA, cA, rfl, hA2, hA3, _, hA4, hA5⟩ := own_form hA1 (by decide)
  refine HR.out _ _ trivial ?_
  clear HR
  try (simp only [Act.put, List.setIfInBounds_toArray, List.set_cons_zero, List.set_cons_succ])
  refine plan_run (o := ?_) (by simp only [List.getElem?_toArray, List.getElem?_cons_succ, List.getElem?_cons_zero]; rfl) ?_
  intro R HR
  refine wpList_of_wp (by rfl) (wp_app5 (.tmp 7) (.tmp 8) rfl (w.heap.size + 3) _ 32 a rfl hA2 (some ⟨w.heap.size + 1, 0, none⟩) 32 32 b rfl ⟨HD.out.2.symm, Sb.of HC.out.y.bs, fun h => by cases h⟩ (by decide) HC.out.sz (32 + 32) (a ++ b) rfl rfl ?_)
  intro v2 wB hB1 hgB
  have HE := hide (HC.out.grow hgB hA2)
  clear hgB hA1 hA2 hA3 hA4 hA5 HC
  obtain ⟨gB, cB, rfl, hB2, hB3, _, hB4, hB5⟩ := own_form hB1 (by decide)
  refine HR.out _ _ trivial ?_
  clear HR
  try (simp only [Act.put, List.setIfInBounds_toArray, List.set_cons_zero, List.set_cons_succ])
  refine plan_run (o := ?_) (by simp only [List.getElem?_toArray, List.getElem?_cons_succ, List.getElem?_cons_zero]; rfl) ?_
  intro R HR
  have HB3 := hide hB3
  clear hB1 hB2 hB3 hB4 hB5
  go_wp2_with fail
  with_reducible refine (rtag_node gB cB (a ++ b) wB HB3.out HAB.out).mono ?_
  rintro e w4 ⟨rfl, hb4⟩
  have HF := hide (HE.out.keep hb4)
  clear hb4 HE HB3
  have HS := hide (dv_size _ (tagd_len tNode (a ++ b)))
  have HZ := hide (show (Tryd.prog.info? 26).map (·.size) = some ((bc (tagd tNode (a ++ b))).toArray).size by rw [HS.out]; exact Tryd.size26)
  have HO := hide (all_oneCell_toArray (bc_one (tagd tNode (a ++ b))))
  go_wp2_with fail
  refine HR.out _ _ trivial ?_
  clear HR
  refine plan_run (o := ?_) (by simp only [List.getElem?_toArray, List.getElem?_cons_succ, List.getElem?_cons_zero]; rfl) ?_
  intro R HR
  go_wp2_with (refine wpList_store_row rfl 26 (.tmp 4) (.tmp 10) rfl (w.heap.size + 2) _ rfl rfl 26 _ HF.out.z HZ.out (by rw [HS.out]; rfl) HO.out ?_)
  refine HR.out _ _ trivial ?_
  clear HR
  refine plan_done ?_
  go_wp2_with fail
  refine bodyPost_ret (v := dv (tagd tNode (a ++ b))) (results_cell_row rfl _ _ (w.heap.size + 2) 26 _ (0, 0) _ rfl (setRow_heap _ _ _ _ _ _ HF.out.z) Tryd.underlying26 rfl HZ.out) rfl ⟨rfl, below_setRow HF.out.bel (by omega) _⟩
end Go.Proofs.YtnopibpakchejaaDoor

/- The reference's half. -/
namespace Go.Proofs.YtnopibpakchejaaDoor
open Go.RowKit

theorem hp_eq (n : Nat) : hp n = 2 ^ (n - 1).log2 := by unfold hp; rfl
theorem half_more {n j : Nat} (hj : j < (n - 1).log2) : 2 * 2 ^ j < n := by
  have hn : n - 1 ≠ 0 := by intro e; rw [e] at hj; simp at hj
  have h1 := Nat.log2_self_le hn
  have h2 : 2 ^ (j + 1) ≤ 2 ^ (n - 1).log2 := Nat.pow_le_pow_right (by omega) hj
  rw [Nat.pow_succ] at h2
  omega
theorem half_done (n : Nat) : ¬ 2 * 2 ^ (n - 1).log2 < n := by
  have := Nat.lt_log2_self (n := n - 1)
  rw [Nat.pow_succ] at this
  omega

set_option maxHeartbeats 400000 in
theorem rhalf_any (n : Nat) (w : World) (h' : n ≤ 1099511627776) :
    Calls Tryd.prog 38 #[.int .i64 (n : Nat)] w fun e w' => e = .returned (.int .i64 (hp n : Nat)) ∧ w' = w := by
  have HE := hide (hp_eq n)
  go_enter Tryd.func38, Tryd.ntmps38
  go_wp2_with fail
  go_loop [3] (fun i => ∃ p j : Nat, Hid (p = 2 ^ j ∧ j ≤ (n - 1).log2) ∧ 1 ≤ p ∧ (p ≤ n ∨ p = 1) ∧ i = .int .i64 (p : Nat)) (fun i => n + 1 - (intOf i).toNat)
  case atStart => exact ⟨1, 0, hide ⟨rfl, Nat.zero_le _⟩, by omega, .inr rfl, rfl⟩
  case round =>
    obtain ⟨p, j, HP, h1, h2, rfl⟩ := hrel
    have hp40 : p ≤ 1099511627776 := by omega
    by_cases hlt : 2 * p < n
    · have hltI : 2 * (p : Int) < (n : Int) := by omega
      go_wp2_with fail
      go_round
      case rel =>
        refine ⟨2 * p, j + 1, hide ⟨by rw [HP.out.1, Nat.pow_succ]; omega, ?_⟩, by omega, .inl (by omega), by go_num⟩
        have h3 := HP.out.2
        by_cases hj : j = (n - 1).log2
        · have h4 := half_done n
          rw [← hj, ← HP.out.1] at h4
          omega
        · omega
      case measure => simp [intOf]; omega
    · have hltI : ¬ 2 * (p : Int) < (n : Int) := by omega
      go_wp2_with fail
      go_ret
      refine ⟨?_, rfl⟩
      have h3 := HP.out.2
      by_cases hj : j = (n - 1).log2
      · rw [HE.out, ← hj, ← HP.out.1]; rfl
      · have h4 := half_more (n := n) (j := j) (by omega)
        rw [← HP.out.1] at h4
        omega
end Go.Proofs.YtnopibpakchejaaDoor
