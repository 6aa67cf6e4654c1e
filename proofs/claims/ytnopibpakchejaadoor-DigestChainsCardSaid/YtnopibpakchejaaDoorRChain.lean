/- The reference's Chain. -/
import Derived.Test.YtnopibpakchejaaDoorRTag
namespace Go.Proofs.YtnopibpakchejaaDoor
open Go.RowKit

theorem rtag_chain (g c : Nat) (l : List UInt8) (w : World) (hl : Bs w g 0 l) (he : 64 = l.length) :
    Calls Tryd.prog 15 #[.string ⟨#[99, 104, 97, 105, 110]⟩, .slice (some ⟨g, 0, none⟩) (64 : Nat) c] w fun e w' => e = .returned (dv (tagd tChain l)) ∧ Below w.heap.size w w' :=
  rtagged_any _ _ _ _ l w ⟨he, Sb.of hl, fun h => by cases h⟩ (by decide) (by decide)
theorem rtag_node (g c : Nat) (l : List UInt8) (w : World) (hl : Bs w g 0 l) (he : 64 = l.length) :
    Calls Tryd.prog 15 #[.string ⟨#[110, 111, 100, 101]⟩, .slice (some ⟨g, 0, none⟩) (64 : Nat) c] w fun e w' => e = .returned (dv (tagd tNode l)) ∧ Below w.heap.size w w' :=
  rtagged_any _ _ _ _ l w ⟨he, Sb.of hl, fun h => by cases h⟩ (by decide) (by decide)

/-- Two digests and a result in memory. -/
structure T3 (w : World) (a b : List UInt8) (W : World) : Prop where
  x : Blk W w.heap.size 26 (bc a)
  y : Blk W (w.heap.size + 1) 26 (bc b)
  z : Blk W (w.heap.size + 2) 26 (List.replicate 32 (.int .u8 0))
  bel : Below w.heap.size w W
  sz : w.heap.size + 3 ≤ W.heap.size
theorem T3.keep {w W W' : World} {a b : List UInt8} (h : T3 w a b W) (hb : Below W.heap.size W W') : T3 w a b W' := ⟨h.x.below hb h.x.lt, h.y.below hb h.y.lt, h.z.below hb h.z.lt, below_one h.bel hb, Nat.le_trans h.sz hb.size⟩
theorem T3.grow {w W W' : World} {a b : List UInt8} {e size n : Nat} {v : Value} {xs : List Value} (h : T3 w a b W) (hg : W.grownBy W' v.ownBlock) (ho : W.ownsRow (w.heap.size + 3) e size v n xs) : T3 w a b W' := by
  have hr : ∀ k, v.ownBlock = some k → w.heap.size + 3 ≤ k := fun k hk => (ho.lt k hk).1
  exact ⟨(hg.block _ h.x.lt (by intro e; have := hr _ e.symm; omega)).trans h.x, (hg.block _ h.y.lt (by intro e; have := hr _ e.symm; omega)).trans h.y, (hg.block _ h.z.lt (by intro e; have := hr _ e.symm; omega)).trans h.z, h.bel.grown hg h.bel.size fun k hk => by have := hr k hk; omega, Nat.le_trans h.sz hg.size⟩

set_option maxRecDepth 10000 in
set_option maxHeartbeats 800000 in
theorem rchain_any (a b : List UInt8) (w : World) (ha : a.length = 32) (hb : b.length = 32) :
    Calls Tryd.prog 26 #[dv a, dv b] w fun e w' => e = .returned (dv (tagd tChain (a ++ b))) ∧ Below w.heap.size w w' := by
  have HD := hide (And.intro ha hb)
  have HAB := hide (show 32 + 32 = (a ++ b).length by rw [List.length_append, ha, hb])
  clear ha hb
  go_enter Tryd.func26, Tryd.ntmps26
  go_wp2_with fail
  refine name_code ?_
  intro W1 HW1
  have HA : Hid (T3 w a b W1.drew) := by
    have e : W1 = (((w.alloc (.cells (bc a).toArray 26)).alloc (.cells (bc b).toArray 26)).alloc (.cells (List.replicate 32 (.int .u8 0)).toArray 26)) := HW1.out
    subst e
    have h := three_new w 26 26 26 (bc a) (bc b) (List.replicate 32 (.int .u8 0))
    exact hide ⟨h.1, h.2.1, h.2.2.1, h.2.2.2.1, Nat.le_of_eq h.2.2.2.2.symm⟩
  clear HW1
  refine wp_region_plan (fun _ => True) (.take 1 (.take 3 (.run 0 (.run 2 (.run 4 (.run 5 (.run 6 .done))))))) (by kernel_rfl) (by kernel_rfl) trivial ?_
  (refine plan_take (o := ?_) (v := ?_) (by simp only [List.getElem?_toArray, List.getElem?_cons_succ, List.getElem?_cons_zero]; rfl) (yields_run (by rfl) ?_) ?_; rotate_left; (focus (intro w' _; go_simp <;> with_reducible rfl)); (simp only [Act.put, List.setIfInBounds_toArray, List.set_cons_zero, List.set_cons_succ]))
  (refine plan_take (o := ?_) (v := ?_) (by simp only [List.getElem?_toArray, List.getElem?_cons_succ, List.getElem?_cons_zero]; rfl) (yields_run (by rfl) ?_) ?_; rotate_left; (focus (intro w' _; go_simp <;> with_reducible rfl)); (simp only [Act.put, List.setIfInBounds_toArray, List.set_cons_zero, List.set_cons_succ]))
  refine plan_run (o := ?_) (by simp only [List.getElem?_toArray, List.getElem?_cons_zero]; rfl) ?_
  intro R HR
  go_wp2_with fail
  refine HR.out _ _ trivial ?_
  clear HR
  have HB := hide (HA.out.keep (below_new W1.drew (.cells #[] 5)))
  have hown := own_empty W1.drew (w.heap.size + 3) 5 5 1 rfl HA.out.sz
  refine plan_run (o := ?_) (by simp only [List.getElem?_toArray, List.getElem?_cons_succ, List.getElem?_cons_zero]; rfl) ?_
  intro R HR
  refine wpList_of_wp (by rfl) (wp_app5 (.tmp 5) (.tmp 6) rfl (w.heap.size + 3) _ 0 [] rfl hown (some ⟨w.heap.size, 0, none⟩) 32 32 a rfl ⟨HD.out.1.symm, Sb.of HB.out.x.bs, fun h => by cases h⟩ (by decide) HB.out.sz 32 a rfl rfl ?_)
  intro v1 wA hA1 hgA
  have HC := hide (HB.out.grow hgA hown)
  clear hgA hown HB HA
  obtain ⟨gA, cA, rfl, hA2, hA3, _, hA4, hA5⟩ := own_form hA1 (by decide)
  refine HR.out _ _ trivial ?_
  clear HR
  try (simp only [Act.put, List.setIfInBounds_toArray, List.set_cons_zero, List.set_cons_succ])
  refine plan_run (o := ?_) (by simp only [List.getElem?_toArray, List.getElem?_cons_succ, List.getElem?_cons_zero]; rfl) ?_
  intro R HR
  refine wpList_of_wp (by rfl) (wp_app5 (.tmp 7) (.tmp 8) rfl (w.heap.size + 3) _ 32 a rfl hA2 (some ⟨w.heap.size + 1, 0, none⟩) 32 32 b rfl ⟨HD.out.2.symm, Sb.of HC.out.y.bs, fun h => by cases h⟩ (by decide) HC.out.sz (32 + 32) (a ++ b) rfl rfl ?_)
  intro v2 wB hB1 hgB
  have HE := hide (HC.out.grow hgB hA2)
  clear hgB hA1 hA2 hA3 hA4 hA5 HC
  obtain ⟨gB, cB, rfl, hB2, hB3, _, hB4, hB5⟩ := own_form hB1 (by decide)
  refine HR.out _ _ trivial ?_
  clear HR
  try (simp only [Act.put, List.setIfInBounds_toArray, List.set_cons_zero, List.set_cons_succ])
  refine plan_run (o := ?_) (by simp only [List.getElem?_toArray, List.getElem?_cons_succ, List.getElem?_cons_zero]; rfl) ?_
  intro R HR
  have HB3 := hide hB3
  clear hB1 hB2 hB3 hB4 hB5
  go_wp2_with fail
  with_reducible refine (rtag_chain gB cB (a ++ b) wB HB3.out HAB.out).mono ?_
  rintro e w4 ⟨rfl, hb4⟩
  have HF := hide (HE.out.keep hb4)
  clear hb4 HE HB3
  have HS := hide (dv_size _ (tagd_len tChain (a ++ b)))
  have HZ := hide (show (Tryd.prog.info? 26).map (·.size) = some ((bc (tagd tChain (a ++ b))).toArray).size by rw [HS.out]; exact Tryd.size26)
  have HO := hide (all_oneCell_toArray (bc_one (tagd tChain (a ++ b))))
  go_wp2_with fail
  refine HR.out _ _ trivial ?_
  clear HR
  refine plan_run (o := ?_) (by simp only [List.getElem?_toArray, List.getElem?_cons_succ, List.getElem?_cons_zero]; rfl) ?_
  intro R HR
  go_wp2_with (refine wpList_store_row rfl 26 (.tmp 4) (.tmp 10) rfl (w.heap.size + 2) _ rfl rfl 26 _ HF.out.z HZ.out (by rw [HS.out]; rfl) HO.out ?_)
  refine HR.out _ _ trivial ?_
  clear HR
  refine plan_done ?_
  go_wp2_with fail
  refine bodyPost_ret (v := dv (tagd tChain (a ++ b))) (results_cell_row rfl _ _ (w.heap.size + 2) 26 _ (0, 0) _ rfl (setRow_heap _ _ _ _ _ _ HF.out.z) Tryd.underlying26 rfl HZ.out) rfl ⟨rfl, below_setRow HF.out.bel (by omega) _⟩
end Go.Proofs.YtnopibpakchejaaDoor
