/- The text of a step. -/
import Derived.Test.YthjfeodclphgaaaDoorNb
namespace Go.Proofs.YthjfeodclphgaaaDoor
open Go.RowKit
set_option maxRecDepth 20000 in
set_option maxHeartbeats 1600000 in
theorem stepText_any (i : Nat) (b : Bool) (x y : List UInt8) (w : World) (hT : Tab w) (hi : i < 4294967296) (hx : x.length = 32) (hy : y.length = 32) :
    Calls Tryd.prog 90 #[.agg #[.int .i64 (i : Nat), .bool b], dv x, dv y] w (ByP (stepT tagN i x y) w) := by
  have HT := hide hT
  have HD := hide (And.intro hx hy)
  have HBX := hide (three_new w 82 26 26 [.int .i64 (i : Nat), .bool b] (bc x) (bc y))
  have HZX := hide (show (Tryd.prog.info? 26).map (·.size) = some ((bc x).toArray).size by rw [dv_size _ hx]; exact Tryd.size26)
  have HZY := hide (show (Tryd.prog.info? 26).map (·.size) = some ((bc y).toArray).size by rw [dv_size _ hy]; exact Tryd.size26)
  clear hT hx hy
  go_enter Tryd.func90, Tryd.ntmps90
  go_wp2_with fail
  refine name_code ?_
  intro W3 hW3
  have e : W3 = ((w.alloc (.cells [Value.int .i64 (i : Nat), .bool b].toArray 82)).alloc (.cells (bc x).toArray 26)).alloc (.cells (bc y).toArray 26) := hW3.out
  rw [← e] at HBX
  clear hW3 e
  have HC3 := hide (fun W (hW : Below W3.drew.heap.size W3.drew W) => show W.cell? ⟨w.heap.size, 0, none⟩ = some (.int .i64 (i : Nat)) ∧ W.cell? ⟨w.heap.size, 1, none⟩ = some (.bool b) from ⟨((HBX.out.1.below hW HBX.out.1.lt).cell 0).trans rfl, ((HBX.out.1.below hW HBX.out.1.lt).cell 1).trans rfl⟩)
  refine wp_region_plan3 (fun w' => Below W3.drew.heap.size W3.drew w') (.take 0 (.take 2 (.take 3 (.run 1 (.take 4 .done))))) (by kernel_rfl) (by kernel_rfl) (Below.refl _ _) ?_
  have HF0 := hide (Below.refl W3.drew.heap.size W3.drew)
  generalize W3.drew = wD at *
  (refine plan3_take (o := ?_) (v := ?_) (by simp only [List.getElem?_toArray, List.getElem?_cons_zero]; rfl) (yields_run (by rfl) ?_) ?_; rotate_left; (focus (intro w' hw'; obtain ⟨s0, s1⟩ := HC3.out w' hw'; go_simp <;> with_reducible rfl)); (simp only [Act.put, List.setIfInBounds_toArray, List.set_cons_zero, List.set_cons_succ]))
  (refine plan3_take (o := ?_) (v := ?_) (by simp only [List.getElem?_toArray, List.getElem?_cons_succ, List.getElem?_cons_zero]; rfl) (yields_run (by rfl) ?_) ?_; rotate_left; (focus (intro w' hw'; skip; go_simp <;> with_reducible rfl)); (simp only [Act.put, List.setIfInBounds_toArray, List.set_cons_zero, List.set_cons_succ]))
  (refine plan3_take (o := ?_) (v := ?_) (by simp only [List.getElem?_toArray, List.getElem?_cons_succ, List.getElem?_cons_zero]; rfl) (yields_run (by rfl) ?_) ?_; rotate_left; (focus (intro w' hw'; obtain ⟨s0, s1⟩ := HC3.out w' hw'; go_simp <;> with_reducible rfl)); (simp only [Act.put, List.setIfInBounds_toArray, List.set_cons_zero, List.set_cons_succ]))
  refine plan3_run (o := ?_) (by simp only [List.getElem?_toArray, List.getElem?_cons_succ, List.getElem?_cons_zero]; rfl) ?_
  intro R HR
  go_wp2_with fail
  refine (nb_any i b wD hi).mono ?_
  rintro e w5 ⟨rfl, hb⟩
  have HF5 := hide (below_one HF0.out hb)
  clear hb
  go_wp2_with fail
  refine HR.out _ _ HF5.out ?_
  clear HR
  (refine plan3_take (o := ?_) (v := ?_) (by simp only [List.getElem?_toArray, List.getElem?_cons_succ, List.getElem?_cons_zero]; rfl) (yields_run (by rfl) ?_) ?_; rotate_left; (focus (intro w' hw'; skip; go_simp <;> with_reducible rfl)); (simp only [Act.put, List.setIfInBounds_toArray, List.set_cons_zero, List.set_cons_succ]))
  refine plan3_done ?_
  skip
  have HX5 := hide (HBX.out.2.1.below HF5.out HBX.out.2.1.lt)
  have HY5 := hide (HBX.out.2.2.1.below HF5.out HBX.out.2.2.1.lt)
  have HW5 := hide (below_one HBX.out.2.2.2.1 HF5.out)
  have HT5 := hide (HT.out.below HW5.out)
  clear HF5 HF0 HC3 HBX HT
  by_cases hc : nb i < i
  · have hc' : (nb i : Int) < (i : Int) := by omega
    have hst := hide (show stepT tagN i x y = nodeT tagN y x from if_pos hc)
    go_wp2_with (first | (refine wpList_load_row rfl 26 (.tmp 5) rfl (w.heap.size + 2) rfl 26 _ (0, 0) _ HY5.out Tryd.underlying26 rfl HZY.out ?_) | (refine wpList_load_row rfl 26 (.tmp 4) rfl (w.heap.size + 1) rfl 26 _ (0, 0) _ HX5.out Tryd.underlying26 rfl HZX.out ?_))
    refine (nodeText_any y x w5 HT5.out HD.out.2 HD.out.1).mono ?_
    rintro e w7 ⟨A, c, rfl, h1, h2, h3, h4, h5⟩
    have HR := hide (And.intro h1 (And.intro h2 (And.intro h3 (And.intro h4 (below_one HW5.out h5)))))
    clear h1 h2 h3 h4 h5
    go_wp2_with fail
    go_ret
    rw [hst.out]
    exact ⟨A, c, rfl, HR.out.1, HR.out.2.1, HR.out.2.2.1, HR.out.2.2.2.1, HR.out.2.2.2.2⟩
  · have hc' : ¬ ((nb i : Int) < (i : Int)) := by omega
    have hst := hide (show stepT tagN i x y = nodeT tagN x y from if_neg hc)
    go_wp2_with (first | (refine wpList_load_row rfl 26 (.tmp 5) rfl (w.heap.size + 2) rfl 26 _ (0, 0) _ HY5.out Tryd.underlying26 rfl HZY.out ?_) | (refine wpList_load_row rfl 26 (.tmp 4) rfl (w.heap.size + 1) rfl 26 _ (0, 0) _ HX5.out Tryd.underlying26 rfl HZX.out ?_))
    refine (nodeText_any x y w5 HT5.out HD.out.1 HD.out.2).mono ?_
    rintro e w7 ⟨A, c, rfl, h1, h2, h3, h4, h5⟩
    have HR := hide (And.intro h1 (And.intro h2 (And.intro h3 (And.intro h4 (below_one HW5.out h5)))))
    clear h1 h2 h3 h4 h5
    go_wp2_with fail
    go_ret
    rw [hst.out]
    exact ⟨A, c, rfl, HR.out.1, HR.out.2.1, HR.out.2.2.1, HR.out.2.2.2.1, HR.out.2.2.2.2⟩
end Go.Proofs.YthjfeodclphgaaaDoor
