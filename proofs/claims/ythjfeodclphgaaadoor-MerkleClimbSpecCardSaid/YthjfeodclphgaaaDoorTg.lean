/- together: the digest of a row that stands for one or two. -/
import Derived.Test.YthjfeodclphgaaaDoorSt
import Derived.Test.YthjfeodclphgaaaDoorAppF
namespace Go.Proofs.YthjfeodclphgaaaDoor
open Go.RowKit
theorem range_below {w w' : World} {b o : Nat} {cs : List Value} (h : w.rangeAt b o cs) (hb : Below w.heap.size w w') (hlt : b < w.heap.size) : w'.rangeAt b o cs := fun j v hv => (hb.cell (p := ⟨b, o + j, none⟩) hlt).trans (h j v hv)
theorem nodeT_len {T x y : List UInt8} (hT : T.length = 32) (hx : x.length = 32) (hy : y.length = 32) : (nodeT T x y).length = 96 := by unfold nodeT; rw [List.length_append, List.length_append, hT, hx, hy]
set_option maxRecDepth 20000 in
set_option maxHeartbeats 1600000 in
theorem together_one (d : List UInt8) (b o cap : Nat) (w : World) (hd : d.length = 32) (hr : w.rangeAt b o (bc d)) (hb : b < w.heap.size) :
    Calls Tryd.prog 86 #[.slice (some ⟨b, o, none⟩) 1 cap] w fun e w' => e = .returned (dv d) ∧ Below w.heap.size w w' := by
  have HR := hide (Blk.new w 26 (List.replicate 32 (.int .u8 0)))
  have HZ := hide (show (Tryd.prog.info? 26).map (·.size) = some ((bc d).toArray).size by rw [dv_size _ hd]; exact Tryd.size26)
  have HO := hide (all_oneCell_toArray (bc_one d))
  have HS := hide (dv_size _ hd)
  have HG := hide (show (w.alloc (.cells (List.replicate 32 (.int .u8 0)).toArray 26)).rangeAt b o (bc d) from range_below hr (below_new _ _) hb)
  clear hr hb hd
  go_enter Tryd.func86, Tryd.ntmps86
  go_wp2_with (first | (refine wpList_load_mid rfl 26 (.tmp 7) rfl b o rfl (bc d) _ HG.out Tryd.underlying26 rfl HZ.out ?_) | (refine wpList_store_row rfl 26 (.tmp 2) (.tmp 8) rfl w.heap.size _ rfl rfl 26 _ HR.out HZ.out (by rw [HS.out]; rfl) HO.out ?_))
  refine bodyPost_ret (v := dv d) (results_cell_row rfl _ _ w.heap.size 26 _ (0, 0) _ rfl (setRow_heap _ _ _ _ _ _ HR.out) Tryd.underlying26 rfl HZ.out) rfl ⟨rfl, below_setRow (below_new _ _) (Nat.le_refl _) _⟩
set_option maxRecDepth 20000 in
set_option maxHeartbeats 1600000 in
theorem together_two (x y : List UInt8) (b o cap : Nat) (w : World) (hT : Tab w) (hx : x.length = 32) (hy : y.length = 32) (hr : w.rangeAt b o (bc x)) (hr2 : w.rangeAt b (o + 32) (bc y)) (hb : b < w.heap.size) :
    Calls Tryd.prog 86 #[.slice (some ⟨b, o, none⟩) 2 cap] w fun e w' => e = .returned (dv (sha (nodeT tagN x y))) ∧ Below w.heap.size w w' := by
  have HB := hide (Blk.new w 26 (List.replicate 32 (.int .u8 0)))
  have HD := hide (And.intro hx hy)
  have HZX := hide (show (Tryd.prog.info? 26).map (·.size) = some ((bc x).toArray).size by rw [dv_size _ hx]; exact Tryd.size26)
  have HZY := hide (show (Tryd.prog.info? 26).map (·.size) = some ((bc y).toArray).size by rw [dv_size _ hy]; exact Tryd.size26)
  have HZ := hide (show (Tryd.prog.info? 26).map (·.size) = some ((bc (sha (nodeT tagN x y))).toArray).size by rw [dv_size _ (sha_len _)]; exact Tryd.size26)
  have HO := hide (all_oneCell_toArray (bc_one (sha (nodeT tagN x y))))
  have HS := hide (dv_size _ (sha_len (nodeT tagN x y)))
  have HLN := hide (show (nodeT tagN x y).length ≤ 100000000 by rw [nodeT_len (sha_len _) hx hy]; decide)
  have HRG := hide (fun W (h : Below w.heap.size w W) => And.intro (range_below hr h hb) (range_below hr2 h hb))
  have HT := hide hT
  clear hr hr2 hb hx hy hT
  go_enter Tryd.func86, Tryd.ntmps86
  go_wp2_with fail
  refine name_code ?_
  intro W3 hW3
  have e : W3 = w.alloc (.cells (List.replicate 32 (.int .u8 0)).toArray 26) := hW3.out
  rw [← e] at HB
  have HW3 := hide (show Below w.heap.size w W3 by rw [e]; exact below_new _ _)
  clear hW3 e
  refine wp_region_plan3 (fun w' => Below w.heap.size w w') (.take 0 (.take 1 (.take 2 (.take 3 (.take 4 (.take 5 (.run 6 (.run 7 (.run 8 .done))))))))) (by kernel_rfl) (by kernel_rfl) HW3.out.drew ?_
  have HF0 := hide (show Below w.heap.size w W3.drew from HW3.out.drew)
  have HB2 := hide (show Blk W3.drew w.heap.size 26 (List.replicate 32 (.int .u8 0)) from HB.out)
  have HTD := hide (show Tab W3.drew from HT.out.below HF0.out)
  clear HB HW3 HT
  generalize W3.drew = wD at *
  (refine plan3_take (o := ?_) (v := ?_) (by simp only [List.getElem?_toArray, List.getElem?_cons_zero]; rfl) (yields_run (by rfl) ?_) ?_; rotate_left; (focus (intro w' hw'; go_simp <;> with_reducible rfl)); (simp only [Act.put, List.setIfInBounds_toArray, List.set_cons_zero, List.set_cons_succ]))
  (refine plan3_take (o := ?_) (v := ?_) (by simp only [List.getElem?_toArray, List.getElem?_cons_succ, List.getElem?_cons_zero]; rfl) (yields_run (by rfl) ?_) ?_; rotate_left; (focus (intro w' hw'; go_simp <;> with_reducible rfl)); (simp only [Act.put, List.setIfInBounds_toArray, List.set_cons_zero, List.set_cons_succ]))
  (refine plan3_take (o := ?_) (by simp only [List.getElem?_toArray, List.getElem?_cons_succ, List.getElem?_cons_zero]; rfl) (yieldsIf_load_mid (by rfl) 26 (.tmp 10) rfl b (o) rfl (bc x) _ (fun _ h => (HRG.out _ h).1) Tryd.underlying26 rfl HZX.out) ?_; (simp only [Act.put, List.setIfInBounds_toArray, List.set_cons_zero, List.set_cons_succ]))
  (refine plan3_take (o := ?_) (v := ?_) (by simp only [List.getElem?_toArray, List.getElem?_cons_succ, List.getElem?_cons_zero]; rfl) (yields_run (by rfl) ?_) ?_; rotate_left; (focus (intro w' hw'; go_simp <;> with_reducible rfl)); (simp only [Act.put, List.setIfInBounds_toArray, List.set_cons_zero, List.set_cons_succ]))
  (refine plan3_take (o := ?_) (v := ?_) (by simp only [List.getElem?_toArray, List.getElem?_cons_succ, List.getElem?_cons_zero]; rfl) (yields_run (by rfl) ?_) ?_; rotate_left; (focus (intro w' hw'; go_simp <;> with_reducible rfl)); (simp only [Act.put, List.setIfInBounds_toArray, List.set_cons_zero, List.set_cons_succ]))
  (refine plan3_take (o := ?_) (by simp only [List.getElem?_toArray, List.getElem?_cons_succ, List.getElem?_cons_zero]; rfl) (yieldsIf_load_mid (by rfl) 26 (.tmp 13) rfl b (o + 32) rfl (bc y) _ (fun _ h => (HRG.out _ h).2) Tryd.underlying26 rfl HZY.out) ?_; (simp only [Act.put, List.setIfInBounds_toArray, List.set_cons_zero, List.set_cons_succ]))
  refine plan3_run (o := ?_) (by simp only [List.getElem?_toArray, List.getElem?_cons_succ, List.getElem?_cons_zero]; rfl) ?_
  intro R HR
  go_wp2_with fail
  refine (nodeText_any x y wD HTD.out HD.out.1 HD.out.2).mono ?_
  rintro e w5 ⟨A, c, rfl, h1, h2, h3, h4, h5⟩
  have HS5 := hide (And.intro h1 (And.intro h2 h3))
  have HF5 := hide (h5)
  have HT5 := hide (HTD.out.below h5)
  clear h1 h2 h3 h4 h5
  go_wp2_with fail
  refine HR.out _ _ (below_one HF0.out HF5.out) ?_
  clear HR
  refine plan3_run (o := ?_) (by simp only [List.getElem?_toArray, List.getElem?_cons_succ, List.getElem?_cons_zero]; rfl) ?_
  intro R HR
  go_wp2_with fail
  refine (sum_is A (nodeT tagN x y).length c (nodeT tagN x y) w5 HT5.out HS5.out.1 rfl HS5.out.2.1 HS5.out.2.2 HLN.out).mono ?_
  rintro e w6 ⟨rfl, h5⟩
  have HF6 := hide (below_one HF5.out h5)
  clear h5
  go_wp2_with fail
  refine HR.out _ _ (below_one HF0.out HF6.out) ?_
  clear HR
  refine plan3_run (o := ?_) (by simp only [List.getElem?_toArray, List.getElem?_cons_succ, List.getElem?_cons_zero]; rfl) ?_
  intro R HR
  have HR6 := hide (HB2.out.below HF6.out HB2.out.lt)
  have HFE := hide (below_setRow (below_one HF0.out HF6.out) (Nat.le_refl w.heap.size) (bc (sha (nodeT tagN x y))).toArray)
  refine wpList_store_row rfl 26 (.tmp 2) (.tmp 16) rfl w.heap.size (bc (sha (nodeT tagN x y))).toArray rfl rfl 26 _ HR6.out HZ.out (by rw [HS.out]; rfl) HO.out ?_
  refine HR.out _ _ HFE.out ?_
  clear HR
  refine plan3_done ?_
  go_wp2_with fail
  refine bodyPost_ret (v := dv (sha (nodeT tagN x y))) (results_cell_row rfl _ _ w.heap.size 26 _ (0, 0) _ rfl (setRow_heap _ _ _ _ _ _ HR6.out) Tryd.underlying26 rfl HZ.out) rfl ⟨rfl, HFE.out⟩
end Go.Proofs.YthjfeodclphgaaaDoor
