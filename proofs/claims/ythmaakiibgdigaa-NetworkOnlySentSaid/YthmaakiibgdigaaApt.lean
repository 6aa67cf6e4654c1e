/- compare; the pairs that are cut: valid? -/
import Derived.Test.YthmaakiibgdigaaCmp
namespace Go.Proofs.Ythmaakiibgdigaa
open Go.RowKit
variable {ok : Nat → Prop}

theorem below_two (w : World) (o o' : Obj) : Below w.heap.size w ((w.alloc o).alloc o') := (below_new _ _).alloc (by simp) _
set_option maxRecDepth 10000 in
set_option maxHeartbeats 800000 in
theorem compare_any (p q : Int × Int) (w : World) : Calls Try.prog 38 #[prV p, prV q] w fun e w' => e = .returned (.int .i64 (cmpP p q)) ∧ Below w.heap.size w w' := by
  obtain ⟨p1, p2⟩ := p
  obtain ⟨q1, q2⟩ := q
  have HD := hide (show cmpP (p1, p2) (q1, q2) = orI (cmpI p1 q1) (cmpI p2 q2) from rfl)
  have HB := hide (below_two w (.cells #[.int .i64 p1, .int .i64 p2] 55) (.cells #[.int .i64 q1, .int .i64 q2] 55))
  go_enter Try.func38, Try.ntmps38
  go_wp2_with fail
  have b1 := (Blk.new w 55 [.int .i64 p1, .int .i64 p2]).alloc (.cells #[.int .i64 q1, .int .i64 q2] 55)
  have b2 := Blk.new (w.alloc (.cells #[.int .i64 p1, .int .i64 p2] 55)) 55 [.int .i64 q1, .int .i64 q2]
  rw [World.size_alloc] at b2
  have HBX := hide (And.intro b1.c2 b2.c2)
  have HZ := hide (show w.heap.size + 1 < ((w.alloc (.cells #[.int .i64 p1, .int .i64 p2] 55)).alloc (.cells #[.int .i64 q1, .int .i64 q2] 55)).heap.size by simp)
  clear b1 b2
  generalize ((w.alloc (.cells #[.int .i64 p1, .int .i64 p2] 55)).alloc (.cells #[.int .i64 q1, .int .i64 q2] 55)) = w2 at *
  refine wp_region_plan3 (fun w' => Below w2.heap.size w2 w') (.take 0 (.take 1 (.take 2 (.take 3 (.take 5 (.take 6 (.take 7 (.take 8 (.run 4 (.run 9 (.run 10 (.run 11 (.take 12 .done))))))))))))) (by kernel_rfl) (by kernel_rfl) ((Below.refl _ _).drew) ?_
  have HF0 := hide (show Below w2.heap.size w2 w2.drew from (Below.refl _ _).drew)
  generalize w2.drew = wD at HF0 ⊢
  (refine plan3_take (o := ?_) (v := ?_) (by simp only [List.getElem?_toArray, List.getElem?_cons_zero]; rfl) (yields_run (by rfl) ?_) ?_; rotate_left; (focus (intro w' hw'; obtain ⟨⟨c0, c1⟩, c2, c3⟩ := HBX.out; have d0 := (hw'.cell (p := ⟨w.heap.size, 0, none⟩) (by have := HZ.out; simp; omega)).trans c0; have d1 := (hw'.cell (p := ⟨w.heap.size, 1, none⟩) (by have := HZ.out; simp; omega)).trans c1; have d2 := (hw'.cell (p := ⟨w.heap.size + 1, 0, none⟩) HZ.out).trans c2; have d3 := (hw'.cell (p := ⟨w.heap.size + 1, 1, none⟩) HZ.out).trans c3; clear c0 c1 c2 c3; go_simp <;> with_reducible rfl)); (simp only [Act.put, List.setIfInBounds_toArray, List.set_cons_zero, List.set_cons_succ]))
  (refine plan3_take (o := ?_) (v := ?_) (by simp only [List.getElem?_toArray, List.getElem?_cons_succ, List.getElem?_cons_zero]; rfl) (yields_run (by rfl) ?_) ?_; rotate_left; (focus (intro w' hw'; obtain ⟨⟨c0, c1⟩, c2, c3⟩ := HBX.out; have d0 := (hw'.cell (p := ⟨w.heap.size, 0, none⟩) (by have := HZ.out; simp; omega)).trans c0; have d1 := (hw'.cell (p := ⟨w.heap.size, 1, none⟩) (by have := HZ.out; simp; omega)).trans c1; have d2 := (hw'.cell (p := ⟨w.heap.size + 1, 0, none⟩) HZ.out).trans c2; have d3 := (hw'.cell (p := ⟨w.heap.size + 1, 1, none⟩) HZ.out).trans c3; clear c0 c1 c2 c3; go_simp <;> with_reducible rfl)); (simp only [Act.put, List.setIfInBounds_toArray, List.set_cons_zero, List.set_cons_succ]))
  (refine plan3_take (o := ?_) (v := ?_) (by simp only [List.getElem?_toArray, List.getElem?_cons_succ, List.getElem?_cons_zero]; rfl) (yields_run (by rfl) ?_) ?_; rotate_left; (focus (intro w' hw'; obtain ⟨⟨c0, c1⟩, c2, c3⟩ := HBX.out; have d0 := (hw'.cell (p := ⟨w.heap.size, 0, none⟩) (by have := HZ.out; simp; omega)).trans c0; have d1 := (hw'.cell (p := ⟨w.heap.size, 1, none⟩) (by have := HZ.out; simp; omega)).trans c1; have d2 := (hw'.cell (p := ⟨w.heap.size + 1, 0, none⟩) HZ.out).trans c2; have d3 := (hw'.cell (p := ⟨w.heap.size + 1, 1, none⟩) HZ.out).trans c3; clear c0 c1 c2 c3; go_simp <;> with_reducible rfl)); (simp only [Act.put, List.setIfInBounds_toArray, List.set_cons_zero, List.set_cons_succ]))
  (refine plan3_take (o := ?_) (v := ?_) (by simp only [List.getElem?_toArray, List.getElem?_cons_succ, List.getElem?_cons_zero]; rfl) (yields_run (by rfl) ?_) ?_; rotate_left; (focus (intro w' hw'; obtain ⟨⟨c0, c1⟩, c2, c3⟩ := HBX.out; have d0 := (hw'.cell (p := ⟨w.heap.size, 0, none⟩) (by have := HZ.out; simp; omega)).trans c0; have d1 := (hw'.cell (p := ⟨w.heap.size, 1, none⟩) (by have := HZ.out; simp; omega)).trans c1; have d2 := (hw'.cell (p := ⟨w.heap.size + 1, 0, none⟩) HZ.out).trans c2; have d3 := (hw'.cell (p := ⟨w.heap.size + 1, 1, none⟩) HZ.out).trans c3; clear c0 c1 c2 c3; go_simp <;> with_reducible rfl)); (simp only [Act.put, List.setIfInBounds_toArray, List.set_cons_zero, List.set_cons_succ]))
  (refine plan3_take (o := ?_) (v := ?_) (by simp only [List.getElem?_toArray, List.getElem?_cons_succ, List.getElem?_cons_zero]; rfl) (yields_run (by rfl) ?_) ?_; rotate_left; (focus (intro w' hw'; obtain ⟨⟨c0, c1⟩, c2, c3⟩ := HBX.out; have d0 := (hw'.cell (p := ⟨w.heap.size, 0, none⟩) (by have := HZ.out; simp; omega)).trans c0; have d1 := (hw'.cell (p := ⟨w.heap.size, 1, none⟩) (by have := HZ.out; simp; omega)).trans c1; have d2 := (hw'.cell (p := ⟨w.heap.size + 1, 0, none⟩) HZ.out).trans c2; have d3 := (hw'.cell (p := ⟨w.heap.size + 1, 1, none⟩) HZ.out).trans c3; clear c0 c1 c2 c3; go_simp <;> with_reducible rfl)); (simp only [Act.put, List.setIfInBounds_toArray, List.set_cons_zero, List.set_cons_succ]))
  (refine plan3_take (o := ?_) (v := ?_) (by simp only [List.getElem?_toArray, List.getElem?_cons_succ, List.getElem?_cons_zero]; rfl) (yields_run (by rfl) ?_) ?_; rotate_left; (focus (intro w' hw'; obtain ⟨⟨c0, c1⟩, c2, c3⟩ := HBX.out; have d0 := (hw'.cell (p := ⟨w.heap.size, 0, none⟩) (by have := HZ.out; simp; omega)).trans c0; have d1 := (hw'.cell (p := ⟨w.heap.size, 1, none⟩) (by have := HZ.out; simp; omega)).trans c1; have d2 := (hw'.cell (p := ⟨w.heap.size + 1, 0, none⟩) HZ.out).trans c2; have d3 := (hw'.cell (p := ⟨w.heap.size + 1, 1, none⟩) HZ.out).trans c3; clear c0 c1 c2 c3; go_simp <;> with_reducible rfl)); (simp only [Act.put, List.setIfInBounds_toArray, List.set_cons_zero, List.set_cons_succ]))
  (refine plan3_take (o := ?_) (v := ?_) (by simp only [List.getElem?_toArray, List.getElem?_cons_succ, List.getElem?_cons_zero]; rfl) (yields_run (by rfl) ?_) ?_; rotate_left; (focus (intro w' hw'; obtain ⟨⟨c0, c1⟩, c2, c3⟩ := HBX.out; have d0 := (hw'.cell (p := ⟨w.heap.size, 0, none⟩) (by have := HZ.out; simp; omega)).trans c0; have d1 := (hw'.cell (p := ⟨w.heap.size, 1, none⟩) (by have := HZ.out; simp; omega)).trans c1; have d2 := (hw'.cell (p := ⟨w.heap.size + 1, 0, none⟩) HZ.out).trans c2; have d3 := (hw'.cell (p := ⟨w.heap.size + 1, 1, none⟩) HZ.out).trans c3; clear c0 c1 c2 c3; go_simp <;> with_reducible rfl)); (simp only [Act.put, List.setIfInBounds_toArray, List.set_cons_zero, List.set_cons_succ]))
  (refine plan3_take (o := ?_) (v := ?_) (by simp only [List.getElem?_toArray, List.getElem?_cons_succ, List.getElem?_cons_zero]; rfl) (yields_run (by rfl) ?_) ?_; rotate_left; (focus (intro w' hw'; obtain ⟨⟨c0, c1⟩, c2, c3⟩ := HBX.out; have d0 := (hw'.cell (p := ⟨w.heap.size, 0, none⟩) (by have := HZ.out; simp; omega)).trans c0; have d1 := (hw'.cell (p := ⟨w.heap.size, 1, none⟩) (by have := HZ.out; simp; omega)).trans c1; have d2 := (hw'.cell (p := ⟨w.heap.size + 1, 0, none⟩) HZ.out).trans c2; have d3 := (hw'.cell (p := ⟨w.heap.size + 1, 1, none⟩) HZ.out).trans c3; clear c0 c1 c2 c3; go_simp <;> with_reducible rfl)); (simp only [Act.put, List.setIfInBounds_toArray, List.set_cons_zero, List.set_cons_succ]))
  refine plan3_run (o := ?_) (by simp only [List.getElem?_toArray, List.getElem?_cons_succ, List.getElem?_cons_zero]; rfl) ?_
  intro R HR
  go_wp2_with fail
  refine (compareI_any _ _ _).mono ?_
  rintro e w' ⟨rfl, rfl⟩
  go_wp2_with fail
  refine HR.out _ _ HF0.out ?_
  clear HR
  refine plan3_run (o := ?_) (by simp only [List.getElem?_toArray, List.getElem?_cons_succ, List.getElem?_cons_zero]; rfl) ?_
  intro R HR
  go_wp2_with fail
  refine (compareI_any _ _ _).mono ?_
  rintro e w' ⟨rfl, rfl⟩
  go_wp2_with fail
  refine HR.out _ _ HF0.out ?_
  clear HR
  refine plan3_run (o := ?_) (by simp only [List.getElem?_toArray, List.getElem?_cons_succ, List.getElem?_cons_zero]; rfl) ?_
  intro R HR
  go_wp2_with fail
  have HF1 := hide (HF0.out.alloc HF0.out.size (.cells #[.int .i64 (cmpI p1 q1), .int .i64 (cmpI p2 q2)] 3))
  have HX1 := hide (Blk.new wD 3 [.int .i64 (cmpI p1 q1), .int .i64 (cmpI p2 q2)]).c2
  refine HR.out _ _ HF1.out ?_
  clear HR
  refine plan3_run (o := ?_) (by simp only [List.getElem?_toArray, List.getElem?_cons_succ, List.getElem?_cons_zero]; rfl) ?_
  intro R HR
  go_wp2_with fail
  refine (or_any _ _ _ _ _ HX1.out.1 HX1.out.2).mono ?_
  rintro e w' ⟨rfl, rfl⟩
  go_wp2_with fail
  refine HR.out _ _ HF1.out ?_
  clear HR
  (refine plan3_take (o := ?_) (v := ?_) (by simp only [List.getElem?_toArray, List.getElem?_cons_succ, List.getElem?_cons_zero]; rfl) (yields_run (by rfl) ?_) ?_; rotate_left; (focus (intro w' hw'; obtain ⟨⟨c0, c1⟩, c2, c3⟩ := HBX.out; have d0 := (hw'.cell (p := ⟨w.heap.size, 0, none⟩) (by have := HZ.out; simp; omega)).trans c0; have d1 := (hw'.cell (p := ⟨w.heap.size, 1, none⟩) (by have := HZ.out; simp; omega)).trans c1; have d2 := (hw'.cell (p := ⟨w.heap.size + 1, 0, none⟩) HZ.out).trans c2; have d3 := (hw'.cell (p := ⟨w.heap.size + 1, 1, none⟩) HZ.out).trans c3; clear c0 c1 c2 c3; go_simp <;> with_reducible rfl)); (simp only [Act.put, List.setIfInBounds_toArray, List.set_cons_zero, List.set_cons_succ]))
  refine plan3_done ?_
  have HFZ := HF1
  go_wp2_with fail
  go_ret
  exact ⟨by rw [HD.out]; rfl, HB.out.trans (HFZ.out.mono HB.out.size)⟩
end Go.Proofs.Ythmaakiibgdigaa
