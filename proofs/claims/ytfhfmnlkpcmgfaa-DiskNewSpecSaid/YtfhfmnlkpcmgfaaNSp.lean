/- DiskNewSpec: the walk. -/
import Derived.Test.YtfhfmnlkpcmgfaaRNew
import Derived.Test.YtfhfmnlkpcmgfaaWSp
namespace Go.Proofs.Ytfhfmnlkpcmgfaa
open Go.RowKit

/-- What New answers. -/
def Makes (n0 F : Nat) (n : Int) (Z : Dk) (m : Int) : Prop := ∀ w, n0 ≤ w.heap.size → Calls Try.prog F #[.int .i64 n] w fun e w' => ∃ d : Dsk, e = .returned (.tuple #[d.v, .int .i64 m]) ∧ d.d = Z ∧ d.In n0 w' ∧ Below w.heap.size w w'
theorem new_both (n0 : Nat) (n : Int) : ∃ Z m, Makes n0 12 n Z m ∧ Makes n0 13 n Z m := by
  by_cases h : n < 1 ∨ 4096 < n
  · exact ⟨Dk.zero, 1, fun w _ => (new_bad n w h).mono fun e w' ⟨h1, h2⟩ => ⟨Dsk.zero, h1, rfl, Dsk.zero_in _, h2⟩, fun w _ => (rnew_bad n w h).mono fun e w' ⟨h1, h2⟩ => ⟨Dsk.zero, h1, rfl, Dsk.zero_in _, h2⟩⟩
  · obtain ⟨k, rfl⟩ : ∃ k : Nat, n = k := ⟨n.toNat, by omega⟩
    exact ⟨_, 0, fun w _ => new_ok k w (by omega) (by omega), fun w _ => rnew_ok k w (by omega) (by omega)⟩

set_option maxRecDepth 100000 in
set_option maxHeartbeats 6400000 in
theorem nspec_walk (n : Int) (d : Dsk) (w : World) (hi : d.In w.heap.size w) (hsh : Short d) :
    Calls Try.prog 3 #[.int .i64 n, d.v] w fun e w' => e = .returned (.bool true) ∧ Below w.heap.size w w' := by
  have H0 := hide (env_one (m := []) hi (fun s hs => by cases hs))
  have HSH := hide hsh
  obtain ⟨Z, m, hz1, hz2⟩ := new_both w.heap.size n
  have HZ1 := hide hz1
  have HZ2 := hide hz2
  clear hi hsh hz1 hz2
  go_enter Try.func3, Try.ntmps3
  go_wp2_with fail
  refine (sane_any _).mono ?_
  rintro e w1 ⟨rfl, hb⟩
  have H1 := hide (H0.out.below hb)
  clear hb H0
  obtain ⟨hbx, -, -, hix⟩ := H1.out.box (w.heap.size, d) (by simp)
  obtain ⟨c0, c1, c2, c3⟩ := hbx.c4
  have HFW := hide (few_any d w1 hix HSH.out.1 HSH.out.2)
  clear hbx hix
  have hg : (decide (60 < n) = true ∧ decide (n ≤ 4096) = true) ∨ decide (60 < n) = false ∨ (decide (60 < n) = true ∧ decide (n ≤ 4096) = false) := by
    simp only [decide_eq_true_eq, decide_eq_false_iff_not]; omega
  rcases hg with ⟨g1, g2⟩ | hg
  · go_wp2_with fail
    go_ret
    exact ⟨rfl, H1.out.bel⟩
  · rcases hg with g1 | ⟨g1, g2⟩
    all_goals
      go_wp2_with fail
      refine HFW.out.mono ?_
      rintro e w2 ⟨f, rfl, hb⟩
      have H2 := hide (H1.out.below hb)
      clear hb H1 HFW c0 c1 c2 c3
      cases f with
      | false =>
        go_wp2_with fail
        go_ret
        exact ⟨rfl, H2.out.bel⟩
      | true =>
        have HN1 := hide (HZ1.out w2 (H2.out.bel.size))
        go_wp2_with fail
        refine HN1.out.mono ?_
        rintro e w3 ⟨x, rfl, hx, hi3, hb⟩
        have HX := hide hx
        have H3 := hide ((H2.out.below hb).new (Nat.le_refl _) hi3)
        clear hx hi3 hb H2 HN1
        have HN1 := hide (HZ2.out (w3.alloc (.cells #[.slice x.sa x.ss.length x.sc, .slice x.pa x.ps.length x.pc, .int .i64 x.left, .bool x.stp] 25)) (H3.out.bel.size))
        go_wp2_with fail
        refine HN1.out.mono ?_
        rintro e w4 ⟨y, rfl, hy, hi4, hb⟩
        have HXY := hide (show x.d = y.d by rw [HX.out, hy])
        have H4 := hide ((H3.out.below hb).new (Nat.le_refl _) hi4)
        clear hy hi4 hb H3 HN1 HX HZ1 HZ2
        go_upto_region 7 with (fail)
        have HE1 := hide H4.out.drew
        refine wp_region_plan3 (fun w' => (Blk w' w4.heap.size 25 y.cs ∧ Blk w' w3.heap.size 25 x.cs) ∧ Blk w' w.heap.size 25 d.cs) (.take 0 (.take 1 (.run 2 (.take 3 (.take 4 (.take 5 (.take 6 (.take 7 (.take 8 (.take 9 (.take 11 (.run 10 (.run 12 (.take 13 (.take 14 (.take 15 (.take 16 (.take 18 (.run 17 (.run 19 (.run 20 (.take 21 (.run 22 .done))))))))))))))))))))))) (by kernel_rfl) (by kernel_rfl) ⟨⟨(HE1.out.box (w4.heap.size, y) (by simp)).1, (HE1.out.box (w3.heap.size, x) (by simp)).1⟩, (HE1.out.box (w.heap.size, d) (by simp)).1⟩ ?_
        (refine plan3_take (o := ?_) (v := ?_) (by simp only [List.getElem?_toArray, List.getElem?_cons_zero]; rfl) (yields_run (by rfl) ?_) ?_; rotate_left; (focus (intro w' hw'; obtain ⟨q0, q1, q2, q3⟩ := hw'.1.2.c4; go_simp <;> with_reducible rfl)); (simp only [Act.put, List.setIfInBounds_toArray, List.set_cons_zero, List.set_cons_succ]))
        (refine plan3_take (o := ?_) (v := ?_) (by simp only [List.getElem?_toArray, List.getElem?_cons_succ, List.getElem?_cons_zero]; rfl) (yields_run (by rfl) ?_) ?_; rotate_left; (focus (intro w' hw'; obtain ⟨q0, q1, q2, q3⟩ := hw'.1.1.c4; go_simp <;> with_reducible rfl)); (simp only [Act.put, List.setIfInBounds_toArray, List.set_cons_zero, List.set_cons_succ]))
        refine plan3_run (o := ?_) (by simp only [List.getElem?_toArray, List.getElem?_cons_succ, List.getElem?_cons_zero]; rfl) ?_
        intro R HR
        go_wp2_with fail
        refine (same_any x y _ (HE1.out.box (w3.heap.size, x) (by simp)).2.2.2 (HE1.out.box (w4.heap.size, y) (by simp)).2.2.2 HXY.out).mono ?_
        rintro e v2 ⟨rfl, hb⟩
        have HE2 := hide (HE1.out.below hb)
        clear hb
        go_wp2_with fail
        refine HR.out _ _ ⟨⟨(HE2.out.box (w4.heap.size, y) (by simp)).1, (HE2.out.box (w3.heap.size, x) (by simp)).1⟩, (HE2.out.box (w.heap.size, d) (by simp)).1⟩ ?_
        clear HR
        (refine plan3_take (o := ?_) (v := ?_) (by simp only [List.getElem?_toArray, List.getElem?_cons_succ, List.getElem?_cons_zero]; rfl) (yields_run (by rfl) ?_) ?_; rotate_left; (focus (intro w' hw'; skip; go_simp <;> with_reducible rfl)); (simp only [Act.put, List.setIfInBounds_toArray, List.set_cons_zero, List.set_cons_succ]))
        (refine plan3_take (o := ?_) (v := ?_) (by simp only [List.getElem?_toArray, List.getElem?_cons_succ, List.getElem?_cons_zero]; rfl) (yields_run (by rfl) ?_) ?_; rotate_left; (focus (intro w' hw'; skip; go_simp <;> with_reducible rfl)); (simp only [Act.put, List.setIfInBounds_toArray, List.set_cons_zero, List.set_cons_succ]))
        (refine plan3_take (o := ?_) (v := ?_) (by simp only [List.getElem?_toArray, List.getElem?_cons_succ, List.getElem?_cons_zero]; rfl) (yields_run (by rfl) ?_) ?_; rotate_left; (focus (intro w' hw'; skip; go_simp <;> with_reducible rfl)); (simp only [Act.put, List.setIfInBounds_toArray, List.set_cons_zero, List.set_cons_succ]))
        (refine plan3_take (o := ?_) (v := ?_) (by simp only [List.getElem?_toArray, List.getElem?_cons_succ, List.getElem?_cons_zero]; rfl) (yields_run (by rfl) ?_) ?_; rotate_left; (focus (intro w' hw'; skip; go_simp <;> with_reducible rfl)); (simp only [Act.put, List.setIfInBounds_toArray, List.set_cons_zero, List.set_cons_succ]))
        (refine plan3_take (o := ?_) (v := ?_) (by simp only [List.getElem?_toArray, List.getElem?_cons_succ, List.getElem?_cons_zero]; rfl) (yields_run (by rfl) ?_) ?_; rotate_left; (focus (intro w' hw'; skip; go_simp <;> with_reducible rfl)); (simp only [Act.put, List.setIfInBounds_toArray, List.set_cons_zero, List.set_cons_succ]))
        (refine plan3_take (o := ?_) (v := ?_) (by simp only [List.getElem?_toArray, List.getElem?_cons_succ, List.getElem?_cons_zero]; rfl) (yields_run (by rfl) ?_) ?_; rotate_left; (focus (intro w' hw'; skip; go_simp <;> with_reducible rfl)); (simp only [Act.put, List.setIfInBounds_toArray, List.set_cons_zero, List.set_cons_succ]))
        (refine plan3_take (o := ?_) (v := ?_) (by simp only [List.getElem?_toArray, List.getElem?_cons_succ, List.getElem?_cons_zero]; rfl) (yields_run (by rfl) ?_) ?_; rotate_left; (focus (intro w' hw'; obtain ⟨q0, q1, q2, q3⟩ := hw'.2.c4; go_simp <;> with_reducible rfl)); (simp only [Act.put, List.setIfInBounds_toArray, List.set_cons_zero, List.set_cons_succ]))
        (refine plan3_take (o := ?_) (v := ?_) (by simp only [List.getElem?_toArray, List.getElem?_cons_succ, List.getElem?_cons_zero]; rfl) (yields_run (by rfl) ?_) ?_; rotate_left; (focus (intro w' hw'; obtain ⟨q0, q1, q2, q3⟩ := hw'.2.c4; go_simp <;> with_reducible rfl)); (simp only [Act.put, List.setIfInBounds_toArray, List.set_cons_zero, List.set_cons_succ]))
        refine plan3_run (o := ?_) (by simp only [List.getElem?_toArray, List.getElem?_cons_succ, List.getElem?_cons_zero]; rfl) ?_
        intro R HR
        go_wp2_with fail
        refine (check_any d _ (HE2.out.box (w.heap.size, d) (by simp)).2.2.2).mono ?_
        rintro e v3 ⟨rfl, hb⟩
        have HE3 := hide (HE2.out.below hb)
        clear hb
        go_wp2_with fail
        refine HR.out _ _ ⟨⟨(HE3.out.box (w4.heap.size, y) (by simp)).1, (HE3.out.box (w3.heap.size, x) (by simp)).1⟩, (HE3.out.box (w.heap.size, d) (by simp)).1⟩ ?_
        clear HR
        refine plan3_run (o := ?_) (by simp only [List.getElem?_toArray, List.getElem?_cons_succ, List.getElem?_cons_zero]; rfl) ?_
        intro R HR
        go_wp2_with fail
        refine (rcheck_any d _ (HE3.out.box (w.heap.size, d) (by simp)).2.2.2).mono ?_
        rintro e v4 ⟨rfl, hb⟩
        have HE4 := hide (HE3.out.below hb)
        clear hb
        go_wp2_with fail
        refine HR.out _ _ ⟨⟨(HE4.out.box (w4.heap.size, y) (by simp)).1, (HE4.out.box (w3.heap.size, x) (by simp)).1⟩, (HE4.out.box (w.heap.size, d) (by simp)).1⟩ ?_
        clear HR
        (refine plan3_take (o := ?_) (v := ?_) (by simp only [List.getElem?_toArray, List.getElem?_cons_succ, List.getElem?_cons_zero]; rfl) (yields_run (by rfl) ?_) ?_; rotate_left; (focus (intro w' hw'; skip; go_simp <;> with_reducible rfl)); (simp only [Act.put, List.setIfInBounds_toArray, List.set_cons_zero, List.set_cons_succ]))
        (refine plan3_take (o := ?_) (v := ?_) (by simp only [List.getElem?_toArray, List.getElem?_cons_succ, List.getElem?_cons_zero]; rfl) (yields_run (by rfl) ?_) ?_; rotate_left; (focus (intro w' hw'; skip; go_simp <;> with_reducible rfl)); (simp only [Act.put, List.setIfInBounds_toArray, List.set_cons_zero, List.set_cons_succ]))
        (refine plan3_take (o := ?_) (v := ?_) (by simp only [List.getElem?_toArray, List.getElem?_cons_succ, List.getElem?_cons_zero]; rfl) (yields_run (by rfl) ?_) ?_; rotate_left; (focus (intro w' hw'; skip; go_simp <;> with_reducible rfl)); (simp only [Act.put, List.setIfInBounds_toArray, List.set_cons_zero, List.set_cons_succ]))
        (refine plan3_take (o := ?_) (v := ?_) (by simp only [List.getElem?_toArray, List.getElem?_cons_succ, List.getElem?_cons_zero]; rfl) (yields_run (by rfl) ?_) ?_; rotate_left; (focus (intro w' hw'; obtain ⟨q0, q1, q2, q3⟩ := hw'.2.c4; go_simp <;> with_reducible rfl)); (simp only [Act.put, List.setIfInBounds_toArray, List.set_cons_zero, List.set_cons_succ]))
        (refine plan3_take (o := ?_) (v := ?_) (by simp only [List.getElem?_toArray, List.getElem?_cons_succ, List.getElem?_cons_zero]; rfl) (yields_run (by rfl) ?_) ?_; rotate_left; (focus (intro w' hw'; obtain ⟨q0, q1, q2, q3⟩ := hw'.2.c4; go_simp <;> with_reducible rfl)); (simp only [Act.put, List.setIfInBounds_toArray, List.set_cons_zero, List.set_cons_succ]))
        refine plan3_run (o := ?_) (by simp only [List.getElem?_toArray, List.getElem?_cons_succ, List.getElem?_cons_zero]; rfl) ?_
        intro R HR
        go_wp2_with fail
        refine (restart_is _ rfl (HE4.out.box (w.heap.size, d) (by simp)).2.2.2).mono ?_
        rintro e v5 ⟨r1, rfl, hr1, hj1, hb⟩
        have HR1 := hide hr1
        have HJ1 := hide hj1
        clear hr1 hj1
        have HE5 := hide (HE4.out.below hb)
        clear hb
        go_wp2_with fail
        refine HR.out _ _ ⟨⟨(HE5.out.box (w4.heap.size, y) (by simp)).1, (HE5.out.box (w3.heap.size, x) (by simp)).1⟩, (HE5.out.box (w.heap.size, d) (by simp)).1⟩ ?_
        clear HR
        refine plan3_run (o := ?_) (by simp only [List.getElem?_toArray, List.getElem?_cons_succ, List.getElem?_cons_zero]; rfl) ?_
        intro R HR
        go_wp2_with fail
        refine (rrestart_any d _ (HE5.out.box (w.heap.size, d) (by simp)).2.2.2).mono ?_
        rintro e v6 ⟨r2, rfl, hr2, hj2, hb⟩
        have HR2 := hide hr2
        have HJ2 := hide hj2
        have HJ3 := hide (HJ1.out.below hb)
        clear hr2 hj2
        have HE6 := hide (HE5.out.below hb)
        clear hb
        go_wp2_with fail
        refine HR.out _ _ ⟨⟨(HE6.out.box (w4.heap.size, y) (by simp)).1, (HE6.out.box (w3.heap.size, x) (by simp)).1⟩, (HE6.out.box (w.heap.size, d) (by simp)).1⟩ ?_
        clear HR
        refine plan3_run (o := ?_) (by simp only [List.getElem?_toArray, List.getElem?_cons_succ, List.getElem?_cons_zero]; rfl) ?_
        intro R HR
        go_wp2_with fail
        refine (same_any r1 r2 _ HJ3.out HJ2.out (by rw [HR1.out, HR2.out])).mono ?_
        rintro e v7 ⟨rfl, hb⟩
        have HE7 := hide (HE6.out.below hb)
        clear hb
        go_wp2_with fail
        refine HR.out _ _ ⟨⟨(HE7.out.box (w4.heap.size, y) (by simp)).1, (HE7.out.box (w3.heap.size, x) (by simp)).1⟩, (HE7.out.box (w.heap.size, d) (by simp)).1⟩ ?_
        clear HR
        (refine plan3_take (o := ?_) (v := ?_) (by simp only [List.getElem?_toArray, List.getElem?_cons_succ, List.getElem?_cons_zero]; rfl) (yields_run (by rfl) ?_) ?_; rotate_left; (focus (intro w' hw'; skip; go_simp <;> with_reducible rfl)); (simp only [Act.put, List.setIfInBounds_toArray, List.set_cons_zero, List.set_cons_succ]))
        refine plan3_run (o := ?_) (by simp only [List.getElem?_toArray, List.getElem?_cons_succ, List.getElem?_cons_zero]; rfl) ?_
        intro R HR
        go_wp2_with fail
        refine HR.out _ _ ⟨⟨(HE7.out.box (w4.heap.size, y) (by simp)).1, (HE7.out.box (w3.heap.size, x) (by simp)).1⟩, (HE7.out.box (w.heap.size, d) (by simp)).1⟩ ?_
        clear HR
        refine plan3_done ?_
        go_wp2_with fail
        go_ret
        exact ⟨rfl, HE7.out.bel⟩
end Go.Proofs.Ytfhfmnlkpcmgfaa
