/- The reader of signs and comments. -/
import Derived.Test.YtemapfhiiefieaaDoorRead
namespace Go.Proofs.YtemapfhiiefieaaDoor
open Go.RowKit

set_option maxRecDepth 10000 in
set_option maxHeartbeats 4000000 in
theorem readSign_any (S : Nat) (l : List UInt8) (a : Nat) (v : Value) (ts : List Tk) (w : World) (h : Sc S l a v ts w) (ha : a < l.length) (hl : l.length ≤ 1000000) (hts : ts.length ≤ 1000000) (hc : cls l[a] = 2) :
    Calls Tryd.prog 44 #[.pointer (some ⟨S, 0, none⟩)] w (ReadPost S l a ts w) := by
  have HSC := hide h
  have HST := hide (show stp (l.drop a) = if (l.drop a).take 2 = [47, 47] then some (((l.drop a).takeWhile isLn).length, none) else some (1, some (3, [l[a]], 0)) by
    have e := drop_head ha
    generalize l.drop a = r at *
    subst e
    simp only [stp, hc]
    rfl)
  have HR := hide (rest_any S l a v ts w h (by omega))
  have HTL := hide (show ((l.drop a).takeWhile isLn).length ≤ l.length - a by have := takeWhile_le (p := isLn) (l.drop a); rw [List.length_drop] at this; exact this)
  have HRL := hide (show (l.drop a).length ≤ 1000000 by rw [List.length_drop]; omega)
  have HT1 := hide (show str ((l.drop a).take 1) = str [l[a]] by rw [drop_head ha]; rfl)
  have hrl : (str (l.drop a)).size = (l.drop a).length := str_size _
  have hl1 : 1 ≤ (l.drop a).length := by rw [List.length_drop]; omega
  clear h hc
  go_enter Tryd.func44, Tryd.ntmps44
  go_wp2_with fail
  refine HR.out.mono ?_
  rintro e w1 ⟨rfl, q, rfl⟩
  have HS1 := hide (HSC.out.drewN q)
  go_wp2_with fail
  refine (prefix_any (l.drop a) (w.drewN q) HRL.out).mono ?_
  rintro e w2 ⟨rfl, rfl⟩
  by_cases hp : (l.drop a).take 2 = [47, 47]
  · have hpb : ((l.drop a).take 2 == [47, 47]) = true := by rw [hp]; rfl
    have HPR := hide hp
    have ha9 : (a : Int) + (((l.drop a).takeWhile isLn).length : Int) ≤ 1000000 := by have := HTL.out; omega
    clear hp
    go_wp2_with fail
    refine wp_region_plan3 (fun _ => True) (.take 0 (.take 1 (.take 2 (.take 4 (.both 3 (.run 5 (.take 6 (.take 7 (.take 8 (.take 9 (.run 10 .done)))))) 5 (.take 6 (.run 3 (.take 7 (.take 8 (.take 9 (.run 10 .done))))))))))) (by kernel_rfl) (by kernel_rfl) trivial ?_
    refine plan3_named ?_
    intro Wd HWd
    have HSD : Hid (Sc S l a v ts Wd) := by
      have e : Wd = (w.drewN q).drew := HWd.out
      subst e
      exact hide HS1.out.drew
    have HBD : Hid (Below S w Wd) := by
      have e : Wd = (w.drewN q).drew := HWd.out
      subst e
      exact hide (below_dn S w q).drew
    clear HWd
    (refine plan3_take (o := ?_) (v := ?_) (by simp only [List.getElem?_toArray, List.getElem?_cons_zero]; rfl) (yields_run (by rfl) ?_) ?_; rotate_left; (focus (intro w' _; go_simp <;> with_reducible rfl)); (simp only [Act.put, List.setIfInBounds_toArray, List.set_cons_zero, List.set_cons_succ]))
    (refine plan3_take (o := ?_) (v := ?_) (by simp only [List.getElem?_toArray, List.getElem?_cons_succ, List.getElem?_cons_zero]; rfl) (yields_run (by rfl) ?_) ?_; rotate_left; (focus (intro w' _; go_simp <;> with_reducible rfl)); (simp only [Act.put, List.setIfInBounds_toArray, List.set_cons_zero, List.set_cons_succ]))
    (refine plan3_take (o := ?_) (v := ?_) (by simp only [List.getElem?_toArray, List.getElem?_cons_succ, List.getElem?_cons_zero]; rfl) (yields_run (by rfl) ?_) ?_; rotate_left; (focus (intro w' _; go_simp <;> with_reducible rfl)); (simp only [Act.put, List.setIfInBounds_toArray, List.set_cons_zero, List.set_cons_succ]))
    (refine plan3_take (o := ?_) (v := ?_) (by simp only [List.getElem?_toArray, List.getElem?_cons_succ, List.getElem?_cons_zero]; rfl) (yields_run (by rfl) ?_) ?_; rotate_left; (focus (intro w' _; go_simp <;> with_reducible rfl)); (simp only [Act.put, List.setIfInBounds_toArray, List.set_cons_zero, List.set_cons_succ]))
    refine plan3_both (o1 := ?_) (o2 := ?_) (by simp only [List.getElem?_toArray, List.getElem?_cons_succ, List.getElem?_cons_zero]; rfl) (by simp only [List.getElem?_toArray, List.getElem?_cons_succ, List.getElem?_cons_zero]; rfl) ?_ ?_
    · intro R0 HR
      obtain ⟨_, hx, _, _⟩ := HSD.out.cells
      go_wp2_with fail
      refine HR.out _ _ trivial ?_
      clear HR hx
      refine plan3_run (o := ?_) (by simp only [List.getElem?_toArray, List.getElem?_cons_succ, List.getElem?_cons_zero]; rfl) ?_
      intro R0 HR
      go_wp2_with fail
      refine (beg_line (l.drop a) Wd (by have := HRL.out; omega)).mono ?_
      rintro e wz ⟨rfl, rfl⟩
      have hts' := str_size ((l.drop a).takeWhile isLn)
      go_wp2_with fail
      refine HR.out _ _ trivial ?_
      clear HR
      (refine plan3_take (o := ?_) (v := ?_) (by simp only [List.getElem?_toArray, List.getElem?_cons_succ, List.getElem?_cons_zero]; rfl) (yields_run (by rfl) ?_) ?_; rotate_left; (focus (intro w' _; go_simp <;> with_reducible rfl)); (simp only [Act.put, List.setIfInBounds_toArray, List.set_cons_zero, List.set_cons_succ]))
      (refine plan3_take (o := ?_) (v := ?_) (by simp only [List.getElem?_toArray, List.getElem?_cons_succ, List.getElem?_cons_zero]; rfl) (yields_run (by rfl) ?_) ?_; rotate_left; (focus (intro w' _; go_simp <;> with_reducible rfl)); (simp only [Act.put, List.setIfInBounds_toArray, List.set_cons_zero, List.set_cons_succ]))
      (refine plan3_take (o := ?_) (v := ?_) (by simp only [List.getElem?_toArray, List.getElem?_cons_succ, List.getElem?_cons_zero]; rfl) (yields_run (by rfl) ?_) ?_; rotate_left; (focus (intro w' _; go_simp <;> with_reducible rfl)); (simp only [Act.put, List.setIfInBounds_toArray, List.set_cons_zero, List.set_cons_succ]))
      (refine plan3_take (o := ?_) (v := ?_) (by simp only [List.getElem?_toArray, List.getElem?_cons_succ, List.getElem?_cons_zero]; rfl) (yields_run (by rfl) ?_) ?_; rotate_left; (focus (intro w' _; go_simp <;> with_reducible rfl)); (simp only [Act.put, List.setIfInBounds_toArray, List.set_cons_zero, List.set_cons_succ]))
      refine plan3_run (o := ?_) (by simp only [List.getElem?_toArray, List.getElem?_cons_succ, List.getElem?_cons_zero]; rfl) ?_
      intro R0 HR
      obtain ⟨_, hx, _, hxf⟩ := HSD.out.cells
      go_wp2_with fail
      refine HR.out _ _ trivial ?_
      clear HR hx hxf
      refine plan3_done ?_
      have hcast : ((a + ((l.drop a).takeWhile isLn).length : Nat) : Int) = (a : Int) + (((l.drop a).takeWhile isLn).length : Int) := by omega
      have HM := hide (HSD.out.move (a + ((l.drop a).takeWhile isLn).length))
      rw [hcast] at HM
      have HB := hide (HBD.out.setCell (p := ⟨S, 1, none⟩) (Nat.le_refl S) (.int .i64 ((a : Int) + (((l.drop a).takeWhile isLn).length : Int))))
      clear hcast
      go_wp2_with fail
      go_end0
      unfold ReadPost
      rw [HST.out, if_pos HPR.out]
      exact ⟨rfl, ⟨_, HM.out⟩, HB.out⟩
    · intro R0 HR
      go_wp2_with fail
      refine (beg_line (l.drop a) Wd (by have := HRL.out; omega)).mono ?_
      rintro e wz ⟨rfl, rfl⟩
      have hts' := str_size ((l.drop a).takeWhile isLn)
      go_wp2_with fail
      refine HR.out _ _ trivial ?_
      clear HR
      (refine plan3_take (o := ?_) (v := ?_) (by simp only [List.getElem?_toArray, List.getElem?_cons_succ, List.getElem?_cons_zero]; rfl) (yields_run (by rfl) ?_) ?_; rotate_left; (focus (intro w' _; go_simp <;> with_reducible rfl)); (simp only [Act.put, List.setIfInBounds_toArray, List.set_cons_zero, List.set_cons_succ]))
      refine plan3_run (o := ?_) (by simp only [List.getElem?_toArray, List.getElem?_cons_succ, List.getElem?_cons_zero]; rfl) ?_
      intro R0 HR
      obtain ⟨_, hx, _, _⟩ := HSD.out.cells
      go_wp2_with fail
      refine HR.out _ _ trivial ?_
      clear HR hx
      (refine plan3_take (o := ?_) (v := ?_) (by simp only [List.getElem?_toArray, List.getElem?_cons_succ, List.getElem?_cons_zero]; rfl) (yields_run (by rfl) ?_) ?_; rotate_left; (focus (intro w' _; go_simp <;> with_reducible rfl)); (simp only [Act.put, List.setIfInBounds_toArray, List.set_cons_zero, List.set_cons_succ]))
      (refine plan3_take (o := ?_) (v := ?_) (by simp only [List.getElem?_toArray, List.getElem?_cons_succ, List.getElem?_cons_zero]; rfl) (yields_run (by rfl) ?_) ?_; rotate_left; (focus (intro w' _; go_simp <;> with_reducible rfl)); (simp only [Act.put, List.setIfInBounds_toArray, List.set_cons_zero, List.set_cons_succ]))
      (refine plan3_take (o := ?_) (v := ?_) (by simp only [List.getElem?_toArray, List.getElem?_cons_succ, List.getElem?_cons_zero]; rfl) (yields_run (by rfl) ?_) ?_; rotate_left; (focus (intro w' _; go_simp <;> with_reducible rfl)); (simp only [Act.put, List.setIfInBounds_toArray, List.set_cons_zero, List.set_cons_succ]))
      refine plan3_run (o := ?_) (by simp only [List.getElem?_toArray, List.getElem?_cons_succ, List.getElem?_cons_zero]; rfl) ?_
      intro R0 HR
      obtain ⟨_, hx, _, hxf⟩ := HSD.out.cells
      go_wp2_with fail
      refine HR.out _ _ trivial ?_
      clear HR hx hxf
      refine plan3_done ?_
      have hcast : ((a + ((l.drop a).takeWhile isLn).length : Nat) : Int) = (a : Int) + (((l.drop a).takeWhile isLn).length : Int) := by omega
      have HM := hide (HSD.out.move (a + ((l.drop a).takeWhile isLn).length))
      rw [hcast] at HM
      have HB := hide (HBD.out.setCell (p := ⟨S, 1, none⟩) (Nat.le_refl S) (.int .i64 ((a : Int) + (((l.drop a).takeWhile isLn).length : Int))))
      clear hcast
      go_wp2_with fail
      go_end0
      unfold ReadPost
      rw [HST.out, if_pos HPR.out]
      exact ⟨rfl, ⟨_, HM.out⟩, HB.out⟩
  · have hpb : ((l.drop a).take 2 == [47, 47]) = false := by rw [beq_eq_false_iff_ne]; exact hp
    have HPR := hide hp
    have hsl := str_take (l.drop a) 1
    rw [HT1.out] at hsl
    have i1 : (1 : Int) ≤ ((l.drop a).length : Int) := by omega
    have HAD := hide (add_any S l a v ts 3 [l[a]] 0 1 (w.drewN q) HS1.out (by omega) hl hts)
    clear hp
    go_wp2_with fail
    refine HAD.out.mono ?_
    rintro e w4 ⟨rfl, hrp⟩
    have HRP := hide hrp
    clear hrp
    go_wp2_with fail
    go_end0
    unfold ReadPost
    rw [HST.out, if_neg HPR.out]
    exact ⟨rfl, HRP.out.1, (below_dn S w q).trans HRP.out.2⟩
end Go.Proofs.YtemapfhiiefieaaDoor
