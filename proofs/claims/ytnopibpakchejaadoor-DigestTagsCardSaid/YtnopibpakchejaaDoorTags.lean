/- DigestTags. -/
import Derived.Test.YtnopibpakchejaaDoorApp
namespace Go.Proofs.YtnopibpakchejaaDoor
open Go.RowKit

/-- What every walk of a law ends in. -/
abbrev LawPost (w : World) (e : Ending) (w' : World) : Prop := e = .returned (.bool true) ∧ Below w.heap.size w w'

set_option maxRecDepth 10000 in
set_option maxHeartbeats 1000000 in
theorem tags_small (s : ByteArray) (a : Option Addr) (n cap : Nat) (l : List UInt8) (w : World) (hT : Tab w) (hS : Src w a n cap l) (hs : s.size ≤ 600) (hn : n ≤ 600) :
    Calls Tryd.prog 5 #[.string s, .slice a n cap] w (LawPost w) := by
  have HT := hide hT
  have HS := hide hS
  have HSA := hide (sane_any w hT)
  have HTG := hide (fun (W : World) (hW : Below w.heap.size w W) => tagged_any s a n cap l W (hT.below hW) (hS.sb.below hW) hS.len (by omega) (by omega) hS.nil)
  have HCP := hide (fun W => cv_post s W (by omega))
  have c1 : decide (600 < s.size) = false := by simp; omega
  have c2 : decide ((600 : Int) < (n : Int)) = false := by simp; omega
  have c3 : decide ((600 : Int) < (s.size : Int)) = false := by simp; omega
  clear hT hS
  go_enter Tryd.func5, Tryd.ntmps5
  go_wp2_with fail
  with_reducible refine HSA.out.mono ?_
  rintro e w1 ⟨rfl, hb⟩
  have HB1 := hide hb
  clear hb
  have hcv := cv_run s
  go_wp2_with fail
  refine name_world ?_
  intro W2 HW2
  clear hcv
  have HA : Hid (Bs W2 w1.heap.size 0 s.data.toList ∧ Below w.heap.size w W2 ∧ s.size ≤ cvC s w1 ∧ cvC s w1 ≤ 9223372036854775807) := by
    have h := HCP.out w1
    have e := HW2.out
    subst e
    exact hide ⟨h.2.2.1, below_one HB1.out h.2.2.2.1, h.1, h.2.1⟩
  clear HW2 HB1 HCP
  with_reducible refine (sum_is (some ⟨w1.heap.size, 0, none⟩) s.size (cvC s w1) s.data.toList W2 (HT.out.below HA.out.2.1) (Sb.of HA.out.1) (by simp) HA.out.2.2.1 HA.out.2.2.2 (by omega)).mono ?_
  rintro e w3 ⟨rfl, hb⟩
  have HB3 := hide (below_one HA.out.2.1 hb)
  clear HA hb
  have HLS := hide (sha_len s.data.toList)
  have HMO := hide (show tagd s.data.toList l = sha (sha s.data.toList ++ l) by unfold tagd; rfl)
  generalize sha s.data.toList = D at *
  have HSZ := hide (dv_size _ HLS.out)
  have HZ := hide (show (Tryd.prog.info? 26).map (·.size) = some ((bc D).toArray).size by rw [HSZ.out]; exact Tryd.size26)
  have HO := hide (all_oneCell_toArray (bc_one D))
  go_wp2_with (refine wpList_store_row rfl 26 (.tmp 5) (.tmp 18) rfl w3.heap.size _ rfl rfl 26 _ (heap_alloc_new w3 _) HZ.out (by rw [HSZ.out]; rfl) HO.out ?_)
  simp only [Act.put]
  refine name_code ?_
  intro W4 HW4
  have HA : Hid (RS w w3.heap.size D W4) := by
    have e := HW4.out
    rw [e]
    exact hide (hide ⟨setRow_heap _ _ _ _ _ _ (heap_alloc_new w3 _), below_one HB3.out (below_setRow (below_new w3 _) (Nat.le_refl _) _), HB3.out.size⟩)
  clear HW4 HB3
  have HAD : Hid (RS w w3.heap.size D W4.drew) := hide (hide ⟨HA.out.out.1.drew, HA.out.out.2.1.drew, HA.out.out.2.2⟩)
  rw [HMO.out] at HTG
  clear HMO HZ HO c1 c2 c3
  have HLEN := hide (show 32 + n = (D ++ l).length by rw [List.length_append, HLS.out, HS.out.len])
  refine wp_region_plan (RS w w3.heap.size D) (.take 0 (.take 1 (.take 4 (.take 6 (.both 2 (.run 3 (.run 5 (.run 7 (.run 8 (.take 9 (.take 10 .done)))))) 3 (.run 2 (.run 5 (.run 7 (.run 8 (.take 9 (.take 10 .done))))))))))) (by kernel_rfl) (by kernel_rfl) HAD.out ?_
  (refine plan_take (o := ?_) (v := ?_) (by simp only [List.getElem?_toArray, List.getElem?_cons_zero]; rfl) (yields_run (by rfl) ?_) ?_; rotate_left; (focus (intro w' _; go_simp <;> with_reducible rfl)); (simp only [Act.put, List.setIfInBounds_toArray, List.set_cons_zero, List.set_cons_succ]))
  (refine plan_take (o := ?_) (v := ?_) (by simp only [List.getElem?_toArray, List.getElem?_cons_succ, List.getElem?_cons_zero]; rfl) (yields_run (by rfl) ?_) ?_; rotate_left; (focus (intro w' _; go_simp <;> with_reducible rfl)); (simp only [Act.put, List.setIfInBounds_toArray, List.set_cons_zero, List.set_cons_succ]))
  (refine plan_take (o := ?_) (v := ?_) (by simp only [List.getElem?_toArray, List.getElem?_cons_succ, List.getElem?_cons_zero]; rfl) (yields_run (by rfl) ?_) ?_; rotate_left; (focus (intro w' _; go_simp <;> with_reducible rfl)); (simp only [Act.put, List.setIfInBounds_toArray, List.set_cons_zero, List.set_cons_succ]))
  (refine plan_take (o := ?_) (v := ?_) (by simp only [List.getElem?_toArray, List.getElem?_cons_succ, List.getElem?_cons_zero]; rfl) (yields_run (by rfl) ?_) ?_; rotate_left; (focus (intro w' _; go_simp <;> with_reducible rfl)); (simp only [Act.put, List.setIfInBounds_toArray, List.set_cons_zero, List.set_cons_succ]))
  refine plan_both (o1 := ?_) (o2 := ?_) (by simp only [List.getElem?_toArray, List.getElem?_cons_succ, List.getElem?_cons_zero]; rfl) (by simp only [List.getElem?_toArray, List.getElem?_cons_succ, List.getElem?_cons_zero]; rfl) ?_ ?_
  · intro R HR
    go_wp2_with fail
    with_reducible refine (HTG.out _ (RS.bel HAD.out)).mono ?_
    rintro e wT ⟨rfl, hbT⟩
    have HST := hide (RS.keep hbT HAD.out)
    go_wp2_with fail
    refine HR.out _ _ HST.out ?_
    refine plan_run (o := ?_) (by simp only [List.getElem?_toArray, List.getElem?_cons_succ, List.getElem?_cons_zero]; rfl) ?_
    clear HR
    intro R HR
    go_wp2_with fail
    have HS2 := hide (RS.keep (below_new wT (.cells #[] 5)) HST.out)
    have hown := own_empty wT (w3.heap.size + 1) 5 5 1 rfl (RS.size HST.out)
    refine HR.out _ _ HS2.out ?_
    clear HR hbT HST
    refine plan_run (o := ?_) (by simp only [List.getElem?_toArray, List.getElem?_cons_succ, List.getElem?_cons_zero]; rfl) ?_
    intro R HR
    refine wpList_of_wp (by rfl) (wp_app5 (.tmp 22) (.tmp 23) rfl (w3.heap.size + 1) _ 0 [] rfl hown (some ⟨w3.heap.size, 0, none⟩) 32 32 D rfl (RS.src HS2.out HLS.out) (by decide) (RS.size HS2.out) 32 D rfl rfl ?_)
    intro v1 wA hA1 hgA
    have HS3 := hide (RS.grow hgA hown HS2.out)
    clear hgA hown HS2
    obtain ⟨gA, cA, rfl, hA2, hA3, _, hA4, hA5⟩ := own_form hA1 (by decide)
    refine HR.out _ _ HS3.out ?_
    clear HR
    (simp only [Act.put, List.setIfInBounds_toArray, List.set_cons_zero, List.set_cons_succ])
    refine plan_run (o := ?_) (by simp only [List.getElem?_toArray, List.getElem?_cons_succ, List.getElem?_cons_zero]; rfl) ?_
    intro R HR
    refine wpList_of_wp (by rfl) (wp_app5 (.tmp 24) (.tmp 25) rfl (w3.heap.size + 1) _ 32 D rfl hA2 a n cap l rfl (HS.out.below (RS.bel HS3.out)) (by omega) (RS.size HS3.out) (32 + n) (D ++ l) rfl rfl ?_)
    intro v2 wB hB1 hgB
    have HS4 := hide (RS.grow hgB hA2 HS3.out)
    clear hgB hA1 hA2 hA3 hA4 hA5 HS3
    obtain ⟨gB, cB, rfl, hB2, hB3, _, hB4, hB5⟩ := own_form hB1 (by omega)
    refine HR.out _ _ HS4.out ?_
    clear HR
    (simp only [Act.put, List.setIfInBounds_toArray, List.set_cons_zero, List.set_cons_succ])
    refine plan_run (o := ?_) (by simp only [List.getElem?_toArray, List.getElem?_cons_succ, List.getElem?_cons_zero]; rfl) ?_
    intro R HR
    have HB3 := hide (And.intro hB3 (And.intro hB4 hB5))
    clear hB1 hB2 hB3 hB4 hB5
    go_wp2_with fail
    with_reducible refine (sum_is (some ⟨gB, 0, none⟩) (32 + n) cB (D ++ l) _ (HT.out.below (RS.bel HS4.out)) (Sb.of HB3.out.1) HLEN.out HB3.out.2.1 HB3.out.2.2 (by omega)).mono ?_
    rintro e wC ⟨rfl, hbC⟩
    have HS5 := hide (RS.keep hbC HS4.out)
    clear hbC HS4 HB3
    go_wp2_with fail
    refine HR.out _ _ HS5.out ?_
    clear HR
    (refine plan_take (o := ?_) (by simp only [List.getElem?_toArray, List.getElem?_cons_succ, List.getElem?_cons_zero]; rfl) (yields_eql (by rfl) (.tmp 21) (.tmp 27) 26 rfl (sha (D ++ l)) (sha (D ++ l)) rfl rfl (sha_len _) (sha_len _) true (by simp)) ?_; (simp only [Act.put, List.setIfInBounds_toArray, List.set_cons_zero, List.set_cons_succ]))
    (refine plan_take (o := ?_) (v := ?_) (by simp only [List.getElem?_toArray, List.getElem?_cons_succ, List.getElem?_cons_zero]; rfl) (yields_run (by rfl) ?_) ?_; rotate_left; (focus (intro w' _; go_simp <;> with_reducible rfl)); (simp only [Act.put, List.setIfInBounds_toArray, List.set_cons_zero, List.set_cons_succ]))
    refine plan_done ?_
    go_wp2_with fail
    go_ret
    exact ⟨rfl, HS5.out.bel⟩
  · intro R HR
    go_wp2_with fail
    have HST := hide (RS.keep (below_new W4 (.cells #[] 5)).drew HA.out)
    have hown0 := (own_empty W4 (w3.heap.size + 1) 5 5 1 rfl (RS.size HA.out)).drew
    refine HR.out _ _ HST.out ?_
    refine plan_run (o := ?_) (by simp only [List.getElem?_toArray, List.getElem?_cons_succ, List.getElem?_cons_zero]; rfl) ?_
    clear HR
    intro R HR
    go_wp2_with fail
    with_reducible refine (HTG.out _ (RS.bel HST.out)).mono ?_
    rintro e wT ⟨rfl, hbT⟩
    have HS2 := hide (RS.keep hbT HST.out)
    have hown := own_below hown0 hbT
    clear hown0 HST hbT
    go_wp2_with fail
    refine HR.out _ _ HS2.out ?_
    clear HR
    refine plan_run (o := ?_) (by simp only [List.getElem?_toArray, List.getElem?_cons_succ, List.getElem?_cons_zero]; rfl) ?_
    intro R HR
    refine wpList_of_wp (by rfl) (wp_app5 (.tmp 22) (.tmp 23) rfl (w3.heap.size + 1) _ 0 [] rfl hown (some ⟨w3.heap.size, 0, none⟩) 32 32 D rfl (RS.src HS2.out HLS.out) (by decide) (RS.size HS2.out) 32 D rfl rfl ?_)
    intro v1 wA hA1 hgA
    have HS3 := hide (RS.grow hgA hown HS2.out)
    clear hgA hown HS2
    obtain ⟨gA, cA, rfl, hA2, hA3, _, hA4, hA5⟩ := own_form hA1 (by decide)
    refine HR.out _ _ HS3.out ?_
    clear HR
    (simp only [Act.put, List.setIfInBounds_toArray, List.set_cons_zero, List.set_cons_succ])
    refine plan_run (o := ?_) (by simp only [List.getElem?_toArray, List.getElem?_cons_succ, List.getElem?_cons_zero]; rfl) ?_
    intro R HR
    refine wpList_of_wp (by rfl) (wp_app5 (.tmp 24) (.tmp 25) rfl (w3.heap.size + 1) _ 32 D rfl hA2 a n cap l rfl (HS.out.below (RS.bel HS3.out)) (by omega) (RS.size HS3.out) (32 + n) (D ++ l) rfl rfl ?_)
    intro v2 wB hB1 hgB
    have HS4 := hide (RS.grow hgB hA2 HS3.out)
    clear hgB hA1 hA2 hA3 hA4 hA5 HS3
    obtain ⟨gB, cB, rfl, hB2, hB3, _, hB4, hB5⟩ := own_form hB1 (by omega)
    refine HR.out _ _ HS4.out ?_
    clear HR
    (simp only [Act.put, List.setIfInBounds_toArray, List.set_cons_zero, List.set_cons_succ])
    refine plan_run (o := ?_) (by simp only [List.getElem?_toArray, List.getElem?_cons_succ, List.getElem?_cons_zero]; rfl) ?_
    intro R HR
    have HB3 := hide (And.intro hB3 (And.intro hB4 hB5))
    clear hB1 hB2 hB3 hB4 hB5
    go_wp2_with fail
    with_reducible refine (sum_is (some ⟨gB, 0, none⟩) (32 + n) cB (D ++ l) _ (HT.out.below (RS.bel HS4.out)) (Sb.of HB3.out.1) HLEN.out HB3.out.2.1 HB3.out.2.2 (by omega)).mono ?_
    rintro e wC ⟨rfl, hbC⟩
    have HS5 := hide (RS.keep hbC HS4.out)
    clear hbC HS4 HB3
    go_wp2_with fail
    refine HR.out _ _ HS5.out ?_
    clear HR
    (refine plan_take (o := ?_) (by simp only [List.getElem?_toArray, List.getElem?_cons_succ, List.getElem?_cons_zero]; rfl) (yields_eql (by rfl) (.tmp 21) (.tmp 27) 26 rfl (sha (D ++ l)) (sha (D ++ l)) rfl rfl (sha_len _) (sha_len _) true (by simp)) ?_; (simp only [Act.put, List.setIfInBounds_toArray, List.set_cons_zero, List.set_cons_succ]))
    (refine plan_take (o := ?_) (v := ?_) (by simp only [List.getElem?_toArray, List.getElem?_cons_succ, List.getElem?_cons_zero]; rfl) (yields_run (by rfl) ?_) ?_; rotate_left; (focus (intro w' _; go_simp <;> with_reducible rfl)); (simp only [Act.put, List.setIfInBounds_toArray, List.set_cons_zero, List.set_cons_succ]))
    refine plan_done ?_
    go_wp2_with fail
    go_ret
    exact ⟨rfl, HS5.out.bel⟩

set_option maxHeartbeats 400000 in
theorem tags_walk (s : ByteArray) (a : Option Addr) (n cap : Nat) (l : List UInt8) (w : World) (hT : Tab w) (hS : Src w a n cap l) (hs : s.size ≤ 9223372036854775807) (hn : n ≤ 9223372036854775807) :
    Calls Tryd.prog 5 #[.string s, .slice a n cap] w (LawPost w) := by
  have HSA := hide (sane_any w hT)
  by_cases h1 : s.size ≤ 600
  · by_cases h2 : n ≤ 600
    · exact tags_small s a n cap l w hT hS h1 h2
    · have c1 : decide (600 < s.size) = false := by simp; omega
      have c2 : decide ((600 : Int) < (n : Int)) = true := by simp; omega
      have c3 : decide ((600 : Int) < (s.size : Int)) = false := by simp; omega
      clear hS hT
      go_enter Tryd.func5, Tryd.ntmps5
      go_wp2_with fail
      with_reducible refine HSA.out.mono ?_
      rintro e w1 ⟨rfl, hb⟩
      have HB1 := hide hb
      clear hb
      go_wp2_with fail
      go_ret
      exact ⟨rfl, HB1.out⟩
  · have c1 : decide (600 < s.size) = true := by simp; omega
    have c3 : decide ((600 : Int) < (s.size : Int)) = true := by simp; omega
    clear hS hT
    go_enter Tryd.func5, Tryd.ntmps5
    go_wp2_with fail
    with_reducible refine HSA.out.mono ?_
    rintro e w1 ⟨rfl, hb⟩
    have HB1 := hide hb
    clear hb
    go_wp2_with fail
    go_ret
    exact ⟨rfl, HB1.out⟩
end Go.Proofs.YtnopibpakchejaaDoor
