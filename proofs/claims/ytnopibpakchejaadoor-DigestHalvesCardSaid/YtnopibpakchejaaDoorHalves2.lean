/- DigestHalves, all lists. -/
import Derived.Test.YtnopibpakchejaaDoorHalves
namespace Go.Proofs.YtnopibpakchejaaDoor
open Go.RowKit

set_option maxRecDepth 10000 in
set_option maxHeartbeats 1000000 in
theorem halves_zero (a : Option Addr) (n cap : Nat) (l : List UInt8) (w : World) (hT : Tab w) (hS : Src w a n cap l) (hn : n ≤ 9223372036854775807) (hN : (digsOf l).length = 0) :
    Calls Tryd.prog 7 #[.slice a n cap] w (LawPost w) := by
  have HT := hide hT
  have HSA := hide (sane_any w hT)
  have HDG := hide (fun (W : World) (hW : Below w.heap.size w W) => digestsOf_any a n cap l W (hS.sb.below hW) hS.len hn)
  have HDL := hide (digsOf_d32 l)
  clear hT hS
  generalize digsOf l = L at *
  have HN := hide hN
  clear hN
  go_enter Tryd.func7, Tryd.ntmps7
  go_wp2_with fail
  with_reducible refine HSA.out.mono ?_
  rintro e w1 ⟨rfl, hb⟩
  have HB1 := hide hb
  clear hb
  go_wp2_with fail
  with_reducible refine (HDG.out _ HB1.out).mono ?_
  rintro e w2 ⟨v, rfl, hown, hb⟩
  have HB2 := hide (below_one HB1.out hb)
  obtain ⟨A, c, rfl, hD⟩ := own_dsrc hown HDL.out rfl
  have HDS := hide hD
  rw [HN.out]
  rw [HN.out] at HDS
  clear hown hb hD HB1 HSA HDG
  have HT2 := hide (HT.out.below HB2.out)
  have hL : L = [] := List.length_eq_zero_iff.1 HN.out
  subst hL
  have HTF := hide (fun (W : World) (hW : Below w2.heap.size w2 W) => tree_any [] 0 c A W (HT2.out.below hW) HDL.out (HDS.out.ds.below hW) rfl (by decide) HDS.out.le HDS.out.top)
  rw [treeL_nil] at HTF
  go_wp2_with fail
  with_reducible refine (HTF.out _ (Below.refl _ _)).mono ?_
  rintro e w3 ⟨rfl, hb⟩
  have HB3 := hide hb
  clear hb
  go_wp2_with fail
  with_reducible refine (tag_empty _ (HT2.out.below HB3.out)).mono ?_
  rintro e w4 ⟨rfl, hb⟩
  have HB4 := hide (below_one HB3.out hb)
  clear hb
  have HLE := hide (tagd_len tEmpty [])
  generalize tagd tEmpty [] = E at *
  go_wp2_with (refine wpList_eql rfl (.tmp 16) (.tmp 17) 26 rfl E E rfl rfl HLE.out HLE.out true (by simp) ?_)
  go_ret
  exact ⟨rfl, below_one HB2.out HB4.out⟩

set_option maxRecDepth 10000 in
set_option maxHeartbeats 1000000 in
theorem halves_one (a : Option Addr) (n cap : Nat) (l : List UInt8) (w : World) (hT : Tab w) (hS : Src w a n cap l) (hn : n ≤ 9223372036854775807) (hN : (digsOf l).length = 1) :
    Calls Tryd.prog 7 #[.slice a n cap] w (LawPost w) := by
  have HT := hide hT
  have HSA := hide (sane_any w hT)
  have HDG := hide (fun (W : World) (hW : Below w.heap.size w W) => digestsOf_any a n cap l W (hS.sb.below hW) hS.len hn)
  have HDL := hide (digsOf_d32 l)
  clear hT hS
  generalize digsOf l = L at *
  have HN := hide hN
  clear hN
  go_enter Tryd.func7, Tryd.ntmps7
  go_wp2_with fail
  with_reducible refine HSA.out.mono ?_
  rintro e w1 ⟨rfl, hb⟩
  have HB1 := hide hb
  clear hb
  go_wp2_with fail
  with_reducible refine (HDG.out _ HB1.out).mono ?_
  rintro e w2 ⟨v, rfl, hown, hb⟩
  have HB2 := hide (below_one HB1.out hb)
  obtain ⟨A, c, rfl, hD⟩ := own_dsrc hown HDL.out rfl
  have HDS := hide hD
  rw [HN.out]
  rw [HN.out] at HDS
  clear hown hb hD HB1 HSA HDG
  have HT2 := hide (HT.out.below HB2.out)
  obtain ⟨d, hL⟩ : ∃ d, L = [d] := by
    have := HN.out
    match L, this with
    | [d], _ => exact ⟨d, rfl⟩
  subst hL
  obtain ⟨b, o, rfl, hBs⟩ := HDS.out.ds.at HDS.out.d32 (by simp)
  have HTF := hide (fun (W : World) (hW : Below w2.heap.size w2 W) => tree_any [d] 1 c (some ⟨b, o, none⟩) W (HT2.out.below hW) HDL.out (HDS.out.ds.below hW) rfl (by decide) HDS.out.le HDS.out.top)
  rw [treeL_one] at HTF
  have hdl : d.length = 32 := HDL.out d (by simp)
  have hBd : Bs w2 b o d := by simpa using hBs
  have HTG := hide (fun (W : World) (hW : Below w2.heap.size w2 W) => tagged_any ⟨#[108, 101, 97, 102]⟩ (some ⟨b, o, none⟩) 32 32 d W (HT2.out.below hW) (Sb.of (hBd.below hW (hBd.lt (by omega)))) hdl.symm (by decide) (by decide) (fun h => by cases h))
  clear hBs hBd hdl
  change Hid (∀ (W : World), Below w2.heap.size w2 W → Calls Tryd.prog 14 #[.string ⟨#[108, 101, 97, 102]⟩, .slice (some ⟨b, o, none⟩) 32 32] W fun e w' => e = .returned (dv (tagd tLeaf d)) ∧ Below W.heap.size W w') at HTG
  have HLE := hide (tagd_len tLeaf d)
  generalize tagd tLeaf d = E at *
  go_wp2_with fail
  refine name_code ?_
  intro W0 HW0
  obtain rfl : W0 = w2 := HW0.out
  refine wp_region_plan (fun W => Hid (Below W0.heap.size W0 W)) (.take 0 (.take 2 (.take 3 (.take 4 (.run 1 (.run 5 (.take 6 (.take 7 .done)))))))) (by kernel_rfl) (by kernel_rfl) (hide (Below.refl _ _).drew) ?_
  (refine plan_take (o := ?_) (v := ?_) (by simp only [List.getElem?_toArray, List.getElem?_cons_zero]; rfl) (yields_run (by rfl) ?_) ?_; rotate_left; (focus (intro w' _; go_simp <;> with_reducible rfl)); (simp only [Act.put, List.setIfInBounds_toArray, List.set_cons_zero, List.set_cons_succ]))
  (refine plan_take (o := ?_) (v := ?_) (by simp only [List.getElem?_toArray, List.getElem?_cons_succ, List.getElem?_cons_zero]; rfl) (yields_run (by rfl) ?_) ?_; rotate_left; (focus (intro w' _; go_simp <;> with_reducible rfl)); (simp only [Act.put, List.setIfInBounds_toArray, List.set_cons_zero, List.set_cons_succ]))
  (refine plan_take (o := ?_) (v := ?_) (by simp only [List.getElem?_toArray, List.getElem?_cons_succ, List.getElem?_cons_zero]; rfl) (yields_run (by rfl) ?_) ?_; rotate_left; (focus (intro w' _; go_simp <;> with_reducible rfl)); (simp only [Act.put, List.setIfInBounds_toArray, List.set_cons_zero, List.set_cons_succ]))
  (refine plan_take (o := ?_) (v := ?_) (by simp only [List.getElem?_toArray, List.getElem?_cons_succ, List.getElem?_cons_zero]; rfl) (yields_run (by rfl) ?_) ?_; rotate_left; (focus (intro w' _; go_simp <;> with_reducible rfl)); (simp only [Act.put, List.setIfInBounds_toArray, List.set_cons_zero, List.set_cons_succ]))
  refine plan_run (o := ?_) (by simp only [List.getElem?_toArray, List.getElem?_cons_succ, List.getElem?_cons_zero]; rfl) ?_
  intro R HR
  go_wp2_with fail
  with_reducible refine (HTF.out _ (Below.refl _ _).drew).mono ?_
  rintro e w3 ⟨rfl, hb⟩
  have HB3 := hide (hide (below_one ((Below.refl _ _).drew : Below W0.heap.size W0 W0.drew) hb))
  clear hb
  go_wp2_with fail
  refine HR.out _ _ HB3.out ?_
  clear HR
  refine plan_run (o := ?_) (by simp only [List.getElem?_toArray, List.getElem?_cons_succ, List.getElem?_cons_zero]; rfl) ?_
  intro R HR
  go_wp2_with fail
  with_reducible refine (HTG.out _ HB3.out.out).mono ?_
  rintro e w4 ⟨rfl, hb⟩
  have HB4 := hide (hide (below_one HB3.out.out hb))
  clear hb
  go_wp2_with fail
  refine HR.out _ _ HB4.out ?_
  clear HR
  (refine plan_take (o := ?_) (by simp only [List.getElem?_toArray, List.getElem?_cons_succ, List.getElem?_cons_zero]; rfl) (yields_eql (by rfl) (.tmp 22) (.tmp 26) 26 rfl E E rfl rfl HLE.out HLE.out true (by simp)) ?_; (simp only [Act.put, List.setIfInBounds_toArray, List.set_cons_zero, List.set_cons_succ]))
  (refine plan_take (o := ?_) (v := ?_) (by simp only [List.getElem?_toArray, List.getElem?_cons_succ, List.getElem?_cons_zero]; rfl) (yields_run (by rfl) ?_) ?_; rotate_left; (focus (intro w' _; go_simp <;> with_reducible rfl)); (simp only [Act.put, List.setIfInBounds_toArray, List.set_cons_zero, List.set_cons_succ]))
  refine plan_done ?_
  go_wp2_with fail
  go_ret
  exact ⟨rfl, below_one HB2.out HB4.out.out⟩

theorem halves_walk (a : Option Addr) (n cap : Nat) (l : List UInt8) (w : World) (hT : Tab w) (hS : Src w a n cap l) (hn : n ≤ 9223372036854775807) : Calls Tryd.prog 7 #[.slice a n cap] w (LawPost w) := by
  by_cases h0 : (digsOf l).length = 0
  · exact halves_zero a n cap l w hT hS hn h0
  · by_cases h1 : (digsOf l).length = 1
    · exact halves_one a n cap l w hT hS hn h1
    · exact halves_two a n cap l w hT hS hn (by omega)
end Go.Proofs.YtnopibpakchejaaDoor
