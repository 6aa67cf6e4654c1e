/- MerkleClimbSpec answers true. -/
import Derived.Test.YthjfeodclphgaaaDoorRco
import Derived.Test.YthjfeodclphgaaaDoorBw
namespace Go.Proofs.YthjfeodclphgaaaDoor
open Go.RowKit Go.Shelf
set_option maxRecDepth 20000 in
set_option maxHeartbeats 6400000 in
theorem climbspec_walk (n i : Int) (LA LB : Option Addr) (lca lcb : Nat) (la lb : List UInt8) (A A2 : Option Addr) (m c m2 c2 : Nat) (p q : List (List UInt8)) (w : World) (hT : Tab w) (hla : Src w LA la.length lca la) (hlac : la.length ≤ 9223372036854775807) (hlb : Src w LB lb.length lcb lb) (hlbc : lb.length ≤ 9223372036854775807)
    (hp : DSrc w A m c p) (hq : DSrc w A2 m2 c2 q) :
    Calls Tryd.prog 12 #[.int .i64 n, .int .i64 i, .slice LA la.length lca, .slice LB lb.length lcb, .slice A m c, .slice A2 m2 c2] w (LawPost w) := by
  have HT := hide hT
  have HA := hide (And.intro hla (And.intro hlb (And.intro hp hq)))
  have HZ := hide (fun (r : List UInt8) (hr : r.length = 32) => show (Tryd.prog.info? 26).map (·.size) = some ((bc r).toArray).size by rw [dv_size _ hr]; exact Tryd.size26)
  have HS := hide (sane_any w hT)
  have hm63 : m ≤ 9223372036854775807 := Nat.le_trans hp.le hp.top
  have hm263 : m2 ≤ 9223372036854775807 := Nat.le_trans hq.le hq.top
  have HML := hide (And.intro hp.len hq.len)
  clear hT hla hlb hp hq
  by_cases g1 : la.length ≤ 200
  · by_cases g2 : lb.length ≤ 200
    · by_cases g3 : m ≤ 20
      · by_cases g4 : m2 ≤ 20
        · have g1' : ¬ (200 : Int) < (la.length : Int) := by omega
          have g2' : ¬ (200 : Int) < (lb.length : Int) := by omega
          have g3' : ¬ (20 : Int) < (m : Int) := by omega
          have g4' : ¬ (20 : Int) < (m2 : Int) := by omega
          go_enter Tryd.func12, Tryd.ntmps12
          go_wp2_with fail
          refine HS.out.mono ?_
          rintro e w1 ⟨rfl, hb⟩
          have HB1 := hide hb
          clear hb HS
          have HC1 := hide (Climb_any n i LA lca la A m c p w1 (HT.out.below HB1.out) (HA.out.1.sb.below HB1.out) HA.out.1.nil (by omega) (HA.out.2.2.1.below HB1.out))
          have HC2 := hide (fun (W : World) (h : Below w.heap.size w W) => rClimb_any n i LA la lca A c p W (HA.out.1.below h) (by omega) (HML.out.1 ▸ HA.out.2.2.1.below h))
          have HCO := hide (fun (W : World) (h : Below w.heap.size w W) => (Collide_any n i LA LB lca lcb la lb A A2 m c m2 c2 p q W (HT.out.below h) (HA.out.1.sb.below h) HA.out.1.nil (by omega) (HA.out.2.1.sb.below h) HA.out.2.1.nil (by omega) (HA.out.2.2.1.below h) (HA.out.2.2.2.below h)).mono fun e w' h => cou_of h)
          have HRO := hide (fun (W : World) (h : Below w.heap.size w W) => rCollide_any n i LA LB lca lcb la lb A A2 c c2 p q W (HA.out.1.below h) (HA.out.2.1.below h) (by omega) (by omega) (HML.out.1 ▸ HA.out.2.2.1.below h) (HML.out.2 ▸ HA.out.2.2.2.below h))
          rw [← HML.out.1] at HC2 HRO
          rw [← HML.out.2] at HRO
          have HD := hide (climbAns_32 n i la p)
          clear HA
          generalize collAns n i la lb p q = R at *
          generalize climbAns n i la p = r1 at *
          obtain ⟨d1, e1⟩ := r1
          simp only at HC1 HC2 HD
          go_wp2_with fail
          refine HC1.out.mono ?_
          rintro e w2 ⟨rfl, hb⟩
          have HB2 := hide (below_one HB1.out hb)
          clear hb HC1
          go_wp2_with (refine wpList_store_row rfl 26 (.tmp 13) (.tmp 49) rfl w2.heap.size (bc d1).toArray rfl rfl 26 _ (heap_alloc_new w2 _) (HZ.out _ HD.out) (by rw [dv_size _ HD.out]; rfl) (all_oneCell_toArray (bc_one d1)) ?_)
          refine name_world ?_
          intro W3 hW
          have e := hW.out
          have H3 := hide (box_set HB2.out d1 e)
          clear hW e HB2
          refine (HC2.out W3 H3.out.2.1).mono ?_
          rintro e w4 ⟨rfl, hb⟩
          have H4 := hide (And.intro (H3.out.1.below hb H3.out.1.lt) (below_one H3.out.2.1 hb))
          clear hb HC2 H3
          go_wp2_with (refine wpList_store_row rfl 26 (.tmp 15) (.tmp 57) rfl w4.heap.size (bc d1).toArray rfl rfl 26 _ (heap_alloc_new w4 _) (HZ.out _ HD.out) (by rw [dv_size _ HD.out]; rfl) (all_oneCell_toArray (bc_one d1)) ?_)
          refine name_world ?_
          intro W5 hW
          have e := hW.out
          have H5 := hide (show Blk W5 w2.heap.size 26 (bc d1) ∧ Blk W5 w4.heap.size 26 (bc d1) ∧ Below w.heap.size w W5 from ⟨H4.out.1.below (box_set H4.out.2 d1 e).2.2 H4.out.1.lt, (box_set H4.out.2 d1 e).1, (box_set H4.out.2 d1 e).2.1⟩)
          clear hW e H4
          refine (HCO.out W5 H5.out.2.2).mono ?_
          rintro e w6 ⟨A7, B7, ca7, cb7, rfl, a1, a2, a7⟩
          have H6 := hide (show Blk w6 w2.heap.size 26 (bc d1) ∧ Blk w6 w4.heap.size 26 (bc d1) ∧ Below w.heap.size w w6 from ⟨H5.out.1.below a7 H5.out.1.lt, H5.out.2.1.below a7 H5.out.2.1.lt, below_one H5.out.2.2 a7⟩)
          have HX6 := hide (And.intro a1 a2)
          clear a1 a2 a7 H5 HCO
          go_wp2_with fail
          refine (HRO.out w6 H6.out.2.2).mono ?_
          rintro e w7 ⟨A8, B8, ca8, cb8, rfl, a1, a2, a7⟩
          have H7 := hide (show Blk w7 w2.heap.size 26 (bc d1) ∧ Blk w7 w4.heap.size 26 (bc d1) ∧ Below w.heap.size w w7 from ⟨H6.out.1.below a7 H6.out.1.lt, H6.out.2.1.below a7 H6.out.2.1.lt, below_one H6.out.2.2 a7⟩)
          have hv0 := sb_conv (cap := ca7) (HX6.out.1.below a7)
          have hv1 := sb_conv (cap := cb7) (HX6.out.2.below a7)
          have hv2 := sb_conv (cap := ca8) a1
          have hv3 := sb_conv (cap := cb8) a2
          clear a1 a2 a7 H6 HRO HX6
          generalize (R.getD ([], [])).1 = x1 at *
          generalize (R.getD ([], [])).2 = x2 at *
          have hs0 : ((str x1).toList == (str x1).toList) = true := by simp
          have hs1 : ((str x2).toList == (str x2).toList) = true := by simp
          generalize str x1 = s1 at *
          generalize str x2 = s2 at *
          have hv : true = (d1 == d1) := by simp
          have HVE := hide hv
          clear hv
          generalize R.isSome = rb at *
          cases rb
          · go_wp2_with (first | (refine wpList_load_w rfl 26 (.tmp 13) rfl w2.heap.size rfl 26 _ (0, 0) _ H7.out.1 Tryd.underlying26 rfl (HZ.out d1 HD.out) ?_) | (refine wpList_load_w rfl 26 (.tmp 15) rfl w4.heap.size rfl 26 _ (0, 0) _ H7.out.2.1 Tryd.underlying26 rfl (HZ.out d1 HD.out) ?_) | (refine wpList_eql2 rfl (.tmp 81) (.tmp 82) 26 rfl d1 d1 rfl rfl HD.out HD.out _ HVE.out ?_))
            go_ret
            exact ⟨rfl, H7.out.2.2⟩
          · go_wp2_with (first | (refine wpList_load_w rfl 26 (.tmp 13) rfl w2.heap.size rfl 26 _ (0, 0) _ H7.out.1 Tryd.underlying26 rfl (HZ.out d1 HD.out) ?_) | (refine wpList_load_w rfl 26 (.tmp 15) rfl w4.heap.size rfl 26 _ (0, 0) _ H7.out.2.1 Tryd.underlying26 rfl (HZ.out d1 HD.out) ?_) | (refine wpList_eql2 rfl (.tmp 81) (.tmp 82) 26 rfl d1 d1 rfl rfl HD.out HD.out _ HVE.out ?_))
            go_ret
            exact ⟨rfl, H7.out.2.2⟩
        · have g1' : ¬ (200 : Int) < (la.length : Int) := by omega
          have g2' : ¬ (200 : Int) < (lb.length : Int) := by omega
          have g3' : ¬ (20 : Int) < (m : Int) := by omega
          have g4' : (20 : Int) < (m2 : Int) := by omega
          go_enter Tryd.func12, Tryd.ntmps12
          go_wp2_with fail
          refine HS.out.mono ?_
          rintro e w1 ⟨rfl, hb⟩
          have HB1 := hide hb
          clear hb HS
          go_wp2_with fail
          go_ret
          exact ⟨rfl, HB1.out⟩
      · have g1' : ¬ (200 : Int) < (la.length : Int) := by omega
        have g2' : ¬ (200 : Int) < (lb.length : Int) := by omega
        have g3' : (20 : Int) < (m : Int) := by omega
        go_enter Tryd.func12, Tryd.ntmps12
        go_wp2_with fail
        refine HS.out.mono ?_
        rintro e w1 ⟨rfl, hb⟩
        have HB1 := hide hb
        clear hb HS
        go_wp2_with fail
        go_ret
        exact ⟨rfl, HB1.out⟩
    · have g1' : ¬ (200 : Int) < (la.length : Int) := by omega
      have g2' : (200 : Int) < (lb.length : Int) := by omega
      go_enter Tryd.func12, Tryd.ntmps12
      go_wp2_with fail
      refine HS.out.mono ?_
      rintro e w1 ⟨rfl, hb⟩
      have HB1 := hide hb
      clear hb HS
      go_wp2_with fail
      go_ret
      exact ⟨rfl, HB1.out⟩
  · have g1' : (200 : Int) < (la.length : Int) := by omega
    go_enter Tryd.func12, Tryd.ntmps12
    go_wp2_with fail
    refine HS.out.mono ?_
    rintro e w1 ⟨rfl, hb⟩
    have HB1 := hide hb
    clear hb HS
    go_wp2_with fail
    go_ret
    exact ⟨rfl, HB1.out⟩
end Go.Proofs.YthjfeodclphgaaaDoor
