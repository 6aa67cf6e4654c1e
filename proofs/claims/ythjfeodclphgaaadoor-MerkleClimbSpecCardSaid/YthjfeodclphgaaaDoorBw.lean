/- MerkleBound's walk. -/
import Derived.Test.YthjfeodclphgaaaDoorLw
namespace Go.Proofs.YthjfeodclphgaaaDoor
open Go.RowKit Go.Shelf
theorem head_le {p : List (List UInt8)} (h : D32 p) : (p.headD []).length ≤ 32 := by
  cases p with
  | nil => simp
  | cons x p => simp only [List.headD_cons]; have := h x (List.mem_cons_self ..); omega
theorem tail_32 {p : List (List UInt8)} (h : D32 p) : D32 p.tail := by
  cases p with
  | nil => exact D32.nil
  | cons x p => exact fun d hd => h d (List.mem_cons_of_mem _ hd)
theorem stepT_le {i : Nat} {d e : List UInt8} (hd : d.length = 32) (he : e.length ≤ 32) : (stepT tagN i d e).length ≤ 96 := by
  have ht : tagN.length = 32 := sha_len _
  unfold stepT nodeT
  split <;> (rw [List.length_append, List.length_append, ht]; omega)
theorem common_len : ∀ (k n i : Nat) (x y : List UInt8) (p q : List (List UInt8)), n ≤ k → D32 p → D32 q → x.length ≤ 1000 → y.length ≤ 1000 → (commonR sha tagN n i x y p q).1.length ≤ 1000 ∧ (commonR sha tagN n i x y p q).2.length ≤ 1000
  | k, n, i, x, y, p, q, hk, hp, hq, hx, hy => by
    by_cases h1 : n ≤ 1
    · rw [commonR_one sha tagN h1]; exact ⟨hx, hy⟩
    · by_cases he : sha x = sha y
      · rw [commonR_eq sha tagN he]; exact ⟨hx, hy⟩
      · cases k with
        | zero => omega
        | succ k =>
          cases ha : aloneB n i with
          | true => rw [commonR_alone sha tagN (by omega) he ha]; exact common_len k _ _ _ _ _ _ (by omega) hp hq hx hy
          | false =>
            rw [commonR_two sha tagN (by omega) he ha]
            exact common_len k _ _ _ _ _ _ (by omega) (tail_32 hp) (tail_32 hq) (Nat.le_trans (stepT_le (sha_len _) (head_le hp)) (by decide)) (Nat.le_trans (stepT_le (sha_len _) (head_le hq)) (by decide))
/-- What collide answers where it answers something. -/
theorem coll_some {n i : Int} {a b : List UInt8} {p q : List (List UInt8)} (hp : D32 p) (hq : D32 q) (ha : a.length ≤ 200) (hb : b.length ≤ 200) (h1 : (climbAns n i a p).2 = 0) (h2 : (climbAns n i b q).2 = 0) (hd : (climbAns n i a p).1 = (climbAns n i b q).1) (hab : a ≠ b) :
    ∃ R0 : List UInt8 × List UInt8, collAns n i a b p q = some R0 ∧ R0.1 ≠ R0.2 ∧ sha R0.1 = sha R0.2 ∧ R0.1.length ≤ 1000 ∧ R0.2.length ≤ 1000 := by
  obtain ⟨g1, g2⟩ := climb_zero h1
  obtain ⟨_, g3⟩ := climb_zero h2
  rw [climbAns_yes g1 g2, climbAns_yes g1 g3] at hd
  have hne : tagL ++ a ≠ tagL ++ b := fun h => hab (List.append_cancel_left h)
  obtain ⟨c1, c2⟩ := common_two sha tagN sha_len n.toNat n.toNat i.toNat (tagL ++ a) (tagL ++ b) p q (Nat.le_refl _) hne hp hq g2 g3 hd
  have hT : tagL.length = 32 := sha_len _
  obtain ⟨c3, c4⟩ := common_len n.toNat n.toNat i.toNat (tagL ++ a) (tagL ++ b) p q (Nat.le_refl _) hp hq (by rw [List.length_append, hT]; omega) (by rw [List.length_append, hT]; omega)
  refine ⟨_, if_neg ?_, c1, c2, c3, c4⟩
  rw [climbAns_yes g1 g2, climbAns_yes g1 g3]
  rintro (h | h | h | h)
  · exact h rfl
  · exact h rfl
  · exact h hd
  · exact hab h
theorem str_ne (l m : List UInt8) (h : l ≠ m) : ((str l).toList == (str m).toList) = false := by rw [str_eq]; exact decide_eq_false h
theorem str_ne' (l m : List UInt8) (h : l ≠ m) : ((str l).toList != (str m).toList) = true := by unfold bne; rw [str_ne l m h]; rfl
theorem str_is (l m : List UInt8) (h : l = m) : ((str l).toList == (str m).toList) = true := by rw [str_eq]; exact decide_eq_true h
set_option maxRecDepth 20000 in
set_option maxHeartbeats 6400000 in
theorem bound_walk (n i : Int) (LA LB : Option Addr) (lca lcb : Nat) (la lb : List UInt8) (A A2 : Option Addr) (m c m2 c2 : Nat) (p q : List (List UInt8)) (w : World) (hT : Tab w) (hla : Src w LA la.length lca la) (hlac : la.length ≤ 9223372036854775807) (hlb : Src w LB lb.length lcb lb) (hlbc : lb.length ≤ 9223372036854775807)
    (hp : DSrc w A m c p) (hq : DSrc w A2 m2 c2 q) :
    Calls Tryd.prog 14 #[.int .i64 n, .int .i64 i, .slice LA la.length lca, .slice LB lb.length lcb, .slice A m c, .slice A2 m2 c2] w (LawPost w) := by
  have HT := hide hT
  have HA := hide (And.intro hla (And.intro hlb (And.intro hp hq)))
  have HZ := hide (fun (r : List UInt8) (hr : r.length = 32) => show (Tryd.prog.info? 26).map (·.size) = some ((bc r).toArray).size by rw [dv_size _ hr]; exact Tryd.size26)
  have HS := hide (sane_any w hT)
  have hm63 : m ≤ 9223372036854775807 := Nat.le_trans hp.le hp.top
  have hm263 : m2 ≤ 9223372036854775807 := Nat.le_trans hq.le hq.top
  clear hT hla hlb hp hq
  by_cases g1 : la.length ≤ 200
  · by_cases g2 : lb.length ≤ 200
    · by_cases g3 : m ≤ 20
      · by_cases g4 : m2 ≤ 20
        · have g1' : ¬ (200 : Int) < (la.length : Int) := by omega
          have g2' : ¬ (200 : Int) < (lb.length : Int) := by omega
          have g3' : ¬ (20 : Int) < (m : Int) := by omega
          have g4' : ¬ (20 : Int) < (m2 : Int) := by omega
          go_enter Tryd.func14, Tryd.ntmps14
          go_wp2_with fail
          refine HS.out.mono ?_
          rintro e w1 ⟨rfl, hb⟩
          have HB1 := hide hb
          clear hb HS
          have HC1 := hide (Climb_any n i LA lca la A m c p w1 (HT.out.below HB1.out) (HA.out.1.sb.below HB1.out) HA.out.1.nil (by omega) (HA.out.2.2.1.below HB1.out))
          have HC2 := hide (fun (W : World) (h : Below w.heap.size w W) => Climb_any n i LB lcb lb A2 m2 c2 q W (HT.out.below h) (HA.out.2.1.sb.below h) HA.out.2.1.nil (by omega) (HA.out.2.2.2.below h))
          have HCO := hide (fun (W : World) (h : Below w.heap.size w W) => Collide_any n i LA LB lca lcb la lb A A2 m c m2 c2 p q W (HT.out.below h) (HA.out.1.sb.below h) HA.out.1.nil (by omega) (HA.out.2.1.sb.below h) HA.out.2.1.nil (by omega) (HA.out.2.2.1.below h) (HA.out.2.2.2.below h))
          have HSO := hide (fun (h1 : (climbAns n i la p).2 = 0) h2 hd hab => coll_some (n := n) (i := i) HA.out.2.2.1.d32 HA.out.2.2.2.d32 g1 g2 h1 h2 hd hab)
          have HNO := hide (show (climbAns n i la p).2 ≠ 0 ∨ (climbAns n i lb q).2 ≠ 0 ∨ (climbAns n i la p).1 ≠ (climbAns n i lb q).1 ∨ la = lb → collAns n i la lb p q = none from fun h => if_pos h)
          have HD := hide (And.intro (climbAns_32 n i la p) (climbAns_32 n i lb q))
          have HCV := hide (fun (W : World) (h : Below w.heap.size w W) => And.intro (sb_conv (cap := lca) (HA.out.1.sb.below h)) (sb_conv (cap := lcb) (HA.out.2.1.sb.below h)))
          clear HA
          generalize collAns n i la lb p q = R at *
          generalize climbAns n i la p = r1 at *
          generalize climbAns n i lb q = r2 at *
          obtain ⟨d1, e1⟩ := r1
          obtain ⟨d2, e2⟩ := r2
          simp only at HC1 HC2 HD HNO HSO
          go_wp2_with fail
          refine HC1.out.mono ?_
          rintro e w2 ⟨rfl, hb⟩
          have HB2 := hide (below_one HB1.out hb)
          clear hb HC1
          go_wp2_with (refine wpList_store_row rfl 26 (.tmp 13) (.tmp 46) rfl w2.heap.size (bc d1).toArray rfl rfl 26 _ (heap_alloc_new w2 _) (HZ.out _ HD.out.1) (by rw [dv_size _ HD.out.1]; rfl) (all_oneCell_toArray (bc_one d1)) ?_)
          refine name_world ?_
          intro W3 hW
          have e := hW.out
          have H3 := hide (box_set HB2.out d1 e)
          clear hW e HB2
          refine (HC2.out W3 H3.out.2.1).mono ?_
          rintro e w4 ⟨rfl, hb⟩
          have H4 := hide (And.intro (H3.out.1.below hb H3.out.1.lt) (below_one H3.out.2.1 hb))
          clear hb HC2 H3
          go_wp2_with (refine wpList_store_row rfl 26 (.tmp 15) (.tmp 54) rfl w4.heap.size (bc d2).toArray rfl rfl 26 _ (heap_alloc_new w4 _) (HZ.out _ HD.out.2) (by rw [dv_size _ HD.out.2]; rfl) (all_oneCell_toArray (bc_one d2)) ?_)
          refine name_world ?_
          intro W5 hW
          have e := hW.out
          have H5 := hide (show Blk W5 w2.heap.size 26 (bc d1) ∧ Blk W5 w4.heap.size 26 (bc d2) ∧ Below w.heap.size w W5 from ⟨H4.out.1.below (box_set H4.out.2 d2 e).2.2 H4.out.1.lt, (box_set H4.out.2 d2 e).1, (box_set H4.out.2 d2 e).2.1⟩)
          clear hW e H4
          have HCW := hide (HCO.out W5 H5.out.2.2)
          clear HCO
          by_cases h1 : e1 = 0
          · subst h1
            by_cases h2 : e2 = 0
            · subst h2
              by_cases hd : d1 = d2
              · have hv : false = !(d1 == d2) := by simp [hd]
                have HVE := hide hv
                by_cases hab : la = lb
                · have HRN := hide (HNO.out (.inr (.inr (.inr hab))))
                  have hst := str_is la lb hab
                  clear hd hv HSO HNO
                  rw [HRN.out] at HCW
                  refine HCW.out.mono ?_
                  rintro e w6 ⟨rfl, hb⟩
                  have H6 := hide (show Blk w6 w2.heap.size 26 (bc d1) ∧ Blk w6 w4.heap.size 26 (bc d2) ∧ Below w.heap.size w w6 from ⟨H5.out.1.below hb H5.out.1.lt, H5.out.2.1.below hb H5.out.2.1.lt, below_one H5.out.2.2 hb⟩)
                  obtain ⟨hv0, hv1⟩ := HCV.out w6 H6.out.2.2
                  clear hab
                  clear hb HCW H5
                  generalize str la = s1 at *
                  generalize str lb = s2 at *
                  go_wp2_with (first | (refine wpList_load_w rfl 26 (.tmp 13) rfl w2.heap.size rfl 26 _ (0, 0) _ H6.out.1 Tryd.underlying26 rfl (HZ.out d1 HD.out.1) ?_) | (refine wpList_load_w rfl 26 (.tmp 15) rfl w4.heap.size rfl 26 _ (0, 0) _ H6.out.2.1 Tryd.underlying26 rfl (HZ.out d2 HD.out.2) ?_) | (refine wpList_neq2 rfl (.tmp 74) (.tmp 75) 26 rfl d1 d2 rfl rfl HD.out.1 HD.out.2 _ HVE.out ?_))
                  go_ret
                  exact ⟨rfl, H6.out.2.2⟩
                · obtain ⟨R0, HR0, c1, c2, c3, c4⟩ := HSO.out rfl rfl hd hab
                  have HRR := hide (And.intro c3 c4)
                  have HEQ := hide c2
                  have hst := str_ne la lb hab
                  have hst0 := str_ne' R0.1 R0.2 c1
                  have hst1 := str_ne R0.1 R0.2 c1
                  rw [HR0] at HCW
                  clear hd hv HSO HNO HR0 c1 c2 c3 c4 hab
                  refine HCW.out.mono ?_
                  rintro e w6 ⟨A7, B7, ca7, cb7, rfl, a1, a2, a3, a4, a5, a6, a7⟩
                  have HX := hide (And.intro a1 (And.intro a3 a4))
                  have HY := hide (And.intro a2 (And.intro a5 a6))
                  have H6 := hide (show Blk w6 w2.heap.size 26 (bc d1) ∧ Blk w6 w4.heap.size 26 (bc d2) ∧ Below w.heap.size w w6 from ⟨H5.out.1.below a7 H5.out.1.lt, H5.out.2.1.below a7 H5.out.2.1.lt, below_one H5.out.2.2 a7⟩)
                  obtain ⟨hv0, hv1⟩ := HCV.out w6 H6.out.2.2
                  have hv2 := sb_conv (cap := ca7) a1
                  have hv3 := sb_conv (cap := cb7) a2
                  clear a1 a2 a3 a4 a5 a6 a7 HCW H5
                  generalize str la = s1 at *
                  generalize str lb = s2 at *
                  generalize str R0.1 = s3 at *
                  generalize str R0.2 = s4 at *
                  go_wp2_with (first | (refine wpList_load_w rfl 26 (.tmp 13) rfl w2.heap.size rfl 26 _ (0, 0) _ H6.out.1 Tryd.underlying26 rfl (HZ.out d1 HD.out.1) ?_) | (refine wpList_load_w rfl 26 (.tmp 15) rfl w4.heap.size rfl 26 _ (0, 0) _ H6.out.2.1 Tryd.underlying26 rfl (HZ.out d2 HD.out.2) ?_) | (refine wpList_neq2 rfl (.tmp 74) (.tmp 75) 26 rfl d1 d2 rfl rfl HD.out.1 HD.out.2 _ HVE.out ?_))
                  refine (sum_is A7 R0.1.length ca7 R0.1 w6 (HT.out.below H6.out.2.2) HX.out.1 rfl HX.out.2.1 HX.out.2.2 (by have := HRR.out.1; omega)).mono ?_
                  rintro e w7 ⟨rfl, hb⟩
                  have H7 := hide (And.intro (HY.out.1.below hb) (below_one H6.out.2.2 hb))
                  clear hb
                  go_wp2_with fail
                  refine (sum_is B7 R0.2.length cb7 R0.2 w7 (HT.out.below H7.out.2) H7.out.1 rfl HY.out.2.1 HY.out.2.2 (by have := HRR.out.2; omega)).mono ?_
                  rintro e w8 ⟨he, hb⟩
                  rw [← HEQ.out] at he
                  subst he
                  have H8 := hide (below_one H7.out.2 hb)
                  have H32 := hide (sha_len R0.1)
                  have hvv : true = (sha R0.1 == sha R0.1) := by simp
                  have HVV := hide hvv
                  clear hb hvv
                  generalize sha R0.1 = dz at *
                  go_wp2_with (refine wpList_eql2 rfl (.tmp 107) (.tmp 109) 26 rfl dz dz rfl rfl H32.out H32.out _ HVV.out ?_)
                  go_ret
                  exact ⟨rfl, H8.out⟩
              · have hv : true = !(d1 == d2) := by simp [hd]
                have HVE := hide hv
                have HRN := hide (HNO.out (.inr (.inr (.inl hd))))
                clear hd hv HSO HNO
                rw [HRN.out] at HCW
                refine HCW.out.mono ?_
                rintro e w6 ⟨rfl, hb⟩
                have H6 := hide (show Blk w6 w2.heap.size 26 (bc d1) ∧ Blk w6 w4.heap.size 26 (bc d2) ∧ Below w.heap.size w w6 from ⟨H5.out.1.below hb H5.out.1.lt, H5.out.2.1.below hb H5.out.2.1.lt, below_one H5.out.2.2 hb⟩)
                clear hb HCW H5
                go_wp2_with (first | (refine wpList_load_w rfl 26 (.tmp 13) rfl w2.heap.size rfl 26 _ (0, 0) _ H6.out.1 Tryd.underlying26 rfl (HZ.out d1 HD.out.1) ?_) | (refine wpList_load_w rfl 26 (.tmp 15) rfl w4.heap.size rfl 26 _ (0, 0) _ H6.out.2.1 Tryd.underlying26 rfl (HZ.out d2 HD.out.2) ?_) | (refine wpList_neq2 rfl (.tmp 74) (.tmp 75) 26 rfl d1 d2 rfl rfl HD.out.1 HD.out.2 _ HVE.out ?_))
                go_ret
                exact ⟨rfl, H6.out.2.2⟩
            · have h2' : (e2 != 0) = true := by simp [h2]
              have HRN := hide (HNO.out (.inr (.inl h2)))
              clear h2 HSO HNO
              rw [HRN.out] at HCW
              refine HCW.out.mono ?_
              rintro e w6 ⟨rfl, hb⟩
              have H6 := hide (show Blk w6 w2.heap.size 26 (bc d1) ∧ Blk w6 w4.heap.size 26 (bc d2) ∧ Below w.heap.size w w6 from ⟨H5.out.1.below hb H5.out.1.lt, H5.out.2.1.below hb H5.out.2.1.lt, below_one H5.out.2.2 hb⟩)
              clear hb HCW H5
              go_wp2_with fail
              go_ret
              exact ⟨rfl, H6.out.2.2⟩
          · have h1' : (e1 != 0) = true := by simp [h1]
            have HRN := hide (HNO.out (.inl h1))
            clear h1 HSO HNO
            rw [HRN.out] at HCW
            refine HCW.out.mono ?_
            rintro e w6 ⟨rfl, hb⟩
            have H6 := hide (show Blk w6 w2.heap.size 26 (bc d1) ∧ Blk w6 w4.heap.size 26 (bc d2) ∧ Below w.heap.size w w6 from ⟨H5.out.1.below hb H5.out.1.lt, H5.out.2.1.below hb H5.out.2.1.lt, below_one H5.out.2.2 hb⟩)
            clear hb HCW H5
            go_wp2_with fail
            go_ret
            exact ⟨rfl, H6.out.2.2⟩
        · have g1' : ¬ (200 : Int) < (la.length : Int) := by omega
          have g2' : ¬ (200 : Int) < (lb.length : Int) := by omega
          have g3' : ¬ (20 : Int) < (m : Int) := by omega
          have g4' : (20 : Int) < (m2 : Int) := by omega
          go_enter Tryd.func14, Tryd.ntmps14
          go_wp2_with fail
          refine HS.out.mono ?_
          rintro e w1 ⟨rfl, hb⟩
          have HB1 := hide hb
          clear hb HS
          go_wp2_with fail
          go_ret
          exact ⟨rfl, HB1.out⟩
      · have g1' : ¬ (200 : Int) < (la.length : Int) := by omega
        have g2' : ¬ (200 : Int) < (lb.length : Int) := by omega
        have g3' : (20 : Int) < (m : Int) := by omega
        go_enter Tryd.func14, Tryd.ntmps14
        go_wp2_with fail
        refine HS.out.mono ?_
        rintro e w1 ⟨rfl, hb⟩
        have HB1 := hide hb
        clear hb HS
        go_wp2_with fail
        go_ret
        exact ⟨rfl, HB1.out⟩
    · have g1' : ¬ (200 : Int) < (la.length : Int) := by omega
      have g2' : (200 : Int) < (lb.length : Int) := by omega
      go_enter Tryd.func14, Tryd.ntmps14
      go_wp2_with fail
      refine HS.out.mono ?_
      rintro e w1 ⟨rfl, hb⟩
      have HB1 := hide hb
      clear hb HS
      go_wp2_with fail
      go_ret
      exact ⟨rfl, HB1.out⟩
  · have g1' : (200 : Int) < (la.length : Int) := by omega
    go_enter Tryd.func14, Tryd.ntmps14
    go_wp2_with fail
    refine HS.out.mono ?_
    rintro e w1 ⟨rfl, hb⟩
    have HB1 := hide hb
    clear hb HS
    go_wp2_with fail
    go_ret
    exact ⟨rfl, HB1.out⟩
end Go.Proofs.YthjfeodclphgaaaDoor
