/- The reference's Add. -/
import Derived.Test.YtalgceplcahgbaaDoorRap
namespace Go.Proofs.YtalgceplcahgbaaDoor
open Go.RowKit Go.Shelf

set_option maxRecDepth 20000 in
set_option maxHeartbeats 12800000 in
theorem radd_any (A D : Option Addr) (l : List Lr) (ca c : Nat) (node : Int) (data : List UInt8) (w : World) (hl : Lks w A l) (hlc : l.length ≤ ca) (hcx : ca ≤ 9223372036854775807) (hs : ∀ r ∈ l, r.x.data.length ≤ 300) (h16 : l.length ≤ 16) (hA : A = none → ca = 0)
    (hn : -9223372036854775808 ≤ node ∧ node ≤ 9223372036854775807) (hd : Src w D data.length c data) (hdc : data.length ≤ c) (hcc : c ≤ 9223372036854775807) :
    Calls Tryd.prog 40 #[.slice A l.length ca, .int .i64 node, .slice D data.length c] w (AddP l D c w (addA (lnks l) node data)) := by
  have HL := hide hl
  have HD := hide hd
  have HN := hide (And.intro hn (And.intro hdc hcc))
  have HA := hide hA
  have HSS := hide (show Short l from fun r hr => Nat.le_trans (hs r hr) (by omega))
  have HC := hide (rcheck_any A l ca w hl hlc hcx hs h16)
  have HLL := hide (lnks_len l)
  clear hl hd hA hs
  by_cases g0 : chkA hd0 hdL (lnks l) = 0
  · have HAD := hide (fun (h : admB (lnks l) node data = false) => (show addA (lnks l) node data = (none, 1) by unfold addA; rw [if_neg (by simp [g0]), if_pos h]))
    have HAY := hide (fun (h : admB (lnks l) node data = true) => (show addA (lnks l) node data = (some ⟨node, l.length, hdA (lnks l), data⟩, 0) by unfold addA; rw [if_neg (by simp [g0]), if_neg (by simp [h]), if_neg (by rw [HLL.out]; omega), HLL.out]))
    rw [g0] at HC
    clear g0
    by_cases g1 : node < 0
    · have HE := hide (HAD.out (by unfold admB; rw [decide_eq_false (show ¬ 0 ≤ node by omega)]; rfl))
      clear HAD HAY
      go_enter Tryd.func40, Tryd.ntmps40
      go_wp2_with fail
      refine HC.out.mono ?_
      rintro e w1 ⟨rfl, hb⟩
      have HB := hide hb
      clear hb HC
      go_wp2_with fail
      go_ret2
      rw [HE.out]
      exact ⟨rfl, HB.out⟩
    · have g1d : decide (node < 0) = false := by simpa using g1
      by_cases g2 : 24 ≤ node
      · have HE := hide (HAD.out (by unfold admB; rw [decide_eq_false (show ¬ node < 24 by omega)]; simp))
        have g2d : decide (24 ≤ node) = true := by simpa using g2
        clear HAD HAY
        go_enter Tryd.func40, Tryd.ntmps40
        go_wp2_with fail
        refine HC.out.mono ?_
        rintro e w1 ⟨rfl, hb⟩
        have HB := hide hb
        clear hb HC
        go_wp2_with fail
        go_ret2
        rw [HE.out]
        exact ⟨rfl, HB.out⟩
      · have g2d : decide (24 ≤ node) = false := by simpa using g2
        by_cases g3 : l.length = 0
        · have g3i : ¬ (0 : Int) < (l.length : Int) := by omega
          have g3d : decide (0 < l.length) = false := decide_eq_false (by omega)
          have HEM := hide (show (lnks l).isEmpty = true from by rw [List.length_eq_zero_iff.1 g3]; rfl)
          clear g3
          by_cases g4 : data.length ≤ 65536
          · have g4i : ¬ (65536 : Int) < (data.length : Int) := by omega
            have g4d : decide ((65536 : Int) < (data.length : Int)) = false := decide_eq_false g4i
            have HE := hide (HAY.out (by unfold admB; rw [HEM.out, decide_eq_true (show 0 ≤ node by omega), decide_eq_true (show node < 24 by omega), decide_eq_true g4]; rfl))
            clear HAD HAY
            go_enter Tryd.func40, Tryd.ntmps40
            go_wp2_with fail
            refine HC.out.mono ?_
            rintro e w1 ⟨rfl, hb⟩
            have HB := hide hb
            clear hb HC
            have hlim : ((l.length : Int) == 1024) = false := by simp; omega
            have hlim2 : ¬ (l.length : Int) = 1024 := by omega
            go_upto_region 8 with fail
            have HW1 := hide (own_empty w1 w1.heap.size 60 60 35 rfl (Nat.le_refl _))
            have HB1 := hide (below_one HB.out (below_new w1 (.cells #[] 60)))
            go_wp2_with (at_builtin; refine wpList_of_wp rfl (wp_app60 (.tmp 42) (.tmp 43) rfl w1.heap.size _ 0 [] rfl HW1.out A l.length ca l rfl rfl HA.out (HL.out.below HB1.out) (by omega) (by simp) l.length l (by omega) rfl ?_))
            intro v2 W2 hv2 hg2
            have HO2 := hide hv2
            have HB2 := hide (show Below w.heap.size w W2 from HB1.out.grown hg2 HB1.out.size (fun q hq => Nat.le_trans HB.out.size (HW1.out.lt q hq).1))
            have HSZ2 := hide (show w1.heap.size ≤ W2.heap.size from Nat.le_trans (by simp) hg2.size)
            clear hv2 hg2 HW1 HB1
            go_wp2_with fail
            refine (rhead_any A l ca W2 (HL.out.below HB2.out) hlc hcx HSS.out).mono ?_
            rintro e w3 ⟨rfl, hb⟩
            have HB3 := hide (below_one HB2.out hb)
            have HO3 := hide (own_below HO2.out hb)
            have HSZ3 := hide (Nat.le_trans HSZ2.out hb.size)
            have H32 := hide (hdA_32 (lnks l))
            clear hb HO2 HB2 HSZ2
            generalize hdA (lnks l) = hd at *
            have HIN := hide (show (Lr.mk ⟨node, l.length, hd, data⟩ D c).In w3 from ⟨H32.out, HN.out.1, by show -9223372036854775808 ≤ ((l.length : Nat) : Int) ∧ ((l.length : Nat) : Int) ≤ 9223372036854775807; omega, HD.out.below HB3.out, HN.out.2.1, HN.out.2.2⟩)
            have HBX := hide (show Blk (w3.alloc (.cells (Lr.mk ⟨node, l.length, hd, data⟩ D c).cs.toArray 60)) w3.heap.size 60 (Lr.mk ⟨node, l.length, hd, data⟩ D c).cs from Blk.new w3 60 _)
            have HB4 := hide (below_new w3 (.cells (Lr.mk ⟨node, l.length, hd, data⟩ D c).cs.toArray 60))
            have HO4 := hide (HO3.out.alloc (.cells (Lr.mk ⟨node, l.length, hd, data⟩ D c).cs.toArray 60))
            have HLN := hide (show Lks (w3.alloc (.cells (Lr.mk ⟨node, l.length, hd, data⟩ D c).cs.toArray 60)) (some ⟨w3.heap.size, 0, none⟩) [Lr.mk ⟨node, l.length, hd, data⟩ D c] from ⟨fun _ => ⟨w3.heap.size, 0, rfl, HBX.out.lt, fun i hi j u hu => by
              obtain rfl : i = 0 := by simp at hi; omega
              simp only [Nat.zero_mul, Nat.add_zero, Nat.zero_add]
              exact (HBX.out.cell j).trans hu⟩, fun r hr => by
              rw [List.mem_singleton.1 hr]
              exact HIN.out.below HB4.out⟩)
            go_wp2_with (first | (refine wpList_build60 rfl (.tmp 46) (.tmp 48) (.tmp 50) (.tmp 51) rfl node l.length hd H32.out D data c rfl rfl rfl rfl ?_) | (refine wpList_slice60 rfl (.tmp 52) rfl (Lr.mk ⟨node, l.length, hd, data⟩ D c) H32.out rfl ?_) | (at_builtin; refine wpList_of_wp rfl (wp_app60 (.tmp 45) (.tmp 53) rfl w1.heap.size _ l.length l rfl HO4.out (some ⟨w3.heap.size, 0, none⟩) 1 1 [Lr.mk ⟨node, l.length, hd, data⟩ D c] rfl rfl (fun h => by cases h) HLN.out (by omega) (Nat.le_trans HSZ3.out HB4.out.size) (l.length + 1) (l ++ [Lr.mk ⟨node, l.length, hd, data⟩ D c]) rfl rfl ?_)))
            intro v5 W5 hv5 hg5
            have HO5 := hide hv5
            have HB5 := hide (show Below w.heap.size w W5 from (below_one HB3.out HB4.out).grown hg5 (below_one HB3.out HB4.out).size (fun q hq => Nat.le_trans HB.out.size (HO4.out.lt q hq).1))
            have HIN5 := hide (show (Lr.mk ⟨node, l.length, hd, data⟩ D c).In W5 from ⟨H32.out, HN.out.1, by show -9223372036854775808 ≤ ((l.length : Nat) : Int) ∧ ((l.length : Nat) : Int) ≤ 9223372036854775807; omega, HD.out.below HB5.out, HN.out.2.1, HN.out.2.2⟩)
            clear hv5 hg5
            obtain ⟨g5', cap5, rfl, hl5, hc5, hc6⟩ := own_lks HO5.out (by simp) (by omega) (fun r hr => by
              rcases List.mem_append.1 hr with hr | hr
              · exact (HL.out.each r hr).below HB5.out
              · rw [List.mem_singleton.1 hr]; exact HIN5.out)
            have HF := hide (And.intro hl5 (And.intro hc5 hc6))
            clear hl5 hc5 hc6
            go_wp2_with fail
            go_ret2
            rw [HE.out]
            exact ⟨g5', cap5, by rw [List.length_append]; rfl, HF.out.1, by rw [List.length_append]; exact HF.out.2.1, HF.out.2.2, HB5.out⟩
          · have g4i : (65536 : Int) < (data.length : Int) := by omega
            have g4d : decide ((65536 : Int) < (data.length : Int)) = true := decide_eq_true g4i
            have HE := hide (HAD.out (by unfold admB; rw [decide_eq_false g4]; simp))
            clear HAD HAY
            go_enter Tryd.func40, Tryd.ntmps40
            go_wp2_with fail
            refine HC.out.mono ?_
            rintro e w1 ⟨rfl, hb⟩
            have HB := hide hb
            clear hb HC
            go_wp2_with fail
            go_ret2
            rw [HE.out]
            exact ⟨rfl, HB.out⟩
        · have g3n : 0 < l.length := by omega
          have g3i : (0 : Int) < (l.length : Int) := by omega
          have g3d : decide (0 < l.length) = true := decide_eq_true (by omega)
          obtain ⟨b, o, hAe, hblt, hrg, -⟩ := HL.out.at g3n
          have HX0 := hide (show (lnks l).getD 0 ⟨0, 0, [], []⟩ = (l[0]'g3n).x from by simp [lnks, g3n])
          have HC0 := hide (fun (W : World) (h : Below w.heap.size w W) => show W.cell? ⟨b, o, none⟩ = some (.int .i64 (l[0]'g3n).x.node) from by
            have c0 := hrg 0 _ (Lr.c0 _)
            exact (h.cell (p := ⟨b, o, none⟩) hblt).trans (by simpa using c0))
          have HEM := hide (show (lnks l).isEmpty = false from by
            cases l with
            | nil => simp at g3n
            | cons q l => rfl)
          have HAB := hide (show admB (lnks l) node data = (decide (0 ≤ node) && decide (node < 24) && decide (data.length ≤ 65536) && decide ((l[0]'g3n).x.node = node)) from by unfold admB; rw [HEM.out, HX0.out]; simp)
          generalize (l[0]'g3n).x.node = n0 at *
          clear hrg hblt HX0 HEM
          subst hAe
          by_cases g5 : n0 = node
          · subst g5
            have g5d : (n0 != n0) = false := by simp
            by_cases g4 : data.length ≤ 65536
            · have g4i : ¬ (65536 : Int) < (data.length : Int) := by omega
              have g4d : decide ((65536 : Int) < (data.length : Int)) = false := decide_eq_false g4i
              have HE := hide (HAY.out (by rw [HAB.out, decide_eq_true (show 0 ≤ n0 by omega), decide_eq_true (show n0 < 24 by omega), decide_eq_true g4]; simp))
              clear HAD HAY
              go_enter Tryd.func40, Tryd.ntmps40
              go_wp2_with fail
              refine HC.out.mono ?_
              rintro e w1 ⟨rfl, hb⟩
              have HB := hide hb
              clear hb HC
              have hc0 := HC0.out w1 HB.out
              have hlim : ((l.length : Int) == 1024) = false := by simp; omega
              have hlim2 : ¬ (l.length : Int) = 1024 := by omega
              go_upto_region 8 with fail
              clear hc0
              have HW1 := hide (own_empty w1 w1.heap.size 60 60 35 rfl (Nat.le_refl _))
              have HB1 := hide (below_one HB.out (below_new w1 (.cells #[] 60)))
              go_wp2_with (at_builtin; refine wpList_of_wp rfl (wp_app60 (.tmp 42) (.tmp 43) rfl w1.heap.size _ 0 [] rfl HW1.out (some ⟨b, o, none⟩) l.length ca l rfl rfl HA.out (HL.out.below HB1.out) (by omega) (by simp) l.length l (by omega) rfl ?_))
              intro v2 W2 hv2 hg2
              have HO2 := hide hv2
              have HB2 := hide (show Below w.heap.size w W2 from HB1.out.grown hg2 HB1.out.size (fun q hq => Nat.le_trans HB.out.size (HW1.out.lt q hq).1))
              have HSZ2 := hide (show w1.heap.size ≤ W2.heap.size from Nat.le_trans (by simp) hg2.size)
              clear hv2 hg2 HW1 HB1
              go_wp2_with fail
              refine (rhead_any (some ⟨b, o, none⟩) l ca W2 (HL.out.below HB2.out) hlc hcx HSS.out).mono ?_
              rintro e w3 ⟨rfl, hb⟩
              have HB3 := hide (below_one HB2.out hb)
              have HO3 := hide (own_below HO2.out hb)
              have HSZ3 := hide (Nat.le_trans HSZ2.out hb.size)
              have H32 := hide (hdA_32 (lnks l))
              clear hb HO2 HB2 HSZ2
              generalize hdA (lnks l) = hd at *
              have HIN := hide (show (Lr.mk ⟨n0, l.length, hd, data⟩ D c).In w3 from ⟨H32.out, HN.out.1, by show -9223372036854775808 ≤ ((l.length : Nat) : Int) ∧ ((l.length : Nat) : Int) ≤ 9223372036854775807; omega, HD.out.below HB3.out, HN.out.2.1, HN.out.2.2⟩)
              have HBX := hide (show Blk (w3.alloc (.cells (Lr.mk ⟨n0, l.length, hd, data⟩ D c).cs.toArray 60)) w3.heap.size 60 (Lr.mk ⟨n0, l.length, hd, data⟩ D c).cs from Blk.new w3 60 _)
              have HB4 := hide (below_new w3 (.cells (Lr.mk ⟨n0, l.length, hd, data⟩ D c).cs.toArray 60))
              have HO4 := hide (HO3.out.alloc (.cells (Lr.mk ⟨n0, l.length, hd, data⟩ D c).cs.toArray 60))
              have HLN := hide (show Lks (w3.alloc (.cells (Lr.mk ⟨n0, l.length, hd, data⟩ D c).cs.toArray 60)) (some ⟨w3.heap.size, 0, none⟩) [Lr.mk ⟨n0, l.length, hd, data⟩ D c] from ⟨fun _ => ⟨w3.heap.size, 0, rfl, HBX.out.lt, fun i hi j u hu => by
                obtain rfl : i = 0 := by simp at hi; omega
                simp only [Nat.zero_mul, Nat.add_zero, Nat.zero_add]
                exact (HBX.out.cell j).trans hu⟩, fun r hr => by
                rw [List.mem_singleton.1 hr]
                exact HIN.out.below HB4.out⟩)
              go_wp2_with (first | (refine wpList_build60 rfl (.tmp 46) (.tmp 48) (.tmp 50) (.tmp 51) rfl n0 l.length hd H32.out D data c rfl rfl rfl rfl ?_) | (refine wpList_slice60 rfl (.tmp 52) rfl (Lr.mk ⟨n0, l.length, hd, data⟩ D c) H32.out rfl ?_) | (at_builtin; refine wpList_of_wp rfl (wp_app60 (.tmp 45) (.tmp 53) rfl w1.heap.size _ l.length l rfl HO4.out (some ⟨w3.heap.size, 0, none⟩) 1 1 [Lr.mk ⟨n0, l.length, hd, data⟩ D c] rfl rfl (fun h => by cases h) HLN.out (by omega) (Nat.le_trans HSZ3.out HB4.out.size) (l.length + 1) (l ++ [Lr.mk ⟨n0, l.length, hd, data⟩ D c]) rfl rfl ?_)))
              intro v5 W5 hv5 hg5
              have HO5 := hide hv5
              have HB5 := hide (show Below w.heap.size w W5 from (below_one HB3.out HB4.out).grown hg5 (below_one HB3.out HB4.out).size (fun q hq => Nat.le_trans HB.out.size (HO4.out.lt q hq).1))
              have HIN5 := hide (show (Lr.mk ⟨n0, l.length, hd, data⟩ D c).In W5 from ⟨H32.out, HN.out.1, by show -9223372036854775808 ≤ ((l.length : Nat) : Int) ∧ ((l.length : Nat) : Int) ≤ 9223372036854775807; omega, HD.out.below HB5.out, HN.out.2.1, HN.out.2.2⟩)
              clear hv5 hg5
              obtain ⟨g5', cap5, rfl, hl5, hc5, hc6⟩ := own_lks HO5.out (by simp) (by omega) (fun r hr => by
                rcases List.mem_append.1 hr with hr | hr
                · exact (HL.out.each r hr).below HB5.out
                · rw [List.mem_singleton.1 hr]; exact HIN5.out)
              have HF := hide (And.intro hl5 (And.intro hc5 hc6))
              clear hl5 hc5 hc6
              go_wp2_with fail
              go_ret2
              rw [HE.out]
              exact ⟨g5', cap5, by rw [List.length_append]; rfl, HF.out.1, by rw [List.length_append]; exact HF.out.2.1, HF.out.2.2, HB5.out⟩
            · have g4i : (65536 : Int) < (data.length : Int) := by omega
              have g4d : decide ((65536 : Int) < (data.length : Int)) = true := decide_eq_true g4i
              have HE := hide (HAD.out (by rw [HAB.out, decide_eq_false g4]; simp))
              clear HAD HAY
              go_enter Tryd.func40, Tryd.ntmps40
              go_wp2_with fail
              refine HC.out.mono ?_
              rintro e w1 ⟨rfl, hb⟩
              have HB := hide hb
              clear hb HC
              have hc0 := HC0.out w1 HB.out
              go_wp2_with fail
              go_ret2
              rw [HE.out]
              exact ⟨rfl, HB.out⟩
          · have g5d : (n0 != node) = true := by simpa using g5
            have HE := hide (HAD.out (by rw [HAB.out, decide_eq_false g5]; simp))
            clear HAD HAY
            go_enter Tryd.func40, Tryd.ntmps40
            go_wp2_with fail
            refine HC.out.mono ?_
            rintro e w1 ⟨rfl, hb⟩
            have HB := hide hb
            clear hb HC
            have hc0 := HC0.out w1 HB.out
            go_wp2_with fail
            go_ret2
            rw [HE.out]
            exact ⟨rfl, HB.out⟩
  · have g0b : (chkA hd0 hdL (lnks l) != 0) = true := by simpa using g0
    have HE := hide (show addA (lnks l) node data = (none, chkA hd0 hdL (lnks l)) by unfold addA; rw [if_pos g0])
    generalize chkA hd0 hdL (lnks l) = v at *
    clear g0
    go_enter Tryd.func40, Tryd.ntmps40
    go_wp2_with fail
    refine HC.out.mono ?_
    rintro e w1 ⟨rfl, hb⟩
    have HB := hide hb
    clear hb HC
    go_wp2_with fail
    go_ret2
    rw [HE.out]
    exact ⟨rfl, HB.out⟩
end Go.Proofs.YtalgceplcahgbaaDoor

