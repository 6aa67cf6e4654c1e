/- The reference's Part. -/
import Derived.Test.YtalgceplcahgbaaDoorRck
import Derived.Test.YtalgceplcahgbaaDoorPrt
namespace Go.Proofs.YtalgceplcahgbaaDoor
open Go.RowKit Go.Shelf

theorem first_more {a b : List Ln} {n i : Nat} : ∀ {m : Nat}, n ≤ m → firstD a b n = some i → firstD a b m = some i
  | 0, h, hf => by
    obtain rfl : n = 0 := by omega
    exact hf
  | m + 1, h, hf => by
    by_cases e : n = m + 1
    · rw [← e]; exact hf
    · have := first_more (m := m) (by omega) hf
      simp only [firstD, this]

set_option maxRecDepth 20000 in
set_option maxHeartbeats 12800000 in
theorem rpart_any (A B : Option Addr) (l m : List Lr) (ca cb : Nat) (w : World) (hl : Lks w A l) (hm : Lks w B m) (hlc : l.length ≤ ca) (hcx : ca ≤ 9223372036854775807) (hmc : m.length ≤ cb) (hcy : cb ≤ 9223372036854775807) (hs : ∀ r ∈ l, r.x.data.length ≤ 300) (h16 : l.length ≤ 16) (ht : ∀ r ∈ m, r.x.data.length ≤ 300) (h16m : m.length ≤ 16) :
    Calls Tryd.prog 42 #[.slice A l.length ca, .slice B m.length cb] w fun e w' => e = .returned (.tuple #[.int .i64 (partA (lnks l) (lnks m)).1, .bool (partA (lnks l) (lnks m)).2.1, .int .i64 (partA (lnks l) (lnks m)).2.2]) ∧ Below w.heap.size w w' := by
  have HL := hide hl
  have HM := hide hm
  have HC1 := hide (fun (W : World) (h : Below w.heap.size w W) => rcheck_any A l ca W (HL.out.below h) hlc hcx hs h16)
  have HC2 := hide (fun (W : World) (h : Below w.heap.size w W) => rcheck_any B m cb W (HM.out.below h) hmc hcy ht h16m)
  have HLL := hide (And.intro (lnks_len l) (lnks_len m))
  have HB0 := hide (Below.refl w.heap.size w)
  clear hl hm hs ht
  by_cases g1 : chkA hd0 hdL (lnks l) = 0
  · by_cases g2 : chkA hd0 hdL (lnks m) = 0
    · have HPA := hide (show partA (lnks l) (lnks m) = if 0 < (lnks l).length ∧ 0 < (lnks m).length ∧ ((lnks l).getD 0 ⟨0, 0, [], []⟩).node ≠ ((lnks m).getD 0 ⟨0, 0, [], []⟩).node then (0, false, 80) else ((fdA (firstD (lnks l) (lnks m) (min (lnks l).length (lnks m).length))).1, (fdA (firstD (lnks l) (lnks m) (min (lnks l).length (lnks m).length))).2, 0) from by unfold partA; rw [if_neg (by simp [g1]), if_neg (by simp [g2])])
      rw [g1] at HC1
      rw [g2] at HC2
      clear g1 g2
      by_cases hl0 : l.length = 0
      · have hl0' : ¬ (0 : Int) < (l.length : Int) := by omega
        have hl0d : decide (0 < l.length) = false := decide_eq_false (by omega)
        have HPF := hide (show partA (lnks l) (lnks m) = ((fdA (firstD (lnks l) (lnks m) (min l.length m.length))).1, (fdA (firstD (lnks l) (lnks m) (min l.length m.length))).2, 0) by
          rw [HPA.out, if_neg (by rw [HLL.out.1]; omega), HLL.out.1, HLL.out.2])
        clear hl0
        go_enter Tryd.func42, Tryd.ntmps42
        go_wp2_with fail
        refine (HC1.out _ HB0.out).mono ?_
        rintro e w2 ⟨rfl, hb⟩
        have HB2 := hide hb
        clear hb
        go_wp2_with fail
        refine (HC2.out _ HB2.out).mono ?_
        rintro e w3 ⟨rfl, hb⟩
        have HB3 := hide (below_one HB2.out hb)
        clear hb HC1 HC2
        go_wp2_with fail
        go_quiet (fail)
        go_wp2_with fail
        have HB4 := hide (below_drewN HB3.out nq)
        replace HB3 := HB4
        clear HB4
        clear hl0' hl0d
        go_loopw [9] (fun i wr => ∃ k : Nat, k ≤ min l.length m.length ∧ i = .int .i64 k ∧ Hid (Below w.heap.size w wr) ∧ Hid (firstD (lnks l) (lnks m) k = none)) (fun i _ => min l.length m.length - (intOf i).toNat)
        case atStart => exact ⟨0, Nat.zero_le _, rfl, HB3, hide rfl⟩
        case round =>
          obtain ⟨k, hk, rfl, hb, hq⟩ := hrel
          by_cases hlt : k < min l.length m.length
          · have hltl : k < l.length := by omega
            have hltm : k < m.length := by omega
            have hltl' : (k : Int) < l.length := by omega
            have hltm' : (k : Int) < m.length := by omega
            obtain ⟨b, o, hA, hb0, hrg, hin⟩ := (HL.out.below hb.out).at hltl
            obtain ⟨b2, o2, hA2, hb02, hrg2, hin2⟩ := (HM.out.below hb.out).at hltm
            have HSTEP := hide (show firstD (lnks l) (lnks m) (k + 1) = if (l[k]).x.same (m[k]).x then none else some k from by
              have e1 : (lnks l)[k]? = some (l[k]).x := by simp [lnks, hltl]
              have e2 : (lnks m)[k]? = some (m[k]).x := by simp [lnks, hltm]
              simp only [firstD, hq.out, e1, e2])
            have HI := hide (And.intro hin hin2)
            have HG := hide (And.intro hrg hrg2)
            have HLT := hide (And.intro hb0 hb02)
            have HMX := hide (show k + 1 ≤ min l.length m.length by omega)
            clear hrg hrg2 hin hin2 hb0 hb02
            generalize l[k] = r at *
            generalize m[k] = s at *
            subst hA
            subst hA2
            have HS0 := hide (show Below wr.heap.size wr wr.drew from (Below.refl _ _).drew)
            go_wp2_with fail
            refine wp_region_plan4 (fun W' => Below wr.heap.size wr W') (.take 0 (.take 1 (.take 2 (.take 3 (.take 4 (.take 5 (.take 6 (.take 7 (.run 8 (.run 9 .done)))))))))) (by kernel_rfl) (by kernel_rfl) HS0.out ?_
            generalize wr.drew = wD at HS0 ⊢
            (refine plan4_take (o := ?_) (v := ?_) (by simp only [List.getElem?_toArray, List.getElem?_cons_zero]; rfl) (yields_run (by rfl) ?_) ?_; rotate_left; (focus (intro w' hw'; go_simp <;> with_reducible rfl)); (simp only [Act.put, List.setIfInBounds_toArray, List.set_cons_zero, List.set_cons_succ]))
            (refine plan4_take (o := ?_) (v := ?_) (by simp only [List.getElem?_toArray, List.getElem?_cons_succ, List.getElem?_cons_zero]; rfl) (yields_run (by rfl) ?_) ?_; rotate_left; (focus (intro w' hw'; go_simp <;> with_reducible rfl)); (simp only [Act.put, List.setIfInBounds_toArray, List.set_cons_zero, List.set_cons_succ]))
            (refine plan4_take (o := ?_) (v := ?_) (by simp only [List.getElem?_toArray, List.getElem?_cons_succ, List.getElem?_cons_zero]; rfl) (yields_run (by rfl) ?_) ?_; rotate_left; (focus (intro w' hw'; go_simp <;> with_reducible rfl)); (simp only [Act.put, List.setIfInBounds_toArray, List.set_cons_zero, List.set_cons_succ]))
            (refine plan4_take (o := ?_) (v := .agg r.cs.toArray) (by simp only [List.getElem?_toArray, List.getElem?_cons_succ, List.getElem?_cons_zero]; rfl) ?_ ?_; (focus (exact yieldsIf_load_mid (by rfl) 60 (.tmp 53) rfl b (o + k * 35) rfl r.cs _ (fun W h => range_below HG.out.1 h HLT.out.1) Tryd.underlying60 rfl (size60 HI.out.1))); (simp only [Act.put, List.setIfInBounds_toArray, List.set_cons_zero, List.set_cons_succ]))
            (refine plan4_take (o := ?_) (v := ?_) (by simp only [List.getElem?_toArray, List.getElem?_cons_succ, List.getElem?_cons_zero]; rfl) (yields_run (by rfl) ?_) ?_; rotate_left; (focus (intro w' hw'; go_simp <;> with_reducible rfl)); (simp only [Act.put, List.setIfInBounds_toArray, List.set_cons_zero, List.set_cons_succ]))
            (refine plan4_take (o := ?_) (v := ?_) (by simp only [List.getElem?_toArray, List.getElem?_cons_succ, List.getElem?_cons_zero]; rfl) (yields_run (by rfl) ?_) ?_; rotate_left; (focus (intro w' hw'; go_simp <;> with_reducible rfl)); (simp only [Act.put, List.setIfInBounds_toArray, List.set_cons_zero, List.set_cons_succ]))
            (refine plan4_take (o := ?_) (v := ?_) (by simp only [List.getElem?_toArray, List.getElem?_cons_succ, List.getElem?_cons_zero]; rfl) (yields_run (by rfl) ?_) ?_; rotate_left; (focus (intro w' hw'; go_simp <;> with_reducible rfl)); (simp only [Act.put, List.setIfInBounds_toArray, List.set_cons_zero, List.set_cons_succ]))
            (refine plan4_take (o := ?_) (v := .agg s.cs.toArray) (by simp only [List.getElem?_toArray, List.getElem?_cons_succ, List.getElem?_cons_zero]; rfl) ?_ ?_; (focus (exact yieldsIf_load_mid (by rfl) 60 (.tmp 57) rfl b2 (o2 + k * 35) rfl s.cs _ (fun W h => range_below HG.out.2 h HLT.out.2) Tryd.underlying60 rfl (size60 HI.out.2))); (simp only [Act.put, List.setIfInBounds_toArray, List.set_cons_zero, List.set_cons_succ]))
            refine plan4_run (o := ?_) (by simp only [List.getElem?_toArray, List.getElem?_cons_succ, List.getElem?_cons_zero]; rfl) ?_
            intro R' HK
            go_wp2_with fail
            refine (sameLink_any r s wD (HI.out.1.below HS0.out) (HI.out.2.below HS0.out)).mono ?_
            rintro e wN ⟨rfl, hbn⟩
            have HSn := hide (below_one HS0.out hbn)
            have HBn := hide (below_one hb.out (below_one HS0.out hbn))
            clear hbn
            go_wp2_with fail
            refine HK.out _ _ HSn.out ?_
            clear HK
            refine plan4_run (o := ?_) (by simp only [List.getElem?_toArray, List.getElem?_cons_succ, List.getElem?_cons_zero]; rfl) ?_
            intro R' HK
            go_wp2_with fail
            refine HK.out _ _ HSn.out ?_
            clear HK
            refine plan4_done ?_
            cases hsm : r.x.same s.x with
            | true =>
              have HX := hide (show firstD (lnks l) (lnks m) (k + 1) = none from by rw [HSTEP.out, if_pos hsm])
              clear hsm
              go_wp2_with fail
              go_roundw
              case rel => exact ⟨k + 1, HMX.out, by go_num, HBn, HX⟩
              case measure => simp [intOf]; omega
            | false =>
              have HX := hide (show firstD (lnks l) (lnks m) (min l.length m.length) = some k from first_more HMX.out (by rw [HSTEP.out, if_neg (by rw [hsm]; simp)]))
              clear hsm
              go_wp2_with fail
              go_ret3
              exact ⟨by rw [HPF.out, HX.out]; rfl, HBn.out⟩
          · obtain rfl : k = min l.length m.length := by omega
            have hq' := hq.out
            have HX := hide (show partA (lnks l) (lnks m) = (0, false, 0) from by rw [HPF.out, hq']; rfl)
            clear hq'
            by_cases hll : min l.length m.length < l.length
            · have hll' : ((min l.length m.length : Nat) : Int) < l.length := by omega
              have hmm : ¬ ((min l.length m.length : Nat) : Int) < m.length := by omega
              generalize min l.length m.length = mn at *
              go_wp2_with fail
              go_ret3
              exact ⟨by rw [HX.out]; rfl, hb.out⟩
            · have hll' : ¬ ((min l.length m.length : Nat) : Int) < l.length := by omega
              generalize min l.length m.length = mn at *
              go_wp2_with fail
              go_ret3
              exact ⟨by rw [HX.out]; rfl, hb.out⟩
      · have hl0' : (0 : Int) < (l.length : Int) := by omega
        have hl0n : 0 < l.length := by omega
        have hl0d : decide (0 < l.length) = true := decide_eq_true (by omega)
        by_cases hm0 : m.length = 0
        · have hm0' : ¬ (0 : Int) < (m.length : Int) := by omega
          have hm0d : decide (0 < m.length) = false := decide_eq_false (by omega)
          have HPF := hide (show partA (lnks l) (lnks m) = ((fdA (firstD (lnks l) (lnks m) (min l.length m.length))).1, (fdA (firstD (lnks l) (lnks m) (min l.length m.length))).2, 0) by
            rw [HPA.out, if_neg (by rw [HLL.out.2]; omega), HLL.out.1, HLL.out.2])
          clear hl0 hm0
          go_enter Tryd.func42, Tryd.ntmps42
          go_wp2_with fail
          refine (HC1.out _ HB0.out).mono ?_
          rintro e w2 ⟨rfl, hb⟩
          have HB2 := hide hb
          clear hb
          go_wp2_with fail
          refine (HC2.out _ HB2.out).mono ?_
          rintro e w3 ⟨rfl, hb⟩
          have HB3 := hide (below_one HB2.out hb)
          clear hb HC1 HC2
          go_wp2_with fail
          go_quiet (fail)
          go_wp2_with fail
          have HB4 := hide (below_drewN HB3.out nq)
          replace HB3 := HB4
          clear HB4
          clear hl0' hl0d hm0' hm0d hl0n
          go_loopw [9] (fun i wr => ∃ k : Nat, k ≤ min l.length m.length ∧ i = .int .i64 k ∧ Hid (Below w.heap.size w wr) ∧ Hid (firstD (lnks l) (lnks m) k = none)) (fun i _ => min l.length m.length - (intOf i).toNat)
          case atStart => exact ⟨0, Nat.zero_le _, rfl, HB3, hide rfl⟩
          case round =>
            obtain ⟨k, hk, rfl, hb, hq⟩ := hrel
            by_cases hlt : k < min l.length m.length
            · have hltl : k < l.length := by omega
              have hltm : k < m.length := by omega
              have hltl' : (k : Int) < l.length := by omega
              have hltm' : (k : Int) < m.length := by omega
              obtain ⟨b, o, hA, hb0, hrg, hin⟩ := (HL.out.below hb.out).at hltl
              obtain ⟨b2, o2, hA2, hb02, hrg2, hin2⟩ := (HM.out.below hb.out).at hltm
              have HSTEP := hide (show firstD (lnks l) (lnks m) (k + 1) = if (l[k]).x.same (m[k]).x then none else some k from by
                have e1 : (lnks l)[k]? = some (l[k]).x := by simp [lnks, hltl]
                have e2 : (lnks m)[k]? = some (m[k]).x := by simp [lnks, hltm]
                simp only [firstD, hq.out, e1, e2])
              have HI := hide (And.intro hin hin2)
              have HG := hide (And.intro hrg hrg2)
              have HLT := hide (And.intro hb0 hb02)
              have HMX := hide (show k + 1 ≤ min l.length m.length by omega)
              clear hrg hrg2 hin hin2 hb0 hb02
              generalize l[k] = r at *
              generalize m[k] = s at *
              subst hA
              subst hA2
              have HS0 := hide (show Below wr.heap.size wr wr.drew from (Below.refl _ _).drew)
              go_wp2_with fail
              refine wp_region_plan4 (fun W' => Below wr.heap.size wr W') (.take 0 (.take 1 (.take 2 (.take 3 (.take 4 (.take 5 (.take 6 (.take 7 (.run 8 (.run 9 .done)))))))))) (by kernel_rfl) (by kernel_rfl) HS0.out ?_
              generalize wr.drew = wD at HS0 ⊢
              (refine plan4_take (o := ?_) (v := ?_) (by simp only [List.getElem?_toArray, List.getElem?_cons_zero]; rfl) (yields_run (by rfl) ?_) ?_; rotate_left; (focus (intro w' hw'; go_simp <;> with_reducible rfl)); (simp only [Act.put, List.setIfInBounds_toArray, List.set_cons_zero, List.set_cons_succ]))
              (refine plan4_take (o := ?_) (v := ?_) (by simp only [List.getElem?_toArray, List.getElem?_cons_succ, List.getElem?_cons_zero]; rfl) (yields_run (by rfl) ?_) ?_; rotate_left; (focus (intro w' hw'; go_simp <;> with_reducible rfl)); (simp only [Act.put, List.setIfInBounds_toArray, List.set_cons_zero, List.set_cons_succ]))
              (refine plan4_take (o := ?_) (v := ?_) (by simp only [List.getElem?_toArray, List.getElem?_cons_succ, List.getElem?_cons_zero]; rfl) (yields_run (by rfl) ?_) ?_; rotate_left; (focus (intro w' hw'; go_simp <;> with_reducible rfl)); (simp only [Act.put, List.setIfInBounds_toArray, List.set_cons_zero, List.set_cons_succ]))
              (refine plan4_take (o := ?_) (v := .agg r.cs.toArray) (by simp only [List.getElem?_toArray, List.getElem?_cons_succ, List.getElem?_cons_zero]; rfl) ?_ ?_; (focus (exact yieldsIf_load_mid (by rfl) 60 (.tmp 53) rfl b (o + k * 35) rfl r.cs _ (fun W h => range_below HG.out.1 h HLT.out.1) Tryd.underlying60 rfl (size60 HI.out.1))); (simp only [Act.put, List.setIfInBounds_toArray, List.set_cons_zero, List.set_cons_succ]))
              (refine plan4_take (o := ?_) (v := ?_) (by simp only [List.getElem?_toArray, List.getElem?_cons_succ, List.getElem?_cons_zero]; rfl) (yields_run (by rfl) ?_) ?_; rotate_left; (focus (intro w' hw'; go_simp <;> with_reducible rfl)); (simp only [Act.put, List.setIfInBounds_toArray, List.set_cons_zero, List.set_cons_succ]))
              (refine plan4_take (o := ?_) (v := ?_) (by simp only [List.getElem?_toArray, List.getElem?_cons_succ, List.getElem?_cons_zero]; rfl) (yields_run (by rfl) ?_) ?_; rotate_left; (focus (intro w' hw'; go_simp <;> with_reducible rfl)); (simp only [Act.put, List.setIfInBounds_toArray, List.set_cons_zero, List.set_cons_succ]))
              (refine plan4_take (o := ?_) (v := ?_) (by simp only [List.getElem?_toArray, List.getElem?_cons_succ, List.getElem?_cons_zero]; rfl) (yields_run (by rfl) ?_) ?_; rotate_left; (focus (intro w' hw'; go_simp <;> with_reducible rfl)); (simp only [Act.put, List.setIfInBounds_toArray, List.set_cons_zero, List.set_cons_succ]))
              (refine plan4_take (o := ?_) (v := .agg s.cs.toArray) (by simp only [List.getElem?_toArray, List.getElem?_cons_succ, List.getElem?_cons_zero]; rfl) ?_ ?_; (focus (exact yieldsIf_load_mid (by rfl) 60 (.tmp 57) rfl b2 (o2 + k * 35) rfl s.cs _ (fun W h => range_below HG.out.2 h HLT.out.2) Tryd.underlying60 rfl (size60 HI.out.2))); (simp only [Act.put, List.setIfInBounds_toArray, List.set_cons_zero, List.set_cons_succ]))
              refine plan4_run (o := ?_) (by simp only [List.getElem?_toArray, List.getElem?_cons_succ, List.getElem?_cons_zero]; rfl) ?_
              intro R' HK
              go_wp2_with fail
              refine (sameLink_any r s wD (HI.out.1.below HS0.out) (HI.out.2.below HS0.out)).mono ?_
              rintro e wN ⟨rfl, hbn⟩
              have HSn := hide (below_one HS0.out hbn)
              have HBn := hide (below_one hb.out (below_one HS0.out hbn))
              clear hbn
              go_wp2_with fail
              refine HK.out _ _ HSn.out ?_
              clear HK
              refine plan4_run (o := ?_) (by simp only [List.getElem?_toArray, List.getElem?_cons_succ, List.getElem?_cons_zero]; rfl) ?_
              intro R' HK
              go_wp2_with fail
              refine HK.out _ _ HSn.out ?_
              clear HK
              refine plan4_done ?_
              cases hsm : r.x.same s.x with
              | true =>
                have HX := hide (show firstD (lnks l) (lnks m) (k + 1) = none from by rw [HSTEP.out, if_pos hsm])
                clear hsm
                go_wp2_with fail
                go_roundw
                case rel => exact ⟨k + 1, HMX.out, by go_num, HBn, HX⟩
                case measure => simp [intOf]; omega
              | false =>
                have HX := hide (show firstD (lnks l) (lnks m) (min l.length m.length) = some k from first_more HMX.out (by rw [HSTEP.out, if_neg (by rw [hsm]; simp)]))
                clear hsm
                go_wp2_with fail
                go_ret3
                exact ⟨by rw [HPF.out, HX.out]; rfl, HBn.out⟩
            · obtain rfl : k = min l.length m.length := by omega
              have hq' := hq.out
              have HX := hide (show partA (lnks l) (lnks m) = (0, false, 0) from by rw [HPF.out, hq']; rfl)
              clear hq'
              by_cases hll : min l.length m.length < l.length
              · have hll' : ((min l.length m.length : Nat) : Int) < l.length := by omega
                have hmm : ¬ ((min l.length m.length : Nat) : Int) < m.length := by omega
                generalize min l.length m.length = mn at *
                go_wp2_with fail
                go_ret3
                exact ⟨by rw [HX.out]; rfl, hb.out⟩
              · have hll' : ¬ ((min l.length m.length : Nat) : Int) < l.length := by omega
                generalize min l.length m.length = mn at *
                go_wp2_with fail
                go_ret3
                exact ⟨by rw [HX.out]; rfl, hb.out⟩
        · have hm0' : (0 : Int) < (m.length : Int) := by omega
          have hm0n : 0 < m.length := by omega
          have hm0d : decide (0 < m.length) = true := decide_eq_true (by omega)
          have HXL := hide (show (lnks l).getD 0 ⟨0, 0, [], []⟩ = (l[0]'hl0n).x from by simp [lnks, hl0n])
          have HXM := hide (show (lnks m).getD 0 ⟨0, 0, [], []⟩ = (m[0]'hm0n).x from by simp [lnks, hm0n])
          rw [HXL.out, HXM.out] at HPA
          obtain ⟨b0, o0, hAe, hblt, hrg, -⟩ := HL.out.at hl0n
          obtain ⟨b1, o1, hBe, hblt1, hrg1, -⟩ := HM.out.at hm0n
          have HF0 := hide (fun (W : World) (h : Below w.heap.size w W) => show W.cell? ⟨b0, o0, none⟩ = some (.int .i64 (l[0]'hl0n).x.node) ∧ W.cell? ⟨b1, o1, none⟩ = some (.int .i64 (m[0]'hm0n).x.node) from by
            have c0 := hrg 0 _ (Lr.c0 _)
            have c1 := hrg1 0 _ (Lr.c0 _)
            exact ⟨(h.cell (p := ⟨b0, o0, none⟩) hblt).trans (by simpa using c0), (h.cell (p := ⟨b1, o1, none⟩) hblt1).trans (by simpa using c1)⟩)
          generalize (l[0]'hl0n).x.node = x at *
          generalize (m[0]'hm0n).x.node = y at *
          clear hrg hrg1 hblt hblt1 HXL HXM
          subst hAe
          subst hBe
          by_cases hxy : x = y
          · have hxb : (x != y) = false := by simp [hxy]
            have HPF := hide (show partA (lnks l) (lnks m) = ((fdA (firstD (lnks l) (lnks m) (min l.length m.length))).1, (fdA (firstD (lnks l) (lnks m) (min l.length m.length))).2, 0) by
              rw [HPA.out, if_neg (fun h => h.2.2 hxy), HLL.out.1, HLL.out.2])
            clear hl0 hm0 hxy
            go_enter Tryd.func42, Tryd.ntmps42
            go_wp2_with fail
            refine (HC1.out _ HB0.out).mono ?_
            rintro e w2 ⟨rfl, hb⟩
            have HB2 := hide hb
            clear hb
            go_wp2_with fail
            refine (HC2.out _ HB2.out).mono ?_
            rintro e w3 ⟨rfl, hb⟩
            have HB3 := hide (below_one HB2.out hb)
            clear hb HC1 HC2
            have c0 := (HF0.out w3 HB3.out).1
            have c1 := (HF0.out w3 HB3.out).2
            go_wp2_with fail
            go_quiet (fail)
            go_wp2_with fail
            have HB4 := hide (below_drewN HB3.out nq)
            replace HB3 := HB4
            clear c0 c1 hl0' hm0' hl0n hm0n hl0d hm0d
            go_loopw [9] (fun i wr => ∃ k : Nat, k ≤ min l.length m.length ∧ i = .int .i64 k ∧ Hid (Below w.heap.size w wr) ∧ Hid (firstD (lnks l) (lnks m) k = none)) (fun i _ => min l.length m.length - (intOf i).toNat)
            case atStart => exact ⟨0, Nat.zero_le _, rfl, HB3, hide rfl⟩
            case round =>
              obtain ⟨k, hk, rfl, hb, hq⟩ := hrel
              by_cases hlt : k < min l.length m.length
              · have hltl : k < l.length := by omega
                have hltm : k < m.length := by omega
                have hltl' : (k : Int) < l.length := by omega
                have hltm' : (k : Int) < m.length := by omega
                obtain ⟨b, o, hA, hb0, hrg, hin⟩ := (HL.out.below hb.out).at hltl
                obtain ⟨b2, o2, hA2, hb02, hrg2, hin2⟩ := (HM.out.below hb.out).at hltm
                have HSTEP := hide (show firstD (lnks l) (lnks m) (k + 1) = if (l[k]).x.same (m[k]).x then none else some k from by
                  have e1 : (lnks l)[k]? = some (l[k]).x := by simp [lnks, hltl]
                  have e2 : (lnks m)[k]? = some (m[k]).x := by simp [lnks, hltm]
                  simp only [firstD, hq.out, e1, e2])
                have HI := hide (And.intro hin hin2)
                have HG := hide (And.intro hrg hrg2)
                have HLT := hide (And.intro hb0 hb02)
                have HMX := hide (show k + 1 ≤ min l.length m.length by omega)
                clear hrg hrg2 hin hin2 hb0 hb02
                generalize l[k] = r at *
                generalize m[k] = s at *
                simp only [Option.some.injEq, Addr.mk.injEq, and_true] at hA hA2
                obtain ⟨rfl, rfl⟩ := hA
                obtain ⟨rfl, rfl⟩ := hA2
                have HS0 := hide (show Below wr.heap.size wr wr.drew from (Below.refl _ _).drew)
                go_wp2_with fail
                refine wp_region_plan4 (fun W' => Below wr.heap.size wr W') (.take 0 (.take 1 (.take 2 (.take 3 (.take 4 (.take 5 (.take 6 (.take 7 (.run 8 (.run 9 .done)))))))))) (by kernel_rfl) (by kernel_rfl) HS0.out ?_
                generalize wr.drew = wD at HS0 ⊢
                (refine plan4_take (o := ?_) (v := ?_) (by simp only [List.getElem?_toArray, List.getElem?_cons_zero]; rfl) (yields_run (by rfl) ?_) ?_; rotate_left; (focus (intro w' hw'; go_simp <;> with_reducible rfl)); (simp only [Act.put, List.setIfInBounds_toArray, List.set_cons_zero, List.set_cons_succ]))
                (refine plan4_take (o := ?_) (v := ?_) (by simp only [List.getElem?_toArray, List.getElem?_cons_succ, List.getElem?_cons_zero]; rfl) (yields_run (by rfl) ?_) ?_; rotate_left; (focus (intro w' hw'; go_simp <;> with_reducible rfl)); (simp only [Act.put, List.setIfInBounds_toArray, List.set_cons_zero, List.set_cons_succ]))
                (refine plan4_take (o := ?_) (v := ?_) (by simp only [List.getElem?_toArray, List.getElem?_cons_succ, List.getElem?_cons_zero]; rfl) (yields_run (by rfl) ?_) ?_; rotate_left; (focus (intro w' hw'; go_simp <;> with_reducible rfl)); (simp only [Act.put, List.setIfInBounds_toArray, List.set_cons_zero, List.set_cons_succ]))
                (refine plan4_take (o := ?_) (v := .agg r.cs.toArray) (by simp only [List.getElem?_toArray, List.getElem?_cons_succ, List.getElem?_cons_zero]; rfl) ?_ ?_; (focus (exact yieldsIf_load_mid (by rfl) 60 (.tmp 53) rfl b0 (o0 + k * 35) rfl r.cs _ (fun W h => range_below HG.out.1 h HLT.out.1) Tryd.underlying60 rfl (size60 HI.out.1))); (simp only [Act.put, List.setIfInBounds_toArray, List.set_cons_zero, List.set_cons_succ]))
                (refine plan4_take (o := ?_) (v := ?_) (by simp only [List.getElem?_toArray, List.getElem?_cons_succ, List.getElem?_cons_zero]; rfl) (yields_run (by rfl) ?_) ?_; rotate_left; (focus (intro w' hw'; go_simp <;> with_reducible rfl)); (simp only [Act.put, List.setIfInBounds_toArray, List.set_cons_zero, List.set_cons_succ]))
                (refine plan4_take (o := ?_) (v := ?_) (by simp only [List.getElem?_toArray, List.getElem?_cons_succ, List.getElem?_cons_zero]; rfl) (yields_run (by rfl) ?_) ?_; rotate_left; (focus (intro w' hw'; go_simp <;> with_reducible rfl)); (simp only [Act.put, List.setIfInBounds_toArray, List.set_cons_zero, List.set_cons_succ]))
                (refine plan4_take (o := ?_) (v := ?_) (by simp only [List.getElem?_toArray, List.getElem?_cons_succ, List.getElem?_cons_zero]; rfl) (yields_run (by rfl) ?_) ?_; rotate_left; (focus (intro w' hw'; go_simp <;> with_reducible rfl)); (simp only [Act.put, List.setIfInBounds_toArray, List.set_cons_zero, List.set_cons_succ]))
                (refine plan4_take (o := ?_) (v := .agg s.cs.toArray) (by simp only [List.getElem?_toArray, List.getElem?_cons_succ, List.getElem?_cons_zero]; rfl) ?_ ?_; (focus (exact yieldsIf_load_mid (by rfl) 60 (.tmp 57) rfl b1 (o1 + k * 35) rfl s.cs _ (fun W h => range_below HG.out.2 h HLT.out.2) Tryd.underlying60 rfl (size60 HI.out.2))); (simp only [Act.put, List.setIfInBounds_toArray, List.set_cons_zero, List.set_cons_succ]))
                refine plan4_run (o := ?_) (by simp only [List.getElem?_toArray, List.getElem?_cons_succ, List.getElem?_cons_zero]; rfl) ?_
                intro R' HK
                go_wp2_with fail
                refine (sameLink_any r s wD (HI.out.1.below HS0.out) (HI.out.2.below HS0.out)).mono ?_
                rintro e wN ⟨rfl, hbn⟩
                have HSn := hide (below_one HS0.out hbn)
                have HBn := hide (below_one hb.out (below_one HS0.out hbn))
                clear hbn
                go_wp2_with fail
                refine HK.out _ _ HSn.out ?_
                clear HK
                refine plan4_run (o := ?_) (by simp only [List.getElem?_toArray, List.getElem?_cons_succ, List.getElem?_cons_zero]; rfl) ?_
                intro R' HK
                go_wp2_with fail
                refine HK.out _ _ HSn.out ?_
                clear HK
                refine plan4_done ?_
                cases hsm : r.x.same s.x with
                | true =>
                  have HX := hide (show firstD (lnks l) (lnks m) (k + 1) = none from by rw [HSTEP.out, if_pos hsm])
                  clear hsm
                  go_wp2_with fail
                  go_roundw
                  case rel => exact ⟨k + 1, HMX.out, by go_num, HBn, HX⟩
                  case measure => simp [intOf]; omega
                | false =>
                  have HX := hide (show firstD (lnks l) (lnks m) (min l.length m.length) = some k from first_more HMX.out (by rw [HSTEP.out, if_neg (by rw [hsm]; simp)]))
                  clear hsm
                  go_wp2_with fail
                  go_ret3
                  exact ⟨by rw [HPF.out, HX.out]; rfl, HBn.out⟩
              · obtain rfl : k = min l.length m.length := by omega
                have hq' := hq.out
                have HX := hide (show partA (lnks l) (lnks m) = (0, false, 0) from by rw [HPF.out, hq']; rfl)
                clear hq'
                by_cases hll : min l.length m.length < l.length
                · have hll' : ((min l.length m.length : Nat) : Int) < l.length := by omega
                  have hmm : ¬ ((min l.length m.length : Nat) : Int) < m.length := by omega
                  generalize min l.length m.length = mn at *
                  go_wp2_with fail
                  go_ret3
                  exact ⟨by rw [HX.out]; rfl, hb.out⟩
                · have hll' : ¬ ((min l.length m.length : Nat) : Int) < l.length := by omega
                  generalize min l.length m.length = mn at *
                  go_wp2_with fail
                  go_ret3
                  exact ⟨by rw [HX.out]; rfl, hb.out⟩
          · have hxb : (x != y) = true := by simpa using hxy
            have HPF := hide (show partA (lnks l) (lnks m) = (0, false, 80) by
              rw [HPA.out, if_pos ⟨by rw [HLL.out.1]; omega, by rw [HLL.out.2]; omega, hxy⟩])
            clear hl0 hm0 hxy
            go_enter Tryd.func42, Tryd.ntmps42
            go_wp2_with fail
            refine (HC1.out _ HB0.out).mono ?_
            rintro e w2 ⟨rfl, hb⟩
            have HB2 := hide hb
            clear hb
            go_wp2_with fail
            refine (HC2.out _ HB2.out).mono ?_
            rintro e w3 ⟨rfl, hb⟩
            have HB3 := hide (below_one HB2.out hb)
            clear hb HC1 HC2
            have c0 := (HF0.out w3 HB3.out).1
            have c1 := (HF0.out w3 HB3.out).2
            go_wp2_with fail
            go_quiet (fail)
            go_wp2_with fail
            go_ret3
            exact ⟨by rw [HPF.out]; rfl, below_drewN HB3.out _⟩
    · have h2b : (chkA hd0 hdL (lnks m) != 0) = true := by simpa using g2
      have HPF := hide (show partA (lnks l) (lnks m) = (0, false, chkA hd0 hdL (lnks m)) from by unfold partA; rw [if_neg (by simp [g1]), if_pos g2])
      rw [g1] at HC1
      generalize chkA hd0 hdL (lnks m) = v at *
      clear g1 g2
      go_enter Tryd.func42, Tryd.ntmps42
      go_wp2_with fail
      refine (HC1.out _ HB0.out).mono ?_
      rintro e w2 ⟨rfl, hb⟩
      have HB2 := hide hb
      clear hb
      go_wp2_with fail
      refine (HC2.out _ HB2.out).mono ?_
      rintro e w3 ⟨rfl, hb⟩
      have HB3 := hide (below_one HB2.out hb)
      clear hb
      go_wp2_with fail
      go_ret3
      exact ⟨by rw [HPF.out]; rfl, HB3.out⟩
  · have h1b : (chkA hd0 hdL (lnks l) != 0) = true := by simpa using g1
    have HPF := hide (show partA (lnks l) (lnks m) = (0, false, chkA hd0 hdL (lnks l)) from by unfold partA; rw [if_pos g1])
    generalize chkA hd0 hdL (lnks l) = v at *
    clear g1
    go_enter Tryd.func42, Tryd.ntmps42
    go_wp2_with fail
    refine (HC1.out _ HB0.out).mono ?_
    rintro e w2 ⟨rfl, hb⟩
    have HB2 := hide hb
    clear hb
    go_wp2_with fail
    go_ret3
    exact ⟨by rw [HPF.out]; rfl, HB2.out⟩
end Go.Proofs.YtalgceplcahgbaaDoor
