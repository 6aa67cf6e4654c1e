/- Two chains with one head: the statement's walk. -/
import Derived.Test.YtalgceplcahgbaaDoorCla
import Derived.Test.YtalgceplcahgbaaDoorSan
import Derived.Test.YtalgceplcahgbaaDoorRck
namespace Go.Proofs.YtalgceplcahgbaaDoor
open Go.RowKit Go.Shelf

/-- What clash answers of the beginnings of length j. -/
def clB (l m : List Lr) (j : Nat) : Bool := match l[j - 1]?, m[j - 1]? with
  | some x, some y => !decide (lenc x.x = lenc y.x) && (hdA (lnks (l.take j)) == hdA (lnks (m.take j)))
  | _, _ => false
theorem last_take {l : List Lr} {j : Nat} (h1 : 1 ≤ j) (h2 : j ≤ l.length) (h : l.take j ≠ []) : (l.take j).getLast h = l[j - 1]'(by omega) := by
  rw [List.getLast_eq_getElem, List.getElem_take]
  congr 1
  rw [List.length_take]
  omega
theorem clB_eq {l m : List Lr} {j : Nat} (h1 : 1 ≤ j) (h2 : j ≤ l.length) (h3 : j ≤ m.length) : clB l m j = (!decide (lenc (l[j - 1]'(by omega)).x = lenc (m[j - 1]'(by omega)).x) && (hdA (lnks (l.take j)) == hdA (lnks (m.take j)))) := by
  unfold clB
  rw [List.getElem?_eq_getElem (by omega), List.getElem?_eq_getElem (by omega)]
theorem clB_some {w w' : World} {l m : List Lr} (hl : ∀ r ∈ l, r.In w) (hm : ∀ r ∈ m, r.In w') (sl : Short l) (sm : Short m) (ca : chainB hd0 hdL (lnks l) = true) (cb : chainB hd0 hdL (lnks m) = true) (hn : l.length = m.length) (hh : hdA (lnks l) = hdA (lnks m)) (hne : lnks l ≠ lnks m) :
    ∃ j, 1 ≤ j ∧ j ≤ l.length ∧ clB l m j = true := by
  obtain ⟨i, h1, h2, h3, h4⟩ := equal_clash hd0 hdL ca cb (by rw [lnks_len, lnks_len]; exact hn) hh hne
  rw [lnks_len] at h1 h2
  refine ⟨i + 1, by omega, by omega, ?_⟩
  rw [clB_eq (by omega) (by omega) (by omega)]
  simp only [Nat.add_sub_cancel, Bool.and_eq_true, Bool.not_eq_true', decide_eq_false_iff_not, beq_iff_eq]
  refine ⟨fun e => h3 ?_, ?_⟩
  · simp only [lnks, List.getElem_map]
    exact lenc_inj (hl _ (List.getElem_mem h1)) (hm _ (List.getElem_mem h2)) (sl _ (List.getElem_mem h1)) (sm _ (List.getElem_mem h2)) e
  · simpa [lnks, List.map_take] using h4
set_option maxRecDepth 20000 in
set_option maxHeartbeats 6400000 in
theorem equal_walk (A B : Option Addr) (l m : List Lr) (ca cb : Nat) (w : World) (hT : Tab w) (hl : Lks w A l) (hm : Lks w B m) (hlc : l.length ≤ ca) (hcx : ca ≤ 9223372036854775807) (hmc : m.length ≤ cb) (hcy : cb ≤ 9223372036854775807) :
    Calls Tryd.prog 14 #[.slice A l.length ca, .slice B m.length cb] w (LawPost w) := by
  have HT := hide hT
  have HL := hide hl
  have HM := hide hm
  clear hT hl hm
  go_enter Tryd.func14, Tryd.ntmps14
  go_wp2_with fail
  refine (sane_any w HT.out).mono ?_
  rintro e w1 ⟨rfl, hb⟩
  have HB1 := hide hb
  clear hb
  have HF1 := hide (few_any A l ca w1 (HL.out.below HB1.out) (by omega))
  have HF2 := hide (few_any B m cb w1 (HM.out.below HB1.out) (by omega))
  cases hfl : fewL l with
  | false =>
    rw [hfl] at HF1
    clear hfl
    go_wp2_with fail
    refine HF1.out.mono ?_
    rintro e wz ⟨rfl, rfl⟩
    go_wp2_with fail
    go_ret
    exact ⟨rfl, HB1.out⟩
  | true =>
    cases hfm : fewL m with
    | false =>
      rw [hfl] at HF1
      rw [hfm] at HF2
      clear hfl hfm
      go_wp2_with fail
      refine HF1.out.mono ?_
      rintro e wz ⟨rfl, rfl⟩
      go_wp2_with fail
      refine HF2.out.mono ?_
      rintro e wz ⟨rfl, rfl⟩
      go_wp2_with fail
      go_ret
      exact ⟨rfl, HB1.out⟩
    | true =>
      have HSL := hide (fewL_short hfl)
      have HSM := hide (fewL_short hfm)
      have HC1 := hide (fun (W : World) (h : Below w.heap.size w W) => check_any A l ca W (HT.out.below h) (HL.out.below h) hlc hcx HSL.out)
      have HC2 := hide (fun (W : World) (h : Below w.heap.size w W) => check_any B m cb W (HT.out.below h) (HM.out.below h) hmc hcy HSM.out)
      have HH1 := hide (fun (W : World) (h : Below w.heap.size w W) => head_any A l ca W (HT.out.below h) (HL.out.below h) hlc hcx HSL.out)
      have HH2 := hide (fun (W : World) (h : Below w.heap.size w W) => head_any B m cb W (HT.out.below h) (HM.out.below h) hmc hcy HSM.out)
      have H16 := hide (fewL_spec hfl).1
      rw [hfl] at HF1
      rw [hfm] at HF2
      clear hfl hfm
      by_cases h1 : chkA hd0 hdL (lnks l) = 0
      · by_cases h2 : chkA hd0 hdL (lnks m) = 0
        · rw [h1] at HC1
          rw [h2] at HC2
          have HCH := hide (show chainB hd0 hdL (lnks l) = true ∧ chainB hd0 hdL (lnks m) = true from by
            constructor
            · unfold chkA at h1
              split at h1
              · omega
              · split at h1
                · assumption
                · omega
            · unfold chkA at h2
              split at h2
              · omega
              · split at h2
                · assumption
                · omega)
          clear h1 h2
          by_cases h3 : l.length = m.length
          · have h3b : (((l.length : Nat) : Int) != ((m.length : Nat) : Int)) = false := by simp [h3]
            have HLM := hide h3
            clear h3
            obtain ⟨g1, hg1⟩ : ∃ g, hdA (lnks l) = g := ⟨_, rfl⟩
            obtain ⟨g2, hg2⟩ : ∃ g, hdA (lnks m) = g := ⟨_, rfl⟩
            have H32 := hide (show g1.length = 32 ∧ g2.length = 32 from ⟨by rw [← hg1]; exact hdA_32 _, by rw [← hg2]; exact hdA_32 _⟩)
            have HG := hide (And.intro hg1 hg2)
            rw [hg1] at HH1
            rw [hg2] at HH2
            clear hg1 hg2
            by_cases h4 : g1 = g2
            · have HVE := hide (show false = !(g1 == g2) by simp [h4])
              have HG12 := hide h4
              clear h4
              have HSA := hide (fun (W : World) (h : Below w.heap.size w W) => sameLs_any A B l m ca cb W (HL.out.below h) (HM.out.below h) (by omega))
              cases hss : sameL (lnks l) (lnks m) with
              | true =>
                rw [hss] at HSA
                clear hss
                go_wp2_with fail
                refine HF1.out.mono ?_
                rintro e wz ⟨rfl, rfl⟩
                go_wp2_with fail
                refine HF2.out.mono ?_
                rintro e wz ⟨rfl, rfl⟩
                go_wp2_with fail
                refine (HC1.out _ HB1.out).mono ?_
                rintro e wz ⟨rfl, hb⟩
                have HB2 := hide (below_one HB1.out hb)
                clear hb
                go_wp2_with fail
                refine (HC2.out _ HB2.out).mono ?_
                rintro e wz ⟨rfl, hb⟩
                have HB3 := hide (below_one HB2.out hb)
                clear hb
                go_wp2_with fail
                refine (HH1.out _ HB3.out).mono ?_
                rintro e wz ⟨rfl, hb⟩
                have HB4 := hide (below_one HB3.out hb)
                clear hb
                go_wp2_with fail
                refine (HH2.out _ HB4.out).mono ?_
                rintro e wz ⟨rfl, hb⟩
                have HB5 := hide (below_one HB4.out hb)
                clear hb
                go_wp2_with (refine wpList_neqG rfl (.tmp 35) (.tmp 37) 26 rfl g1 g2 rfl rfl H32.out.1 H32.out.2 _ HVE.out ?_)
                refine (HSA.out _ HB5.out).mono ?_
                rintro e wz ⟨rfl, hb⟩
                have HB6 := hide (below_one HB5.out hb)
                clear hb
                go_wp2_with fail
                go_ret
                exact ⟨rfl, HB6.out⟩
              | false =>
                rw [hss] at HSA
                have HEX := hide (clB_some HL.out.each HM.out.each HSL.out HSM.out HCH.out.1 HCH.out.2 HLM.out (by rw [HG.out.1, HG.out.2]; exact HG12.out) (fun e => by rw [sameL_iff.2 e] at hss; cases hss))
                clear hss
                go_wp2_with fail
                refine HF1.out.mono ?_
                rintro e wz ⟨rfl, rfl⟩
                go_wp2_with fail
                refine HF2.out.mono ?_
                rintro e wz ⟨rfl, rfl⟩
                go_wp2_with fail
                refine (HC1.out _ HB1.out).mono ?_
                rintro e wz ⟨rfl, hb⟩
                have HB2 := hide (below_one HB1.out hb)
                clear hb
                go_wp2_with fail
                refine (HC2.out _ HB2.out).mono ?_
                rintro e wz ⟨rfl, hb⟩
                have HB3 := hide (below_one HB2.out hb)
                clear hb
                go_wp2_with fail
                refine (HH1.out _ HB3.out).mono ?_
                rintro e wz ⟨rfl, hb⟩
                have HB4 := hide (below_one HB3.out hb)
                clear hb
                go_wp2_with fail
                refine (HH2.out _ HB4.out).mono ?_
                rintro e wz ⟨rfl, hb⟩
                have HB5 := hide (below_one HB4.out hb)
                clear hb
                go_wp2_with (refine wpList_neqG rfl (.tmp 35) (.tmp 37) 26 rfl g1 g2 rfl rfl H32.out.1 H32.out.2 _ HVE.out ?_)
                refine (HSA.out _ HB5.out).mono ?_
                rintro e wz ⟨rfl, hb⟩
                have HB6 := hide (below_one HB5.out hb)
                clear hb
                go_wp2_with fail
                go_loopw [5] (fun i wr => ∃ k : Nat, 1 ≤ k ∧ k ≤ l.length + 1 ∧ i = .int .i64 k ∧ Hid (Below w.heap.size w wr) ∧ Hid (∀ j, 1 ≤ j → j < k → clB l m j = false)) (fun i _ => l.length + 1 - (intOf i).toNat)
                case atStart => exact ⟨1, by omega, by omega, rfl, HB6, hide (fun j h h' => absurd h (by omega))⟩
                case round =>
                  obtain ⟨k, hk1, hk2, rfl, HBK, HQ⟩ := hrel
                  have h16 : l.length ≤ 16 := H16.out
                  by_cases hkl : k ≤ l.length
                  · have hkl' : ((k : Nat) : Int) ≤ ((l.length : Nat) : Int) := by omega
                    have hka : k ≤ ca := by omega
                    have hkb : k ≤ cb := by have := HLM.out; omega
                    have HCL := hide (fun (W : World) (h : Below wr.heap.size wr W) => show Calls Tryd.prog 44 #[.slice A k ca, .slice B k cb] W fun e w' => e = .returned (.bool (clB l m k)) ∧ Below W.heap.size W w' from by
                      have e1 : (l.take k).length = k := by rw [List.length_take]; omega
                      have e2 : (m.take k).length = k := by have := HLM.out; rw [List.length_take]; omega
                      have n1 : l.take k ≠ [] := fun e => by rw [e] at e1; simp at e1; omega
                      have n2 : m.take k ≠ [] := fun e => by rw [e] at e2; simp at e2; omega
                      have := clash_any A B (l.take k) (m.take k) ca cb W (HT.out.below (below_one HBK.out h)) ((HL.out.below (below_one HBK.out h)).take k) ((HM.out.below (below_one HBK.out h)).take k) (by omega) hcx (by omega) hcy (HSL.out.take k) (HSM.out.take k) n1 n2
                      rw [e1, e2, last_take (l := l) hk1 hkl, last_take (l := m) hk1 (by have := HLM.out; omega), ← clB_eq (l := l) (m := m) hk1 hkl (by have := HLM.out; omega)] at this
                      exact this)
                    have HS0 := hide (show Below wr.heap.size wr wr.drew from (Below.refl _ _).drew)
                    cases hcv : clB l m k with
                    | true =>
                      rw [hcv] at HCL
                      clear hcv
                      go_wp2_with fail
                      refine wp_region_plan4 (fun W' => Below wr.heap.size wr W') (.take 0 (.take 1 (.take 2 (.take 3 (.take 4 (.take 5 (.run 6 .done))))))) (by kernel_rfl) (by kernel_rfl) HS0.out ?_
                      generalize wr.drew = wD at HS0 ⊢
                      (refine plan4_take (o := ?_) (v := ?_) (by simp only [List.getElem?_toArray, List.getElem?_cons_zero]; rfl) (yields_run (by rfl) ?_) ?_; rotate_left; (focus (intro w' _; go_simp <;> with_reducible rfl)); (simp only [Act.put, List.setIfInBounds_toArray, List.set_cons_zero, List.set_cons_succ]))
                      (refine plan4_take (o := ?_) (v := ?_) (by simp only [List.getElem?_toArray, List.getElem?_cons_succ, List.getElem?_cons_zero]; rfl) (yields_run (by rfl) ?_) ?_; rotate_left; (focus (intro w' _; go_simp <;> with_reducible rfl)); (simp only [Act.put, List.setIfInBounds_toArray, List.set_cons_zero, List.set_cons_succ]))
                      (refine plan4_take (o := ?_) (v := ?_) (by simp only [List.getElem?_toArray, List.getElem?_cons_succ, List.getElem?_cons_zero]; rfl) (yields_run (by rfl) ?_) ?_; rotate_left; (focus (intro w' _; go_simp <;> with_reducible rfl)); (simp only [Act.put, List.setIfInBounds_toArray, List.set_cons_zero, List.set_cons_succ]))
                      (refine plan4_take (o := ?_) (v := ?_) (by simp only [List.getElem?_toArray, List.getElem?_cons_succ, List.getElem?_cons_zero]; rfl) (yields_run (by rfl) ?_) ?_; rotate_left; (focus (intro w' _; go_simp <;> with_reducible rfl)); (simp only [Act.put, List.setIfInBounds_toArray, List.set_cons_zero, List.set_cons_succ]))
                      (refine plan4_take (o := ?_) (v := ?_) (by simp only [List.getElem?_toArray, List.getElem?_cons_succ, List.getElem?_cons_zero]; rfl) (yields_run (by rfl) ?_) ?_; rotate_left; (focus (intro w' _; go_simp <;> with_reducible rfl)); (simp only [Act.put, List.setIfInBounds_toArray, List.set_cons_zero, List.set_cons_succ]))
                      (refine plan4_take (o := ?_) (v := ?_) (by simp only [List.getElem?_toArray, List.getElem?_cons_succ, List.getElem?_cons_zero]; rfl) (yields_run (by rfl) ?_) ?_; rotate_left; (focus (intro w' _; go_simp <;> with_reducible rfl)); (simp only [Act.put, List.setIfInBounds_toArray, List.set_cons_zero, List.set_cons_succ]))
                      refine plan4_run (o := ?_) (by simp only [List.getElem?_toArray, List.getElem?_cons_succ, List.getElem?_cons_zero]; rfl) ?_
                      intro R' HK
                      go_wp2_with fail
                      refine (HCL.out _ HS0.out).mono ?_
                      rintro e wN ⟨rfl, hbn⟩
                      have HSn := hide (below_one HS0.out hbn)
                      clear hbn
                      go_wp2_with fail
                      refine HK.out _ _ HSn.out ?_
                      clear HK
                      refine plan4_done ?_
                      go_wp2_with fail
                      go_ret
                      exact ⟨rfl, below_one HBK.out HSn.out⟩
                    | false =>
                      rw [hcv] at HCL
                      have HQ2 := hide (show ∀ j, 1 ≤ j → j < k + 1 → clB l m j = false from fun j h h' => by
                        by_cases e : j = k
                        · rw [e]; exact hcv
                        · exact HQ.out j h (by omega))
                      clear hcv
                      go_wp2_with fail
                      refine wp_region_plan4 (fun W' => Below wr.heap.size wr W') (.take 0 (.take 1 (.take 2 (.take 3 (.take 4 (.take 5 (.run 6 .done))))))) (by kernel_rfl) (by kernel_rfl) HS0.out ?_
                      generalize wr.drew = wD at HS0 ⊢
                      (refine plan4_take (o := ?_) (v := ?_) (by simp only [List.getElem?_toArray, List.getElem?_cons_zero]; rfl) (yields_run (by rfl) ?_) ?_; rotate_left; (focus (intro w' _; go_simp <;> with_reducible rfl)); (simp only [Act.put, List.setIfInBounds_toArray, List.set_cons_zero, List.set_cons_succ]))
                      (refine plan4_take (o := ?_) (v := ?_) (by simp only [List.getElem?_toArray, List.getElem?_cons_succ, List.getElem?_cons_zero]; rfl) (yields_run (by rfl) ?_) ?_; rotate_left; (focus (intro w' _; go_simp <;> with_reducible rfl)); (simp only [Act.put, List.setIfInBounds_toArray, List.set_cons_zero, List.set_cons_succ]))
                      (refine plan4_take (o := ?_) (v := ?_) (by simp only [List.getElem?_toArray, List.getElem?_cons_succ, List.getElem?_cons_zero]; rfl) (yields_run (by rfl) ?_) ?_; rotate_left; (focus (intro w' _; go_simp <;> with_reducible rfl)); (simp only [Act.put, List.setIfInBounds_toArray, List.set_cons_zero, List.set_cons_succ]))
                      (refine plan4_take (o := ?_) (v := ?_) (by simp only [List.getElem?_toArray, List.getElem?_cons_succ, List.getElem?_cons_zero]; rfl) (yields_run (by rfl) ?_) ?_; rotate_left; (focus (intro w' _; go_simp <;> with_reducible rfl)); (simp only [Act.put, List.setIfInBounds_toArray, List.set_cons_zero, List.set_cons_succ]))
                      (refine plan4_take (o := ?_) (v := ?_) (by simp only [List.getElem?_toArray, List.getElem?_cons_succ, List.getElem?_cons_zero]; rfl) (yields_run (by rfl) ?_) ?_; rotate_left; (focus (intro w' _; go_simp <;> with_reducible rfl)); (simp only [Act.put, List.setIfInBounds_toArray, List.set_cons_zero, List.set_cons_succ]))
                      (refine plan4_take (o := ?_) (v := ?_) (by simp only [List.getElem?_toArray, List.getElem?_cons_succ, List.getElem?_cons_zero]; rfl) (yields_run (by rfl) ?_) ?_; rotate_left; (focus (intro w' _; go_simp <;> with_reducible rfl)); (simp only [Act.put, List.setIfInBounds_toArray, List.set_cons_zero, List.set_cons_succ]))
                      refine plan4_run (o := ?_) (by simp only [List.getElem?_toArray, List.getElem?_cons_succ, List.getElem?_cons_zero]; rfl) ?_
                      intro R' HK
                      go_wp2_with fail
                      refine (HCL.out _ HS0.out).mono ?_
                      rintro e wN ⟨rfl, hbn⟩
                      have HSn := hide (below_one HS0.out hbn)
                      clear hbn
                      go_wp2_with fail
                      refine HK.out _ _ HSn.out ?_
                      clear HK
                      refine plan4_done ?_
                      go_wp2_with fail
                      go_roundw
                      case rel => exact ⟨k + 1, by omega, by omega, by go_num, hide (below_one HBK.out HSn.out), HQ2⟩
                      case measure => simp [intOf]; omega
                  · obtain ⟨j, hj1, hj2, hj3⟩ := HEX.out
                    have := HQ.out j hj1 (by omega)
                    rw [hj3] at this
                    cases this
            · have HVE := hide (show true = !(g1 == g2) by simp [h4])
              clear h4
              go_wp2_with fail
              refine HF1.out.mono ?_
              rintro e wz ⟨rfl, rfl⟩
              go_wp2_with fail
              refine HF2.out.mono ?_
              rintro e wz ⟨rfl, rfl⟩
              go_wp2_with fail
              refine (HC1.out _ HB1.out).mono ?_
              rintro e wz ⟨rfl, hb⟩
              have HB2 := hide (below_one HB1.out hb)
              clear hb
              go_wp2_with fail
              refine (HC2.out _ HB2.out).mono ?_
              rintro e wz ⟨rfl, hb⟩
              have HB3 := hide (below_one HB2.out hb)
              clear hb
              go_wp2_with fail
              refine (HH1.out _ HB3.out).mono ?_
              rintro e wz ⟨rfl, hb⟩
              have HB4 := hide (below_one HB3.out hb)
              clear hb
              go_wp2_with fail
              refine (HH2.out _ HB4.out).mono ?_
              rintro e wz ⟨rfl, hb⟩
              have HB5 := hide (below_one HB4.out hb)
              clear hb
              go_wp2_with (refine wpList_neqG rfl (.tmp 35) (.tmp 37) 26 rfl g1 g2 rfl rfl H32.out.1 H32.out.2 _ HVE.out ?_)
              go_ret
              exact ⟨rfl, HB5.out⟩
          · have h3b : (((l.length : Nat) : Int) != ((m.length : Nat) : Int)) = true := by simpa using fun h : ((l.length : Nat) : Int) = m.length => h3 (by omega)
            clear h3
            go_wp2_with fail
            refine HF1.out.mono ?_
            rintro e wz ⟨rfl, rfl⟩
            go_wp2_with fail
            refine HF2.out.mono ?_
            rintro e wz ⟨rfl, rfl⟩
            go_wp2_with fail
            refine (HC1.out _ HB1.out).mono ?_
            rintro e wz ⟨rfl, hb⟩
            have HB2 := hide (below_one HB1.out hb)
            clear hb
            go_wp2_with fail
            refine (HC2.out _ HB2.out).mono ?_
            rintro e wz ⟨rfl, hb⟩
            have HB3 := hide (below_one HB2.out hb)
            clear hb
            go_wp2_with fail
            go_ret
            exact ⟨rfl, HB3.out⟩
        · have h2b : (chkA hd0 hdL (lnks m) != 0) = true := by simpa using h2
          rw [h1] at HC1
          generalize chkA hd0 hdL (lnks m) = v at *
          clear h1 h2
          go_wp2_with fail
          refine HF1.out.mono ?_
          rintro e wz ⟨rfl, rfl⟩
          go_wp2_with fail
          refine HF2.out.mono ?_
          rintro e wz ⟨rfl, rfl⟩
          go_wp2_with fail
          refine (HC1.out _ HB1.out).mono ?_
          rintro e wz ⟨rfl, hb⟩
          have HB2 := hide (below_one HB1.out hb)
          clear hb
          go_wp2_with fail
          refine (HC2.out _ HB2.out).mono ?_
          rintro e wz ⟨rfl, hb⟩
          have HB3 := hide (below_one HB2.out hb)
          clear hb
          go_wp2_with fail
          go_ret
          exact ⟨rfl, HB3.out⟩
      · have h1b : (chkA hd0 hdL (lnks l) != 0) = true := by simpa using h1
        generalize chkA hd0 hdL (lnks l) = v at *
        clear h1
        go_wp2_with fail
        refine HF1.out.mono ?_
        rintro e wz ⟨rfl, rfl⟩
        go_wp2_with fail
        refine HF2.out.mono ?_
        rintro e wz ⟨rfl, rfl⟩
        go_wp2_with fail
        refine (HC1.out _ HB1.out).mono ?_
        rintro e wz ⟨rfl, hb⟩
        have HB2 := hide (below_one HB1.out hb)
        clear hb
        go_wp2_with fail
        go_ret
        exact ⟨rfl, HB2.out⟩
end Go.Proofs.YtalgceplcahgbaaDoor
