/- A store into a row of links of the call's own. -/
import Derived.Test.YtalgceplcahgbaaDoorRap
import Derived.Test.YtalgceplcahgbaaDoorEqw
import Derived.Test.YtalgceplcahgbaaDoorSan
namespace Go.Proofs.YtalgceplcahgbaaDoor
open Go.RowKit Go.Shelf

theorem own_store {w : World} {base n : Nat} {v : Value} {l : List Lr} (h : w.ownsRow base 60 35 v n (lcs l)) (hn : n = l.length) (hp : ∀ r ∈ l, r.x.prev.length = 32) (k : Nat) (hk : k < n) (r : Lr) (hr : r.x.prev.length = 32) :
    ∃ g cap, v = .slice (some ⟨g, 0, none⟩) n cap ∧ base ≤ g ∧ n ≤ cap ∧ cap ≤ 9223372036854775807 ∧ w.there g (k * 35) 35 ∧ (w.setCells g (k * 35) r.cs).heap.size = w.heap.size ∧ g < w.heap.size ∧
      ∀ i (hi : i < (l.set k r).length), (w.setCells g (k * 35) r.cs).rangeAt g (i * 35) ((l.set k r)[i]).cs := by
  rcases h.2 with ⟨rfl, hz⟩ | ⟨g, cap, cur, rfl, hg, hcur, hc, hm, hsz, htake⟩
  · omega
  · have hrl : r.cs.length = 35 := by simp [Lr.cs, bc_len, hr]
    have hth : w.there g (k * 35) 35 := fun j hj => by
      have h5 : w.cell? ⟨g, k * 35 + j, none⟩ = cur[k * 35 + j]? := cell_of_row w g _ _ _ _ hcur
      refine ⟨?_, frozen_of_row w g _ _ _ hcur⟩
      rw [h5, Array.getElem?_eq_getElem (by omega)]
      rfl
    have hrg : w.rangeAt g 0 (lcs l) := fun j u hu => by
      have hj := (List.getElem?_eq_some_iff.1 hu).1
      have h5 : w.cell? ⟨g, j, none⟩ = cur[j]? := cell_of_row w g j _ _ _ hcur
      have h6 : (List.take (n * 35) cur.toList)[j]? = some u := (congrArg (fun l => l[j]?) htake).trans hu
      rw [List.getElem?_take] at h6
      rw [Nat.zero_add, h5]
      split at h6
      · rw [← h6]; simp
      · cases h6
    have hsize : ∀ (vs : List Value) (o : Nat) (w : World), (w.setCells g o vs).heap.size = w.heap.size := by
      intro vs
      induction vs with
      | nil => exact fun o w => rfl
      | cons v vs ih =>
        intro o w
        rw [World.setCells, ih]
        simp [World.setCell]
    refine ⟨g, cap, rfl, hg, hc, by unfold maxLen at hm; omega, hth, hsize _ _ _, (h.lt g rfl).2, fun i hi => ?_⟩
    rw [List.length_set] at hi
    by_cases e : i = k
    · subst e
      rw [List.getElem_set_self]
      exact World.rangeAt_setCells_same w g (i * 35) r.cs (by rw [hrl]; exact hth)
    · rw [List.getElem_set_ne (fun h => e h.symm)]
      have h1 := range_lcs hp hrg i hi
      rw [Nat.zero_add] at h1
      have hil : (l[i]).cs.length = 35 := by simp [Lr.cs, bc_len, hp _ (List.getElem_mem hi)]
      refine World.rangeAt_setCells_apart h1 g (k * 35) r.cs (.inr ?_)
      rw [hil, hrl]
      omega
end Go.Proofs.YtalgceplcahgbaaDoor

/- ChainChanged answers true. -/
namespace Go.Proofs.YtalgceplcahgbaaDoor
open Go.RowKit Go.Shelf

theorem lnks_set (l : List Lr) (k : Nat) (x : Lr) : lnks (l.set k x) = (lnks l).set k x.x := by simp [lnks, List.map_set]
/-- what clash finds where a link was replaced and both are chains -/
theorem clB_set {w w' : World} {l : List Lr} {k : Nat} {x : Lr} (hl : ∀ r ∈ l, r.In w) (hx : x.In w') (sl : Short l) (sx : x.x.data.length ≤ 300) (cl : chainB hd0 hdL (lnks l) = true) (cm : chainB hd0 hdL (lnks (l.set k x)) = true) (hk : k + 1 < l.length) (hne : (l[k]).x ≠ x.x) : clB l (l.set k x) (k + 1) = true := by
  rw [clB_eq (by omega) (by omega) (by simp; omega)]
  simp only [Nat.add_sub_cancel, List.getElem_set_self, Bool.and_eq_true, Bool.not_eq_true', decide_eq_false_iff_not, beq_iff_eq]
  refine ⟨fun e => hne (lenc_inj (hl _ (List.getElem_mem (by omega))) hx (sl _ (List.getElem_mem (by omega))) (by omega) e), ?_⟩
  have := changed_clash hd0 hdL (l := lnks l) (k := k) (x := x.x) cl (by rw [← lnks_set]; exact cm) (by rw [lnks_len]; exact hk)
  rw [← lnks_set] at this
  simpa [lnks, List.map_take] using this
theorem chk_chain0 {l : List Ln} (h : chkA hd0 hdL l = 0) : chainB hd0 hdL l = true := by
  unfold chkA at h
  split at h
  · omega
  · split at h
    · assumption
    · omega

set_option maxRecDepth 20000 in
set_option maxHeartbeats 12800000 in
theorem changed_walk (A : Option Addr) (l : List Lr) (ca : Nat) (at8 : UInt8) (x : Lr) (w : World) (hT : Tab w) (hl : Lks w A l) (hlc : l.length ≤ ca) (hcx : ca ≤ 9223372036854775807) (hA : A = none → ca = 0) (hx : x.In w) :
    Calls Tryd.prog 15 #[.slice A l.length ca, .int .u8 ((at8.toNat : Nat) : Int), x.v] w (LawPost w) := by
  have HT := hide hT
  have HL := hide hl
  have HXI := hide hx
  have HA := hide hA
  have HX0 := hide (Blk.new w 60 x.cs)
  have HBN := hide (below_new w (.cells x.cs.toArray 60))
  have HZ60 := hide (size60 hx)
  clear hT hl hx hA
  go_enter Tryd.func15, Tryd.ntmps15
  go_upto_region 1 with fail
  refine name_code ?_
  intro V hV
  have HXV := hide (show Blk V w.heap.size 60 x.cs from by rw [hV.out]; exact HX0.out)
  have HBV := hide (show Below w.heap.size w V from by rw [hV.out]; exact HBN.out)
  have HVZ := hide (show w.heap.size < V.heap.size from HXV.out.lt)
  clear hV HX0 HBN
  have HSA := hide (sane_any V (HT.out.below HBV.out))
  have HF1 := hide (fun (W : World) (h : Below w.heap.size w W) => few_any A l ca W (HL.out.below h) (by omega))
  have HXD := hide (fun (W : World) (h : Below V.heap.size V W) => show W.cell? ⟨w.heap.size, 34, none⟩ = some x.dv from ((HXV.out.below h HVZ.out).cell 34).trans (Lr.c34 HXI.out))
  have HXR := hide (fun (W : World) (h : Below V.heap.size V W) => show W.rangeAt w.heap.size 0 x.cs from fun j v hv => by rw [Nat.zero_add, (HXV.out.below h HVZ.out).cell j]; exact hv)
  go_wp2_with fail
  refine HSA.out.mono ?_
  rintro e w1 ⟨rfl, hb⟩
  have HV1 := hide hb
  have HB1 := hide (below_one HBV.out hb)
  clear hb HSA
  cases hfl : fewL l with
  | false =>
    rw [hfl] at HF1
    clear hfl
    go_wp2_with fail
    refine (HF1.out _ HB1.out).mono ?_
    rintro e wz ⟨rfl, rfl⟩
    go_wp2_with fail
    go_ret
    exact ⟨rfl, HB1.out⟩
  | true =>
    have HSL := hide (fewL_short hfl)
    have H16 := hide (fewL_spec hfl).1
    rw [hfl] at HF1
    clear hfl
    by_cases h0 : l.length = 0
    · have h0b : ((l.length : Int) == 0) = true := by simpa using h0
      clear h0
      go_wp2_with fail
      refine (HF1.out _ HB1.out).mono ?_
      rintro e wz ⟨rfl, rfl⟩
      go_wp2_with fail
      go_ret
      exact ⟨rfl, HB1.out⟩
    · have h0b : ((l.length : Int) == 0) = false := by simpa using h0
      have h0i : ¬ (l.length : Int) = 0 := by omega
      have hpos : 0 < l.length := by omega
      have hcell := HXD.out w1 HV1.out
      by_cases h3 : 300 < x.x.data.length
      · have h3d : decide ((300 : Int) < (x.x.data.length : Int)) = true := decide_eq_true (by omega)
        clear h0 h3
        go_wp2_with fail
        refine (HF1.out _ HB1.out).mono ?_
        rintro e wz ⟨rfl, rfl⟩
        go_wp2_with fail
        go_ret
        exact ⟨rfl, HB1.out⟩
      · have h3d : decide ((300 : Int) < (x.x.data.length : Int)) = false := decide_eq_false (by omega)
        have HX3 := hide (show x.x.data.length ≤ 300 by omega)
        have HC1 := hide (fun (W : World) (h : Below w.heap.size w W) => check_any A l ca W (HT.out.below h) (HL.out.below h) hlc hcx HSL.out)
        clear h0 h3
        by_cases hc1 : chkA hd0 hdL (lnks l) = 0
        · have HCL := hide (chk_chain0 hc1)
          rw [hc1] at HC1
          clear hc1
          go_wp2_with fail
          refine (HF1.out _ HB1.out).mono ?_
          rintro e wz ⟨rfl, rfl⟩
          go_wp2_with fail
          refine (HC1.out _ HB1.out).mono ?_
          rintro e w2 ⟨rfl, hb⟩
          have HV2 := hide (below_one HV1.out hb)
          have HB2 := hide (below_one HB1.out hb)
          clear hb hcell HV1 HB1
          obtain ⟨k, hk⟩ : ∃ k, at8.toNat % l.length = k := ⟨_, rfl⟩
          have hkl : k < l.length := by rw [← hk]; exact Nat.mod_lt _ hpos
          have hkl' : (k : Int) < (l.length : Int) := by omega
          have hcc : IntKind.i64.wrap ((at8.toNat : Nat) : Int) = ((at8.toNat : Nat) : Int) := IntWalk.i64_in _ (by have := at8.toNat_lt; omega)
          have hmod : ((at8.toNat : Nat) : Int).tmod (l.length : Int) = (k : Int) := by rw [← hk]; exact IntWalk.up_tmod rfl rfl
          have hmodw : IntKind.i64.wrap (((at8.toNat : Nat) : Int).tmod (l.length : Int)) = (k : Int) := by rw [hmod]; exact IntWalk.i64_in _ (by omega)
          clear hk
          go_upto_region 6 with fail
          clear hcc hmod hmodw
          obtain ⟨b, o, hAe, hb0, hrg, hin⟩ := (HL.out.below HB2.out).at hkl
          have HRI := hide hin
          have HRG := hide hrg
          have HBL := hide hb0
          have HLK := hide (show ∀ r, l[k] = r → (l[k]).x = r.x from fun r h => by rw [h])
          obtain ⟨r, hr⟩ : ∃ r, l[k] = r := ⟨_, rfl⟩
          have HRX := hide (HLK.out r hr)
          rw [hr] at HRI HRG
          clear hrg hin hb0 hr HLK
          subst hAe
          have HS0 := hide (show Below w2.heap.size w2 w2.drew from (Below.refl _ _).drew)
          refine wp_region_plan4 (fun W' => Below w2.heap.size w2 W') (.take 0 (.take 1 (.take 2 (.take 3 (.take 4 (.run 5 .done)))))) (by kernel_rfl) (by kernel_rfl) HS0.out ?_
          generalize w2.drew = wD at HS0 ⊢
          (refine plan4_take (o := ?_) (v := ?_) (by simp only [List.getElem?_toArray, List.getElem?_cons_zero]; rfl) (yields_run (by rfl) ?_) ?_; rotate_left; (focus (intro w' _; go_simp <;> with_reducible rfl)); (simp only [Act.put, List.setIfInBounds_toArray, List.set_cons_zero, List.set_cons_succ]))
          (refine plan4_take (o := ?_) (v := ?_) (by simp only [List.getElem?_toArray, List.getElem?_cons_succ, List.getElem?_cons_zero]; rfl) (yields_run (by rfl) ?_) ?_; rotate_left; (focus (intro w' _; go_simp <;> with_reducible rfl)); (simp only [Act.put, List.setIfInBounds_toArray, List.set_cons_zero, List.set_cons_succ]))
          (refine plan4_take (o := ?_) (v := ?_) (by simp only [List.getElem?_toArray, List.getElem?_cons_succ, List.getElem?_cons_zero]; rfl) (yields_run (by rfl) ?_) ?_; rotate_left; (focus (intro w' _; go_simp <;> with_reducible rfl)); (simp only [Act.put, List.setIfInBounds_toArray, List.set_cons_zero, List.set_cons_succ]))
          (refine plan4_take (o := ?_) (v := .agg r.cs.toArray) (by simp only [List.getElem?_toArray, List.getElem?_cons_succ, List.getElem?_cons_zero]; rfl) ?_ ?_; (focus (exact yieldsIf_load_mid (by rfl) 60 (.tmp 37) rfl b (o + k * 35) rfl r.cs _ (fun W h => range_below HRG.out h HBL.out) Tryd.underlying60 rfl (size60 HRI.out))); (simp only [Act.put, List.setIfInBounds_toArray, List.set_cons_zero, List.set_cons_succ]))
          (refine plan4_take (o := ?_) (v := .agg x.cs.toArray) (by simp only [List.getElem?_toArray, List.getElem?_cons_succ, List.getElem?_cons_zero]; rfl) ?_ ?_; (focus (exact yieldsIf_load_mid (by rfl) 60 (.tmp 5) rfl w.heap.size 0 rfl x.cs _ (fun W h => HXR.out W (below_one HV2.out h)) Tryd.underlying60 rfl HZ60.out)); (simp only [Act.put, List.setIfInBounds_toArray, List.set_cons_zero, List.set_cons_succ]))
          refine plan4_run (o := ?_) (by simp only [List.getElem?_toArray, List.getElem?_cons_succ, List.getElem?_cons_zero]; rfl) ?_
          intro R' HK
          go_wp2_with fail
          refine (sameLink_any r x wD (HRI.out.below HS0.out) (HXI.out.below (below_one HB2.out HS0.out))).mono ?_
          rintro e w3 ⟨rfl, hbn⟩
          have HS3 := hide (below_one HS0.out hbn)
          have HB3 := hide (below_one HB2.out HS3.out)
          have HV3 := hide (below_one HV2.out HS3.out)
          clear hbn
          go_wp2_with fail
          refine HK.out _ _ HS3.out ?_
          clear HK
          refine plan4_done ?_
          cases hsm : r.x.same x.x with
          | true =>
            clear hsm
            go_wp2_with fail
            go_ret
            exact ⟨rfl, HB3.out⟩
          | false =>
            have HNE := hide (show (l[k]).x ≠ x.x from by rw [HRX.out]; exact Ln.same_no.1 hsm)
            clear hsm HRX HRG HRI HBL HS0 HS3 HB2 HV2
            go_upto_region 8 with fail
            have HW3 := hide (own_empty w3 w3.heap.size 60 60 35 rfl (Nat.le_refl _))
            have HB4 := hide (below_one HB3.out (below_new w3 (.cells #[] 60)))
            have HV4 := hide (below_one HV3.out (below_new w3 (.cells #[] 60)))
            go_upto_region 9 with (at_builtin; refine wpList_of_wp rfl (wp_app60 (.tmp 41) (.tmp 42) rfl w3.heap.size _ 0 [] rfl HW3.out (some ⟨b, o, none⟩) l.length ca l rfl rfl (fun h => by cases h) (HL.out.below HB4.out) (by have := H16.out; omega) (by simp) l.length l (by omega) rfl ?_))
            intro v4 W4 hv4 hg4
            have HO4 := hide hv4
            have HB5 := hide (show Below w.heap.size w W4 from HB4.out.grown hg4 HB4.out.size (fun q hq => Nat.le_trans HB3.out.size (HW3.out.lt q hq).1))
            have HV5 := hide (show Below V.heap.size V W4 from HV4.out.grown hg4 HV4.out.size (fun q hq => Nat.le_trans HV3.out.size (HW3.out.lt q hq).1))
            have HSZ := hide (show w.heap.size ≤ w3.heap.size ∧ V.heap.size ≤ w3.heap.size from ⟨HB3.out.size, HV3.out.size⟩)
            clear hv4 hg4 HW3 HB4 HV4 HB3 HV3
            obtain ⟨g, cap, rfl, hg, hgc, hgc2, hth, hzs, hglt, hrs⟩ := own_store HO4.out rfl (fun q hq => (HL.out.each q hq).p32) k hkl x HXI.out.p32
            have HTH := hide hth
            have HBS := hide (below_setCells HB5.out (g := g) (by have := HSZ.out.1; omega) x.cs (k * 35))
            have HML := hide (show Lks (W4.setCells g (k * 35) x.cs) (some ⟨g, 0, none⟩) (l.set k x) from ⟨fun _ => ⟨g, 0, rfl, by rw [hzs]; exact hglt, fun i hi => by rw [Nat.zero_add]; exact hrs i hi⟩, fun q hq => by
              rcases List.mem_or_eq_of_mem_set hq with hq | rfl
              · exact (HL.out.each q hq).below HBS.out
              · exact HXI.out.below HBS.out⟩)
            have HXW := hide (HXR.out W4 HV5.out)
            have HGC := hide (And.intro hgc hgc2)
            clear hth hrs hzs hglt hg HO4 HV5 HB5
            go_upto_region 9 with fail
            generalize hW6 : W4.setCells g (k * 35) x.cs = W6 at *
            have HWE := hide hW6
            clear hW6
            go_upto_region 10 with (first | (refine wpList_load_mid rfl 60 (.tmp 5) rfl w.heap.size 0 rfl x.cs _ HXW.out Tryd.underlying60 rfl HZ60.out ?_) | (refine wpList_store_mid rfl 60 (.tmp 47) (.tmp 46) rfl g (k * 35) x.cs.toArray rfl rfl (by rw [List.size_toArray, Lr.cs_len HXI.out]; exact HTH.out) (by rw [List.size_toArray]; exact HZ60.out) (all_oneCell_toArray (Lr.cs_one _)) ?_))
            refine name_code ?_
            intro V6 hV6
            have HMV := hide (show Lks V6 (some ⟨g, 0, none⟩) (l.set k x) from by rw [hV6.out]; rw [← HWE.out] at HML; simpa using HML.out)
            have HBM := hide (show Below w.heap.size w V6 from by rw [hV6.out]; rw [← HWE.out] at HBS; simpa using HBS.out)
            clear HTH HXW HML HBS HWE hV6
            have HSM := hide (show Short (l.set k x) from fun q hq => by
              rcases List.mem_or_eq_of_mem_set hq with hq | rfl
              · exact HSL.out q hq
              · have := HX3.out; omega)
            have HLS := hide (show (l.set k x).length = l.length from by simp)
            have HCM := hide (fun (W : World) (h : Below V6.heap.size V6 W) => show Calls Tryd.prog 35 #[.slice (some ⟨g, 0, none⟩) l.length cap] W fun e w' => e = .returned (.int .i64 (chkA hd0 hdL (lnks (l.set k x)))) ∧ Below W.heap.size W w' from by
              have := check_any (some ⟨g, 0, none⟩) (l.set k x) cap W (HT.out.below (below_one HBM.out h)) (HMV.out.below h) (by rw [HLS.out]; exact HGC.out.1) HGC.out.2 HSM.out
              rw [HLS.out] at this
              exact this)
            have hsub : IntKind.i64.wrap ((l.length : Int) - 1) = ((l.length - 1 : Nat) : Int) := by rw [IntWalk.i64_in _ (by have := H16.out; omega)]; omega
            by_cases hc2 : chkA hd0 hdL (lnks (l.set k x)) = 0
            · have HCL2 := hide (chk_chain0 hc2)
              rw [hc2] at HCM
              clear hc2
              obtain ⟨n1, hn1⟩ : ∃ n1, l.length - 1 = n1 := ⟨_, rfl⟩
              rw [hn1] at hsub
              have hsub2 : (l.length : Int) - 1 = (n1 : Int) := by omega
              by_cases hk1 : k = n1
              · have hk1b : ((k : Int) == (n1 : Int)) = true := by simp [hk1]
                clear hk1 hn1
                go_wp2_with fail
                refine (HCM.out V6 (Below.refl _ _)).mono ?_
                rintro e w7 ⟨rfl, hb⟩
                have HB7 := hide (below_one HBM.out hb)
                clear hb
                go_wp2_with fail
                go_ret
                exact ⟨rfl, HB7.out⟩
              · have hk1b : ((k : Int) == (n1 : Int)) = false := by simp; omega
                have hkn : k + 1 < l.length := by omega
                have HCB := hide (clB_set HL.out.each HXI.out HSL.out HX3.out HCL.out HCL2.out hkn HNE.out)
                have HCC := hide (fun (W : World) (h : Below V6.heap.size V6 W) => show Calls Tryd.prog 44 #[.slice (some ⟨b, o, none⟩) (k + 1) ca, .slice (some ⟨g, 0, none⟩) (k + 1) cap] W fun e w' => e = .returned (.bool true) ∧ Below W.heap.size W w' from by
                  have e1 : (l.take (k + 1)).length = k + 1 := by rw [List.length_take]; omega
                  have e2 : ((l.set k x).take (k + 1)).length = k + 1 := by rw [List.length_take, HLS.out]; omega
                  have n1 : l.take (k + 1) ≠ [] := fun e => by rw [e] at e1; simp at e1
                  have n2 : (l.set k x).take (k + 1) ≠ [] := fun e => by rw [e] at e2; simp at e2
                  have := clash_any (some ⟨b, o, none⟩) (some ⟨g, 0, none⟩) (l.take (k + 1)) ((l.set k x).take (k + 1)) ca cap W (HT.out.below (below_one HBM.out h)) ((HL.out.below (below_one HBM.out h)).take (k + 1)) ((HMV.out.below h).take (k + 1)) (by omega) hcx (by have := HGC.out.1; omega) HGC.out.2 (HSL.out.take (k + 1)) (HSM.out.take (k + 1)) n1 n2
                  rw [e1, e2, last_take (l := l) (by omega) (by omega), last_take (l := l.set k x) (by omega) (by rw [HLS.out]; omega), ← clB_eq (l := l) (m := l.set k x) (by omega) (by omega) (by rw [HLS.out]; omega), HCB.out] at this
                  exact this)
                have hadd : IntKind.i64.wrap ((k : Int) + 1) = ((k + 1 : Nat) : Int) := by rw [IntWalk.i64_in _ (by omega)]; omega
                have hb1 : (k : Int) + 1 ≤ (ca : Int) := by omega
                have hb2 : (k : Int) + 1 ≤ (cap : Int) := by have := HGC.out.1; omega
                have hb0 : (0 : Int) ≤ (k : Int) + 1 := by omega
                clear hk1 hn1 hkn
                go_wp2_with fail
                refine (HCM.out V6 (Below.refl _ _)).mono ?_
                rintro e w7 ⟨rfl, hb⟩
                have HV7 := hide hb
                have HB7 := hide (below_one HBM.out hb)
                clear hb
                go_wp2_with fail
                have HS0 := hide (show Below w7.heap.size w7 w7.drew from (Below.refl _ _).drew)
                refine wp_region_plan4 (fun W' => Below w7.heap.size w7 W') (.take 0 (.take 1 (.take 2 (.take 3 (.take 4 (.take 5 (.take 6 (.take 7 (.run 8 (.run 9 .done)))))))))) (by kernel_rfl) (by kernel_rfl) HS0.out ?_
                generalize w7.drew = wE at HS0 ⊢
                (refine plan4_take (o := ?_) (v := ?_) (by simp only [List.getElem?_toArray, List.getElem?_cons_zero]; rfl) (yields_run (by rfl) ?_) ?_; rotate_left; (focus (intro w' _; go_simp <;> with_reducible rfl)); (simp only [Act.put, List.setIfInBounds_toArray, List.set_cons_zero, List.set_cons_succ]))
                (refine plan4_take (o := ?_) (v := ?_) (by simp only [List.getElem?_toArray, List.getElem?_cons_succ, List.getElem?_cons_zero]; rfl) (yields_run (by rfl) ?_) ?_; rotate_left; (focus (intro w' _; go_simp <;> with_reducible rfl)); (simp only [Act.put, List.setIfInBounds_toArray, List.set_cons_zero, List.set_cons_succ]))
                (refine plan4_take (o := ?_) (v := ?_) (by simp only [List.getElem?_toArray, List.getElem?_cons_succ, List.getElem?_cons_zero]; rfl) (yields_run (by rfl) ?_) ?_; rotate_left; (focus (intro w' _; go_simp <;> with_reducible rfl)); (simp only [Act.put, List.setIfInBounds_toArray, List.set_cons_zero, List.set_cons_succ]))
                (refine plan4_take (o := ?_) (v := ?_) (by simp only [List.getElem?_toArray, List.getElem?_cons_succ, List.getElem?_cons_zero]; rfl) (yields_run (by rfl) ?_) ?_; rotate_left; (focus (intro w' _; go_simp <;> with_reducible rfl)); (simp only [Act.put, List.setIfInBounds_toArray, List.set_cons_zero, List.set_cons_succ]))
                (refine plan4_take (o := ?_) (v := ?_) (by simp only [List.getElem?_toArray, List.getElem?_cons_succ, List.getElem?_cons_zero]; rfl) (yields_run (by rfl) ?_) ?_; rotate_left; (focus (intro w' _; go_simp <;> with_reducible rfl)); (simp only [Act.put, List.setIfInBounds_toArray, List.set_cons_zero, List.set_cons_succ]))
                (refine plan4_take (o := ?_) (v := ?_) (by simp only [List.getElem?_toArray, List.getElem?_cons_succ, List.getElem?_cons_zero]; rfl) (yields_run (by rfl) ?_) ?_; rotate_left; (focus (intro w' _; go_simp <;> with_reducible rfl)); (simp only [Act.put, List.setIfInBounds_toArray, List.set_cons_zero, List.set_cons_succ]))
                (refine plan4_take (o := ?_) (v := ?_) (by simp only [List.getElem?_toArray, List.getElem?_cons_succ, List.getElem?_cons_zero]; rfl) (yields_run (by rfl) ?_) ?_; rotate_left; (focus (intro w' _; go_simp <;> with_reducible rfl)); (simp only [Act.put, List.setIfInBounds_toArray, List.set_cons_zero, List.set_cons_succ]))
                (refine plan4_take (o := ?_) (v := ?_) (by simp only [List.getElem?_toArray, List.getElem?_cons_succ, List.getElem?_cons_zero]; rfl) (yields_run (by rfl) ?_) ?_; rotate_left; (focus (intro w' _; go_simp <;> with_reducible rfl)); (simp only [Act.put, List.setIfInBounds_toArray, List.set_cons_zero, List.set_cons_succ]))
                refine plan4_run (o := ?_) (by simp only [List.getElem?_toArray, List.getElem?_cons_succ, List.getElem?_cons_zero]; rfl) ?_
                intro R' HK
                go_wp2_with fail
                refine (HCC.out wE (below_one HV7.out HS0.out)).mono ?_
                rintro e w8 ⟨rfl, hbn⟩
                have HS8 := hide (below_one HS0.out hbn)
                clear hbn
                go_wp2_with fail
                refine HK.out _ _ HS8.out ?_
                clear HK
                refine plan4_run (o := ?_) (by simp only [List.getElem?_toArray, List.getElem?_cons_succ, List.getElem?_cons_zero]; rfl) ?_
                intro R' HK
                go_wp2_with fail
                refine HK.out _ _ HS8.out ?_
                clear HK
                refine plan4_done ?_
                go_wp2_with fail
                go_ret
                exact ⟨rfl, below_one HB7.out HS8.out⟩
            · have hc2b : (chkA hd0 hdL (lnks (l.set k x)) != 0) = true := by simpa using hc2
              generalize chkA hd0 hdL (lnks (l.set k x)) = v at *
              clear hc2
              go_wp2_with fail
              refine (HCM.out V6 (Below.refl _ _)).mono ?_
              rintro e w7 ⟨rfl, hb⟩
              have HB7 := hide (below_one HBM.out hb)
              clear hb
              go_wp2_with fail
              go_ret
              exact ⟨rfl, HB7.out⟩
        · have hc1b : (chkA hd0 hdL (lnks l) != 0) = true := by simpa using hc1
          generalize chkA hd0 hdL (lnks l) = v at *
          clear hc1
          go_wp2_with fail
          refine (HF1.out _ HB1.out).mono ?_
          rintro e wz ⟨rfl, rfl⟩
          go_wp2_with fail
          refine (HC1.out _ HB1.out).mono ?_
          rintro e w2 ⟨rfl, hb⟩
          have HB2 := hide (below_one HB1.out hb)
          clear hb
          go_wp2_with fail
          go_ret
          exact ⟨rfl, HB2.out⟩
end Go.Proofs.YtalgceplcahgbaaDoor
