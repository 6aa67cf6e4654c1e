/- Two chains part: the statement's walk. -/
import Derived.Test.YtalgceplcahgbaaDoorRfs
import Derived.Test.YtalgceplcahgbaaDoorSan
namespace Go.Proofs.YtalgceplcahgbaaDoor
open Go.RowKit Go.Shelf

theorem partA_bad {a b : List Ln} (h : (partA a b).2.2 ≠ 0) : (partA a b).1 = 0 ∧ (partA a b).2.1 = false ∧ (partA b a).2.2 ≠ 0 := by
  unfold partA at *
  by_cases h1 : chkA hd0 hdL a = 0
  · by_cases h2 : chkA hd0 hdL b = 0
    · by_cases h3 : 0 < a.length ∧ 0 < b.length ∧ (a.getD 0 ⟨0, 0, [], []⟩).node ≠ (b.getD 0 ⟨0, 0, [], []⟩).node
      · have h4 : 0 < b.length ∧ 0 < a.length ∧ (b.getD 0 ⟨0, 0, [], []⟩).node ≠ (a.getD 0 ⟨0, 0, [], []⟩).node := ⟨h3.2.1, h3.1, fun e => h3.2.2 e.symm⟩
        rw [if_neg (by simp [h1]), if_neg (by simp [h2]), if_pos h3]
        rw [if_neg (by simp [h2]), if_neg (by simp [h1]), if_pos h4]
        exact ⟨rfl, rfl, by decide⟩
      · rw [if_neg (by simp [h1]), if_neg (by simp [h2]), if_neg h3] at h
        exact absurd rfl h
    · rw [if_neg (by simp [h1]), if_pos h2, if_pos h2]
      exact ⟨rfl, rfl, h2⟩
  · rw [if_pos h1]
    refine ⟨rfl, rfl, ?_⟩
    by_cases h2 : chkA hd0 hdL b = 0
    · rw [if_neg (by simp [h2]), if_pos h1]; exact h1
    · rw [if_pos h2]; exact h2
theorem partA_good {a b : List Ln} (h : (partA a b).2.2 = 0) : partA a b = ((fdA (firstD a b (min a.length b.length))).1, (fdA (firstD a b (min a.length b.length))).2, 0) ∧ partA b a = partA a b := by
  unfold partA at *
  by_cases h1 : chkA hd0 hdL a = 0
  · by_cases h2 : chkA hd0 hdL b = 0
    · by_cases h3 : 0 < a.length ∧ 0 < b.length ∧ (a.getD 0 ⟨0, 0, [], []⟩).node ≠ (b.getD 0 ⟨0, 0, [], []⟩).node
      · rw [if_neg (by simp [h1]), if_neg (by simp [h2]), if_pos h3] at h
        exact absurd h (by decide)
      · have h4 : ¬ (0 < b.length ∧ 0 < a.length ∧ (b.getD 0 ⟨0, 0, [], []⟩).node ≠ (a.getD 0 ⟨0, 0, [], []⟩).node) := fun h4 => h3 ⟨h4.2.1, h4.1, fun e => h4.2.2 e.symm⟩
        rw [if_neg (by simp [h1]), if_neg (by simp [h2]), if_neg h3]
        rw [if_neg (by simp [h2]), if_neg (by simp [h1]), if_neg h4, firstD_symm b a, Nat.min_comm]
        exact ⟨rfl, rfl⟩
    · rw [if_neg (by simp [h1]), if_pos h2] at h
      exact absurd h h2
  · rw [if_pos h1] at h
    exact absurd h h1

set_option maxRecDepth 20000 in
set_option maxHeartbeats 6400000 in
theorem parts_walk (A B : Option Addr) (l m : List Lr) (ca cb : Nat) (w : World) (hT : Tab w) (hl : Lks w A l) (hm : Lks w B m) (hlc : l.length ≤ ca) (hcx : ca ≤ 9223372036854775807) (hmc : m.length ≤ cb) (hcy : cb ≤ 9223372036854775807) (hA : A = none → ca = 0) (hB : B = none → cb = 0) :
    Calls Tryd.prog 16 #[.slice A l.length ca, .slice B m.length cb] w (LawPost w) := by
  have HT := hide hT
  have HL := hide hl
  have HM := hide hm
  have HAB := hide (And.intro hA hB)
  clear hT hl hm hA hB
  go_enter Tryd.func16, Tryd.ntmps16
  go_wp2_with fail
  refine (sane_any w HT.out).mono ?_
  rintro e w1 ⟨rfl, hb⟩
  have HB1 := hide hb
  clear hb
  have HF1 := hide (few_any A l ca w1 (HL.out.below HB1.out) (by omega))
  have HF2 := hide (few_any B m cb w1 (HM.out.below HB1.out) (by omega))
  cases hfl : fewL l with
  | false =>
    rw [hfl] at HF1
    clear hfl
    go_wp2_with fail
    refine HF1.out.mono ?_
    rintro e w2 ⟨rfl, rfl⟩
    go_wp2_with fail
    go_ret
    exact ⟨rfl, HB1.out⟩
  | true =>
    cases hfm : fewL m with
    | false =>
      rw [hfl] at HF1
      rw [hfm] at HF2
      clear hfl hfm
      go_wp2_with fail
      refine HF1.out.mono ?_
      rintro e w2 ⟨rfl, rfl⟩
      go_wp2_with fail
      refine HF2.out.mono ?_
      rintro e w2 ⟨rfl, rfl⟩
      go_wp2_with fail
      go_ret
      exact ⟨rfl, HB1.out⟩
    | true =>
      have HP1 := hide (part_any A B l m ca cb w1 (HT.out.below HB1.out) (HL.out.below HB1.out) (HM.out.below HB1.out) hlc hcx hmc hcy (fewL_short hfl) (fewL_short hfm) HAB.out.1)
      have HP2 := hide (fun (W : World) (h : Below w1.heap.size w1 W) => part_any B A m l cb ca W (HT.out.below (below_one HB1.out h)) (HM.out.below (below_one HB1.out h)) (HL.out.below (below_one HB1.out h)) hmc hcy hlc hcx (fewL_short hfm) (fewL_short hfl) HAB.out.2)
      rw [hfl] at HF1
      rw [hfm] at HF2
      clear hfl hfm
      by_cases he : (partA (lnks l) (lnks m)).2.2 = 0
      · obtain ⟨g1, g2⟩ := partA_good he
        rw [g2] at HP2
        rw [g1] at HP1 HP2
        rw [lnks_len, lnks_len] at HP1 HP2
        clear g1 g2 he
        generalize hR : firstD (lnks l) (lnks m) (min l.length m.length) = R at *
        go_wp2_with fail
        refine HF1.out.mono ?_
        rintro e w2 ⟨rfl, rfl⟩
        go_wp2_with fail
        refine HF2.out.mono ?_
        rintro e w2 ⟨rfl, rfl⟩
        go_wp2_with fail
        refine HP1.out.mono ?_
        rintro e w2 ⟨rfl, hb⟩
        have HB2 := hide hb
        clear hb
        go_wp2_with fail
        refine (HP2.out w2 HB2.out).mono ?_
        rintro e wr ⟨rfl, hb⟩
        have HBE := hide (below_one (below_one HB1.out HB2.out) hb)
        clear hb HP1 HP2 HB2 HF1 HF2
        obtain ⟨n, hn⟩ : ∃ n, min l.length m.length = n := ⟨_, rfl⟩
        have hn1 : n ≤ l.length := by omega
        have hn2 : n ≤ m.length := by omega
        have hn3 : n ≤ ca := by omega
        have hn4 : n ≤ cb := by omega
        have hmn : min ((l.length : Nat) : Int) ((m.length : Nat) : Int) = (n : Nat) := by omega
        rw [hn] at hR
        clear hn
        have HS0 := hide (show Below wr.heap.size wr wr.drew from (Below.refl _ _).drew)
        cases R with
        | none =>
          have HEQ := hide ((firstD_none (by rw [lnks_len]; exact hn1) (by rw [lnks_len]; exact hn2)).1 hR)
          have HSM := hide (fun (W : World) (h : Below wr.heap.size wr W) => show Calls Tryd.prog 43 #[.slice A n ca, .slice B n cb] W fun e w' => e = .returned (.bool true) ∧ Below W.heap.size W w' from by
            have := sameLs_any A B (l.take n) (m.take n) ca cb W ((HL.out.below (below_one HBE.out h)).take n) ((HM.out.below (below_one HBE.out h)).take n) (by rw [List.length_take]; omega)
            rw [show (l.take n).length = n by rw [List.length_take]; omega, show (m.take n).length = n by rw [List.length_take]; omega, show lnks (l.take n) = (lnks l).take n from by simp [lnks], show lnks (m.take n) = (lnks m).take n from by simp [lnks], HEQ.out, sameL_iff.2 rfl] at this
            exact this)
          simp only [fdA] at *
          clear hR
          go_wp2_with fail
          refine wp_region_plan4 (fun W' => Below wr.heap.size wr W') (.take 0 (.take 1 (.take 2 (.take 3 (.take 4 (.take 5 (.take 6 (.take 7 (.take 8 (.run 9 (.take 10 (.run 11 .done)))))))))))) (by kernel_rfl) (by kernel_rfl) HS0.out ?_
          generalize wr.drew = wD at HS0 ⊢
          (refine plan4_take (o := ?_) (v := ?_) (by simp only [List.getElem?_toArray, List.getElem?_cons_zero]; rfl) (yields_run (by rfl) ?_) ?_; rotate_left; (focus (intro w' hw'; go_simp <;> with_reducible rfl)); (simp only [Act.put, List.setIfInBounds_toArray, List.set_cons_zero, List.set_cons_succ]))
          (refine plan4_take (o := ?_) (v := ?_) (by simp only [List.getElem?_toArray, List.getElem?_cons_succ, List.getElem?_cons_zero]; rfl) (yields_run (by rfl) ?_) ?_; rotate_left; (focus (intro w' hw'; go_simp <;> with_reducible rfl)); (simp only [Act.put, List.setIfInBounds_toArray, List.set_cons_zero, List.set_cons_succ]))
          (refine plan4_take (o := ?_) (v := ?_) (by simp only [List.getElem?_toArray, List.getElem?_cons_succ, List.getElem?_cons_zero]; rfl) (yields_run (by rfl) ?_) ?_; rotate_left; (focus (intro w' hw'; go_simp <;> with_reducible rfl)); (simp only [Act.put, List.setIfInBounds_toArray, List.set_cons_zero, List.set_cons_succ]))
          (refine plan4_take (o := ?_) (v := ?_) (by simp only [List.getElem?_toArray, List.getElem?_cons_succ, List.getElem?_cons_zero]; rfl) (yields_run (by rfl) ?_) ?_; rotate_left; (focus (intro w' hw'; go_simp <;> with_reducible rfl)); (simp only [Act.put, List.setIfInBounds_toArray, List.set_cons_zero, List.set_cons_succ]))
          (refine plan4_take (o := ?_) (v := ?_) (by simp only [List.getElem?_toArray, List.getElem?_cons_succ, List.getElem?_cons_zero]; rfl) (yields_run (by rfl) ?_) ?_; rotate_left; (focus (intro w' hw'; go_simp <;> with_reducible rfl)); (simp only [Act.put, List.setIfInBounds_toArray, List.set_cons_zero, List.set_cons_succ]))
          (refine plan4_take (o := ?_) (v := ?_) (by simp only [List.getElem?_toArray, List.getElem?_cons_succ, List.getElem?_cons_zero]; rfl) (yields_run (by rfl) ?_) ?_; rotate_left; (focus (intro w' hw'; go_simp <;> with_reducible rfl)); (simp only [Act.put, List.setIfInBounds_toArray, List.set_cons_zero, List.set_cons_succ]))
          (refine plan4_take (o := ?_) (v := ?_) (by simp only [List.getElem?_toArray, List.getElem?_cons_succ, List.getElem?_cons_zero]; rfl) (yields_run (by rfl) ?_) ?_; rotate_left; (focus (intro w' hw'; go_simp <;> with_reducible rfl)); (simp only [Act.put, List.setIfInBounds_toArray, List.set_cons_zero, List.set_cons_succ]))
          (refine plan4_take (o := ?_) (v := ?_) (by simp only [List.getElem?_toArray, List.getElem?_cons_succ, List.getElem?_cons_zero]; rfl) (yields_run (by rfl) ?_) ?_; rotate_left; (focus (intro w' hw'; go_simp <;> with_reducible rfl)); (simp only [Act.put, List.setIfInBounds_toArray, List.set_cons_zero, List.set_cons_succ]))
          (refine plan4_take (o := ?_) (v := ?_) (by simp only [List.getElem?_toArray, List.getElem?_cons_succ, List.getElem?_cons_zero]; rfl) (yields_run (by rfl) ?_) ?_; rotate_left; (focus (intro w' hw'; go_simp <;> with_reducible rfl)); (simp only [Act.put, List.setIfInBounds_toArray, List.set_cons_zero, List.set_cons_succ]))
          refine plan4_run (o := ?_) (by simp only [List.getElem?_toArray, List.getElem?_cons_succ, List.getElem?_cons_zero]; rfl) ?_
          intro R' HK
          go_wp2_with fail
          refine (HSM.out _ HS0.out).mono ?_
          rintro e wN ⟨rfl, hbn⟩
          have HSn := hide (below_one HS0.out hbn)
          clear hbn
          go_wp2_with fail
          refine HK.out _ _ HSn.out ?_
          clear HK HS0
          have HS0 := HSn
          clear HSn
          (refine plan4_take (o := ?_) (v := ?_) (by simp only [List.getElem?_toArray, List.getElem?_cons_succ, List.getElem?_cons_zero]; rfl) (yields_run (by rfl) ?_) ?_; rotate_left; (focus (intro w' hw'; go_simp <;> with_reducible rfl)); (simp only [Act.put, List.setIfInBounds_toArray, List.set_cons_zero, List.set_cons_succ]))
          refine plan4_run (o := ?_) (by simp only [List.getElem?_toArray, List.getElem?_cons_succ, List.getElem?_cons_zero]; rfl) ?_
          intro R' HK
          go_wp2_with fail
          refine HK.out _ _ HS0.out ?_
          clear HK
          refine plan4_done ?_
          go_wp2_with fail
          go_ret
          exact ⟨rfl, below_one HBE.out HS0.out⟩
        | some i =>
          obtain ⟨hi, hti, hne⟩ := firstD_some (by rw [lnks_len]; exact hn1) (by rw [lnks_len]; exact hn2) hR
          have HEQ := hide hti
          have hi1 : i < l.length := by omega
          have hi2 : i < m.length := by omega
          have HSM := hide (fun (W : World) (h : Below wr.heap.size wr W) => show Calls Tryd.prog 43 #[.slice A i ca, .slice B i cb] W fun e w' => e = .returned (.bool true) ∧ Below W.heap.size W w' from by
            have := sameLs_any A B (l.take i) (m.take i) ca cb W ((HL.out.below (below_one HBE.out h)).take i) ((HM.out.below (below_one HBE.out h)).take i) (by rw [List.length_take]; omega)
            rw [show (l.take i).length = i by rw [List.length_take]; omega, show (m.take i).length = i by rw [List.length_take]; omega, show lnks (l.take i) = (lnks l).take i from by simp [lnks], show lnks (m.take i) = (lnks m).take i from by simp [lnks], HEQ.out, sameL_iff.2 rfl] at this
            exact this)
          obtain ⟨b, o, hAe, hb0, hrg, hin⟩ := (HL.out.below HBE.out).at hi1
          obtain ⟨b2, o2, hBe, hb02, hrg2, hin2⟩ := (HM.out.below HBE.out).at hi2
          have hsm : (l[i]).x.same (m[i]).x = false := by
            have := hne (by rw [lnks_len]; exact hi1) (by rw [lnks_len]; exact hi2)
            simpa [lnks] using this
          have HI := hide (And.intro hin hin2)
          have HG := hide (And.intro hrg hrg2)
          have HLT := hide (And.intro hb0 hb02)
          have HSL := hide (fun (W : World) (h : Below wr.heap.size wr W) => show Calls Tryd.prog 45 #[(l[i]).v, (m[i]).v] W fun e w' => e = .returned (.bool false) ∧ Below W.heap.size W w' from by
            have := sameLink_any (l[i]) (m[i]) W (HI.out.1.below h) (HI.out.2.below h)
            rwa [hsm] at this)
          clear hrg hrg2 hin hin2 hb0 hb02 hne hti hR hsm
          generalize l[i] = r at *
          generalize m[i] = s at *
          have hi3 : ((i : Nat) : Int) < (n : Nat) := by omega
          have hi4 : ((i : Nat) : Int) < (l.length : Nat) := by omega
          have hi5 : ((i : Nat) : Int) < (m.length : Nat) := by omega
          have hi6 : i ≤ ca := by omega
          have hi7 : i ≤ cb := by omega
          have hi8 : (0 : Int) ≤ (i : Nat) := by omega
          subst hAe
          subst hBe
          simp only [fdA] at *
          go_wp2_with fail
          refine wp_region_plan4 (fun W' => Below wr.heap.size wr W') (.take 0 (.take 1 (.take 2 (.take 3 (.take 4 (.take 5 (.take 6 (.take 7 (.take 8 (.take 9 (.take 10 (.take 11 (.take 12 (.take 13 (.run 14 (.take 15 (.take 16 (.take 17 (.take 18 (.take 19 (.take 20 (.take 21 (.take 22 (.take 23 (.take 24 (.run 25 (.take 26 (.take 27 (.run 28 .done))))))))))))))))))))))))))))) (by kernel_rfl) (by kernel_rfl) HS0.out ?_
          generalize wr.drew = wD at HS0 ⊢
          (refine plan4_take (o := ?_) (v := ?_) (by simp only [List.getElem?_toArray, List.getElem?_cons_zero]; rfl) (yields_run (by rfl) ?_) ?_; rotate_left; (focus (intro w' hw'; go_simp <;> with_reducible rfl)); (simp only [Act.put, List.setIfInBounds_toArray, List.set_cons_zero, List.set_cons_succ]))
          (refine plan4_take (o := ?_) (v := ?_) (by simp only [List.getElem?_toArray, List.getElem?_cons_succ, List.getElem?_cons_zero]; rfl) (yields_run (by rfl) ?_) ?_; rotate_left; (focus (intro w' hw'; go_simp <;> with_reducible rfl)); (simp only [Act.put, List.setIfInBounds_toArray, List.set_cons_zero, List.set_cons_succ]))
          (refine plan4_take (o := ?_) (v := ?_) (by simp only [List.getElem?_toArray, List.getElem?_cons_succ, List.getElem?_cons_zero]; rfl) (yields_run (by rfl) ?_) ?_; rotate_left; (focus (intro w' hw'; go_simp <;> with_reducible rfl)); (simp only [Act.put, List.setIfInBounds_toArray, List.set_cons_zero, List.set_cons_succ]))
          (refine plan4_take (o := ?_) (v := ?_) (by simp only [List.getElem?_toArray, List.getElem?_cons_succ, List.getElem?_cons_zero]; rfl) (yields_run (by rfl) ?_) ?_; rotate_left; (focus (intro w' hw'; go_simp <;> with_reducible rfl)); (simp only [Act.put, List.setIfInBounds_toArray, List.set_cons_zero, List.set_cons_succ]))
          (refine plan4_take (o := ?_) (v := ?_) (by simp only [List.getElem?_toArray, List.getElem?_cons_succ, List.getElem?_cons_zero]; rfl) (yields_run (by rfl) ?_) ?_; rotate_left; (focus (intro w' hw'; go_simp <;> with_reducible rfl)); (simp only [Act.put, List.setIfInBounds_toArray, List.set_cons_zero, List.set_cons_succ]))
          (refine plan4_take (o := ?_) (v := ?_) (by simp only [List.getElem?_toArray, List.getElem?_cons_succ, List.getElem?_cons_zero]; rfl) (yields_run (by rfl) ?_) ?_; rotate_left; (focus (intro w' hw'; go_simp <;> with_reducible rfl)); (simp only [Act.put, List.setIfInBounds_toArray, List.set_cons_zero, List.set_cons_succ]))
          (refine plan4_take (o := ?_) (v := ?_) (by simp only [List.getElem?_toArray, List.getElem?_cons_succ, List.getElem?_cons_zero]; rfl) (yields_run (by rfl) ?_) ?_; rotate_left; (focus (intro w' hw'; go_simp <;> with_reducible rfl)); (simp only [Act.put, List.setIfInBounds_toArray, List.set_cons_zero, List.set_cons_succ]))
          (refine plan4_take (o := ?_) (v := ?_) (by simp only [List.getElem?_toArray, List.getElem?_cons_succ, List.getElem?_cons_zero]; rfl) (yields_run (by rfl) ?_) ?_; rotate_left; (focus (intro w' hw'; go_simp <;> with_reducible rfl)); (simp only [Act.put, List.setIfInBounds_toArray, List.set_cons_zero, List.set_cons_succ]))
          (refine plan4_take (o := ?_) (v := ?_) (by simp only [List.getElem?_toArray, List.getElem?_cons_succ, List.getElem?_cons_zero]; rfl) (yields_run (by rfl) ?_) ?_; rotate_left; (focus (intro w' hw'; go_simp <;> with_reducible rfl)); (simp only [Act.put, List.setIfInBounds_toArray, List.set_cons_zero, List.set_cons_succ]))
          (refine plan4_take (o := ?_) (v := ?_) (by simp only [List.getElem?_toArray, List.getElem?_cons_succ, List.getElem?_cons_zero]; rfl) (yields_run (by rfl) ?_) ?_; rotate_left; (focus (intro w' hw'; go_simp <;> with_reducible rfl)); (simp only [Act.put, List.setIfInBounds_toArray, List.set_cons_zero, List.set_cons_succ]))
          (refine plan4_take (o := ?_) (v := ?_) (by simp only [List.getElem?_toArray, List.getElem?_cons_succ, List.getElem?_cons_zero]; rfl) (yields_run (by rfl) ?_) ?_; rotate_left; (focus (intro w' hw'; go_simp <;> with_reducible rfl)); (simp only [Act.put, List.setIfInBounds_toArray, List.set_cons_zero, List.set_cons_succ]))
          (refine plan4_take (o := ?_) (v := ?_) (by simp only [List.getElem?_toArray, List.getElem?_cons_succ, List.getElem?_cons_zero]; rfl) (yields_run (by rfl) ?_) ?_; rotate_left; (focus (intro w' hw'; go_simp <;> with_reducible rfl)); (simp only [Act.put, List.setIfInBounds_toArray, List.set_cons_zero, List.set_cons_succ]))
          (refine plan4_take (o := ?_) (v := ?_) (by simp only [List.getElem?_toArray, List.getElem?_cons_succ, List.getElem?_cons_zero]; rfl) (yields_run (by rfl) ?_) ?_; rotate_left; (focus (intro w' hw'; go_simp <;> with_reducible rfl)); (simp only [Act.put, List.setIfInBounds_toArray, List.set_cons_zero, List.set_cons_succ]))
          (refine plan4_take (o := ?_) (v := ?_) (by simp only [List.getElem?_toArray, List.getElem?_cons_succ, List.getElem?_cons_zero]; rfl) (yields_run (by rfl) ?_) ?_; rotate_left; (focus (intro w' hw'; go_simp <;> with_reducible rfl)); (simp only [Act.put, List.setIfInBounds_toArray, List.set_cons_zero, List.set_cons_succ]))
          refine plan4_run (o := ?_) (by simp only [List.getElem?_toArray, List.getElem?_cons_succ, List.getElem?_cons_zero]; rfl) ?_
          intro R' HK
          go_wp2_with fail
          refine (HSM.out _ HS0.out).mono ?_
          rintro e wN ⟨rfl, hbn⟩
          have HSn := hide (below_one HS0.out hbn)
          clear hbn
          go_wp2_with fail
          refine HK.out _ _ HSn.out ?_
          clear HK HS0
          have HS0 := HSn
          clear HSn
          (refine plan4_take (o := ?_) (v := ?_) (by simp only [List.getElem?_toArray, List.getElem?_cons_succ, List.getElem?_cons_zero]; rfl) (yields_run (by rfl) ?_) ?_; rotate_left; (focus (intro w' hw'; go_simp <;> with_reducible rfl)); (simp only [Act.put, List.setIfInBounds_toArray, List.set_cons_zero, List.set_cons_succ]))
          (refine plan4_take (o := ?_) (v := ?_) (by simp only [List.getElem?_toArray, List.getElem?_cons_succ, List.getElem?_cons_zero]; rfl) (yields_run (by rfl) ?_) ?_; rotate_left; (focus (intro w' hw'; go_simp <;> with_reducible rfl)); (simp only [Act.put, List.setIfInBounds_toArray, List.set_cons_zero, List.set_cons_succ]))
          (refine plan4_take (o := ?_) (v := ?_) (by simp only [List.getElem?_toArray, List.getElem?_cons_succ, List.getElem?_cons_zero]; rfl) (yields_run (by rfl) ?_) ?_; rotate_left; (focus (intro w' hw'; go_simp <;> with_reducible rfl)); (simp only [Act.put, List.setIfInBounds_toArray, List.set_cons_zero, List.set_cons_succ]))
          (refine plan4_take (o := ?_) (v := ?_) (by simp only [List.getElem?_toArray, List.getElem?_cons_succ, List.getElem?_cons_zero]; rfl) (yields_run (by rfl) ?_) ?_; rotate_left; (focus (intro w' hw'; go_simp <;> with_reducible rfl)); (simp only [Act.put, List.setIfInBounds_toArray, List.set_cons_zero, List.set_cons_succ]))
          (refine plan4_take (o := ?_) (v := ?_) (by simp only [List.getElem?_toArray, List.getElem?_cons_succ, List.getElem?_cons_zero]; rfl) (yields_run (by rfl) ?_) ?_; rotate_left; (focus (intro w' hw'; go_simp <;> with_reducible rfl)); (simp only [Act.put, List.setIfInBounds_toArray, List.set_cons_zero, List.set_cons_succ]))
          (refine plan4_take (o := ?_) (v := .agg r.cs.toArray) (by simp only [List.getElem?_toArray, List.getElem?_cons_succ, List.getElem?_cons_zero]; rfl) ?_ ?_; (focus (exact yieldsIf_load_mid (by rfl) 60 (.tmp 97) rfl b (o + i * 35) rfl r.cs _ (fun W h => range_below HG.out.1 h HLT.out.1) Tryd.underlying60 rfl (size60 HI.out.1))); (simp only [Act.put, List.setIfInBounds_toArray, List.set_cons_zero, List.set_cons_succ]))
          (refine plan4_take (o := ?_) (v := ?_) (by simp only [List.getElem?_toArray, List.getElem?_cons_succ, List.getElem?_cons_zero]; rfl) (yields_run (by rfl) ?_) ?_; rotate_left; (focus (intro w' hw'; go_simp <;> with_reducible rfl)); (simp only [Act.put, List.setIfInBounds_toArray, List.set_cons_zero, List.set_cons_succ]))
          (refine plan4_take (o := ?_) (v := ?_) (by simp only [List.getElem?_toArray, List.getElem?_cons_succ, List.getElem?_cons_zero]; rfl) (yields_run (by rfl) ?_) ?_; rotate_left; (focus (intro w' hw'; go_simp <;> with_reducible rfl)); (simp only [Act.put, List.setIfInBounds_toArray, List.set_cons_zero, List.set_cons_succ]))
          (refine plan4_take (o := ?_) (v := ?_) (by simp only [List.getElem?_toArray, List.getElem?_cons_succ, List.getElem?_cons_zero]; rfl) (yields_run (by rfl) ?_) ?_; rotate_left; (focus (intro w' hw'; go_simp <;> with_reducible rfl)); (simp only [Act.put, List.setIfInBounds_toArray, List.set_cons_zero, List.set_cons_succ]))
          (refine plan4_take (o := ?_) (v := .agg s.cs.toArray) (by simp only [List.getElem?_toArray, List.getElem?_cons_succ, List.getElem?_cons_zero]; rfl) ?_ ?_; (focus (exact yieldsIf_load_mid (by rfl) 60 (.tmp 101) rfl b2 (o2 + i * 35) rfl s.cs _ (fun W h => range_below HG.out.2 h HLT.out.2) Tryd.underlying60 rfl (size60 HI.out.2))); (simp only [Act.put, List.setIfInBounds_toArray, List.set_cons_zero, List.set_cons_succ]))
          refine plan4_run (o := ?_) (by simp only [List.getElem?_toArray, List.getElem?_cons_succ, List.getElem?_cons_zero]; rfl) ?_
          intro R' HK
          go_wp2_with fail
          refine (HSL.out _ HS0.out).mono ?_
          rintro e wN ⟨rfl, hbn⟩
          have HSn := hide (below_one HS0.out hbn)
          clear hbn
          go_wp2_with fail
          refine HK.out _ _ HSn.out ?_
          clear HK HS0
          have HS0 := HSn
          clear HSn
          (refine plan4_take (o := ?_) (v := ?_) (by simp only [List.getElem?_toArray, List.getElem?_cons_succ, List.getElem?_cons_zero]; rfl) (yields_run (by rfl) ?_) ?_; rotate_left; (focus (intro w' hw'; go_simp <;> with_reducible rfl)); (simp only [Act.put, List.setIfInBounds_toArray, List.set_cons_zero, List.set_cons_succ]))
          (refine plan4_take (o := ?_) (v := ?_) (by simp only [List.getElem?_toArray, List.getElem?_cons_succ, List.getElem?_cons_zero]; rfl) (yields_run (by rfl) ?_) ?_; rotate_left; (focus (intro w' hw'; go_simp <;> with_reducible rfl)); (simp only [Act.put, List.setIfInBounds_toArray, List.set_cons_zero, List.set_cons_succ]))
          refine plan4_run (o := ?_) (by simp only [List.getElem?_toArray, List.getElem?_cons_succ, List.getElem?_cons_zero]; rfl) ?_
          intro R' HK
          go_wp2_with fail
          refine HK.out _ _ HS0.out ?_
          clear HK
          refine plan4_done ?_
          go_wp2_with fail
          go_ret
          exact ⟨rfl, below_one HBE.out HS0.out⟩
      · obtain ⟨g1, g2, g3⟩ := partA_bad he
        have heb : ((partA (lnks l) (lnks m)).2.2 != 0) = true := by simpa using he
        have hfb : ((partA (lnks m) (lnks l)).2.2 != 0) = true := by simpa using g3
        rw [g1, g2] at HP1
        generalize (partA (lnks l) (lnks m)).2.2 = e1 at *
        generalize (partA (lnks m) (lnks l)).2.2 = e2 at *
        clear g1 g2 g3 he
        go_wp2_with fail
        refine HF1.out.mono ?_
        rintro e w2 ⟨rfl, rfl⟩
        go_wp2_with fail
        refine HF2.out.mono ?_
        rintro e w2 ⟨rfl, rfl⟩
        go_wp2_with fail
        refine HP1.out.mono ?_
        rintro e w2 ⟨rfl, hb⟩
        have HB2 := hide hb
        clear hb
        go_wp2_with fail
        refine (HP2.out w2 HB2.out).mono ?_
        rintro e w3 ⟨rfl, hb⟩
        have HBE := hide (below_one (below_one HB1.out HB2.out) hb)
        clear hb
        go_wp2_with fail
        go_ret
        exact ⟨rfl, HBE.out⟩
end Go.Proofs.YtalgceplcahgbaaDoor
