/- Few, SameLink, Same. -/
import Derived.Test.YtalgceplcahgbaaDoorPrt
namespace Go.Proofs.YtalgceplcahgbaaDoor
open Go.RowKit Go.Shelf

def fewL (l : List Lr) : Bool := decide (l.length ≤ 16) && l.all fun r => decide (r.x.data.length ≤ 300)
theorem fewL_no {l : List Lr} {k : Nat} (h : k < l.length) (hl : 300 < (l[k]).x.data.length) : fewL l = false := by
  unfold fewL
  rw [show (l.all fun r => decide (r.x.data.length ≤ 300)) = false from List.all_eq_false.2 ⟨l[k], List.getElem_mem h, by simp; omega⟩, Bool.and_false]
theorem fewL_yes {l : List Lr} (h : l.length ≤ 16) (hl : ∀ r ∈ l, r.x.data.length ≤ 300) : fewL l = true := by
  unfold fewL
  simp only [Bool.and_eq_true, decide_eq_true_eq, List.all_eq_true]
  exact ⟨h, hl⟩
theorem fewL_spec {l : List Lr} (h : fewL l = true) : l.length ≤ 16 ∧ ∀ r ∈ l, r.x.data.length ≤ 300 := by
  unfold fewL at h
  simpa only [Bool.and_eq_true, decide_eq_true_eq, List.all_eq_true] using h
theorem fewL_short {l : List Lr} (h : fewL l = true) : Short l := fun r hr => Nat.le_trans ((fewL_spec h).2 r hr) (by decide)
set_option maxRecDepth 20000 in
set_option maxHeartbeats 800000 in
theorem few_any (A : Option Addr) (l : List Lr) (cap : Nat) (w : World) (hl : Lks w A l) (hb : l.length ≤ 9223372036854775807) :
    Calls Tryd.prog 34 #[.slice A l.length cap] w fun e w' => e = .returned (.bool (fewL l)) ∧ w = w' := by
  have HL := hide hl
  clear hl
  by_cases h16 : l.length ≤ 16
  · have h16' : ¬ (16 : Int) < ((l.length : Nat) : Int) := by omega
    go_enter Tryd.func34, Tryd.ntmps34
    go_wp2_with fail
    go_loop [3] (fun i => ∃ k : Nat, k ≤ l.length ∧ i = .int .i64 k ∧ Hid (∀ x ∈ l.take k, x.x.data.length ≤ 300)) (fun i => l.length - (intOf i).toNat)
    case atStart => exact ⟨0, Nat.zero_le _, rfl, hide (fun x hx => by simp at hx)⟩
    case round =>
      obtain ⟨k, hk, rfl, HA⟩ := hrel
      by_cases hlt : k < l.length
      · have hlt' : (k : Int) < (l.length : Int) := by omega
        obtain ⟨b, o, hA, _, hrg, hin⟩ := HL.out.at hlt
        have hsz : (l[k]).x.data.length ≤ 9223372036854775807 := Nat.le_trans hin.le hin.top
        have e0 : w.cell? ⟨b, o + k * 35 + 34, none⟩ = some (l[k]).dv := hrg 34 _ (Lr.c34 hin)
        have HNO := hide (fun h => fewL_no hlt h)
        have HTK := hide (List.take_succ_eq_append_getElem hlt)
        clear hrg hin
        subst hA
        generalize l[k] = x at *
        by_cases hx : x.x.data.length ≤ 300
        · have hx' : ¬ (300 : Int) < (x.x.data.length : Int) := by omega
          go_wp2_with fail
          go_round
          case rel => exact ⟨k + 1, by omega, by go_num, hide (fun z hz => by
            rw [HTK.out] at hz
            rcases List.mem_append.1 hz with hz | hz
            · exact HA.out z hz
            · rw [List.mem_singleton.1 hz]; exact hx)⟩
          case measure => simp [intOf]; omega
        · have hx' : (300 : Int) < (x.x.data.length : Int) := by omega
          have hf := HNO.out (by omega)
          have HF := hide hf
          clear hf
          go_wp2_with fail
          go_ret
          exact ⟨by rw [HF.out]; rfl, rfl⟩
      · have hlt' : ¬ (k : Int) < (l.length : Int) := by omega
        obtain rfl : k = l.length := by omega
        have HF := hide (fewL_yes h16 (by have := HA.out; rwa [List.take_length] at this))
        go_wp2_with fail
        go_ret
        exact ⟨by rw [HF.out]; rfl, rfl⟩
  · have h16' : (16 : Int) < ((l.length : Nat) : Int) := by omega
    have HF := hide (show fewL l = false by unfold fewL; rw [decide_eq_false h16, Bool.false_and])
    go_enter Tryd.func34, Tryd.ntmps34
    go_wp2_with fail
    go_ret
    exact ⟨by rw [HF.out]; rfl, rfl⟩

set_option maxRecDepth 20000 in
set_option maxHeartbeats 3200000 in
theorem sameLink_any (r s : Lr) (w : World) (hr : r.In w) (hs : s.In w) : Calls Tryd.prog 45 #[r.v, s.v] w fun e w' => e = .returned (.bool (r.x.same s.x)) ∧ Below w.heap.size w w' := by
  have HR := hide hr
  have HS := hide hs
  have HX := hide (Blk.new w 60 r.cs)
  have HB := hide (below_new w (.cells r.cs.toArray 60))
  clear hr hs
  generalize hw1 : w.alloc (.cells r.cs.toArray 60) = w1 at *
  have hz1 : w1.heap.size = w.heap.size + 1 := by rw [← hw1]; simp
  have HY := hide (Blk.new w1 60 s.cs)
  have HC := hide (below_new w1 (.cells s.cs.toArray 60))
  generalize hw2 : w1.alloc (.cells s.cs.toArray 60) = w2 at *
  rw [hz1] at HY
  have HX2 := hide (HX.out.below HC.out HX.out.lt)
  have HB2 := hide (below_one HB.out HC.out)
  have c0 : w2.cell? ⟨w.heap.size, 0, none⟩ = some (.int .i64 r.x.node) := (HX2.out.cell 0).trans r.c0
  have c1 : w2.cell? ⟨w.heap.size, 1, none⟩ = some (.int .i64 r.x.no) := (HX2.out.cell 1).trans r.c1
  have c34 : w2.cell? ⟨w.heap.size, 34, none⟩ = some r.dv := (HX2.out.cell 34).trans (Lr.c34 HR.out)
  have d0 : w2.cell? ⟨w.heap.size + 1, 0, none⟩ = some (.int .i64 s.x.node) := (HY.out.cell 0).trans s.c0
  have d1 : w2.cell? ⟨w.heap.size + 1, 1, none⟩ = some (.int .i64 s.x.no) := (HY.out.cell 1).trans s.c1
  have d34 : w2.cell? ⟨w.heap.size + 1, 34, none⟩ = some s.dv := (HY.out.cell 34).trans (Lr.c34 HS.out)
  have HRP := hide (show w2.rangeAt w.heap.size 2 (bc r.x.prev) from fun j v hv => by
    have hj := (List.getElem?_eq_some_iff.1 hv).1
    rw [bc_len, HR.out.p32] at hj
    rw [HX2.out.cell (2 + j), Lr.cp HR.out j hj]
    exact hv)
  have HSP := hide (show w2.rangeAt (w.heap.size + 1) 2 (bc s.x.prev) from fun j v hv => by
    have hj := (List.getElem?_eq_some_iff.1 hv).1
    rw [bc_len, HS.out.p32] at hj
    rw [HY.out.cell (2 + j), Lr.cp HS.out j hj]
    exact hv)
  have HS1 := hide (show (Tryd.prog.info? 26).map (·.size) = some (bc r.x.prev).length by rw [bc_len, HR.out.p32]; exact Tryd.size26)
  have HS2 := hide (show (Tryd.prog.info? 26).map (·.size) = some (bc s.x.prev).length by rw [bc_len, HS.out.p32]; exact Tryd.size26)
  have hv0 := sb_conv (cap := r.cap) (HR.out.below HB2.out).src.sb
  have hv1 := sb_conv (cap := s.cap) (HS.out.below HB2.out).src.sb
  have HSE := hide (str_eq r.x.data s.x.data)
  have HSM := hide (same_of (x := r.x) (y := s.x))
  go_enter Tryd.func45, Tryd.ntmps45
  go_upto_region 1 with fail
  refine name_code ?_
  intro V hV
  obtain rfl : V = w2 := by rw [hV.out, ← hw2, ← hw1]
  clear hV hw1 hw2 hz1 HC HB HX
  by_cases h1 : r.x.node = s.x.node
  · have h1b : (r.x.node == s.x.node) = true := by simp [h1]
    by_cases h2 : r.x.no = s.x.no
    · have h2b : (r.x.no == s.x.no) = true := by simp [h2]
      by_cases h3 : r.x.prev = s.x.prev
      · have HVE := hide (show true = (r.x.prev == s.x.prev) by simp [h3])
        have HRS := hide (show r.x.same s.x = decide (r.x.data = s.x.data) by rw [HSM.out]; simp [h1, h2, h3])
        clear h1 h2 h3
        go_wp2_with (first | (refine wpList_load_midG rfl 26 (.tmp 18) rfl w.heap.size 2 rfl (bc r.x.prev) _ HRP.out Tryd.underlying26 rfl HS1.out ?_) | (refine wpList_load_midG rfl 26 (.tmp 20) rfl (w.heap.size + 1) 2 rfl (bc s.x.prev) _ HSP.out Tryd.underlying26 rfl HS2.out ?_) | (refine wpList_eqlD rfl (.tmp 19) (.tmp 21) 26 rfl r.x.prev s.x.prev rfl rfl HR.out.p32 HS.out.p32 _ HVE.out ?_))
        go_ret
        exact ⟨by rw [HRS.out, ← HSE.out]; rfl, HB2.out⟩
      · have HVE := hide (show false = (r.x.prev == s.x.prev) by simp [h3])
        have HRS := hide (show r.x.same s.x = false by rw [HSM.out]; simp [h3])
        clear h1 h2 h3
        go_wp2_with (first | (refine wpList_load_midG rfl 26 (.tmp 18) rfl w.heap.size 2 rfl (bc r.x.prev) _ HRP.out Tryd.underlying26 rfl HS1.out ?_) | (refine wpList_load_midG rfl 26 (.tmp 20) rfl (w.heap.size + 1) 2 rfl (bc s.x.prev) _ HSP.out Tryd.underlying26 rfl HS2.out ?_) | (refine wpList_eqlD rfl (.tmp 19) (.tmp 21) 26 rfl r.x.prev s.x.prev rfl rfl HR.out.p32 HS.out.p32 _ HVE.out ?_))
        go_ret
        exact ⟨by rw [HRS.out]; rfl, HB2.out⟩
    · have h2b : (r.x.no == s.x.no) = false := by simpa using h2
      have HRS := hide (show r.x.same s.x = false by rw [HSM.out]; simp [h2])
      clear h1 h2
      go_wp2_with fail
      go_ret
      exact ⟨by rw [HRS.out]; rfl, HB2.out⟩
  · have h1b : (r.x.node == s.x.node) = false := by simpa using h1
    have HRS := hide (show r.x.same s.x = false by rw [HSM.out]; simp [h1])
    clear h1
    go_wp2_with fail
    go_ret
    exact ⟨by rw [HRS.out]; rfl, HB2.out⟩

theorem sameL_no {a b : List Ln} (h : a ≠ b) : sameL a b = false := by
  rw [Bool.eq_false_iff]
  exact fun e => h (sameL_iff.1 e)
set_option maxRecDepth 20000 in
set_option maxHeartbeats 3200000 in
theorem sameLs_any (A B : Option Addr) (l m : List Lr) (ca cb : Nat) (w : World) (hl : Lks w A l) (hm : Lks w B m) (hb : l.length ≤ 9223372036854775807) :
    Calls Tryd.prog 43 #[.slice A l.length ca, .slice B m.length cb] w fun e w' => e = .returned (.bool (sameL (lnks l) (lnks m))) ∧ Below w.heap.size w w' := by
  have HL := hide hl
  have HM := hide hm
  clear hl hm
  by_cases h0 : l.length = m.length
  · have HLM := hide h0
    have h0b : (((l.length : Nat) : Int) != ((m.length : Nat) : Int)) = false := by simp [h0]
    clear h0
    go_enter Tryd.func43, Tryd.ntmps43
    go_wp2_with fail
    go_loopw [5] (fun i wr => ∃ k : Nat, k ≤ l.length ∧ i = .int .i64 k ∧ Hid (Below w.heap.size w wr) ∧ Hid ((lnks l).take k = (lnks m).take k)) (fun i _ => l.length - (intOf i).toNat)
    case atStart => exact ⟨0, Nat.zero_le _, rfl, hide (Below.refl _ _), hide rfl⟩
    case round =>
      obtain ⟨k, hk, rfl, hb, hq⟩ := hrel
      by_cases hlt : k < l.length
      · have hlt' : (k : Int) < l.length := by omega
        have hltm : k < m.length := by have := HLM.out; omega
        have hltm' : (k : Int) < m.length := by omega
        obtain ⟨b, o, hA, hb0, hrg, hin⟩ := (HL.out.below hb.out).at hlt
        obtain ⟨b2, o2, hA2, hb02, hrg2, hin2⟩ := (HM.out.below hb.out).at hltm
        have HT1 := hide (show (lnks l).take (k + 1) = (lnks l).take k ++ [(l[k]).x] from by rw [List.take_succ_eq_append_getElem (by rw [lnks_len]; exact hlt)]; simp [lnks])
        have HT2 := hide (show (lnks m).take (k + 1) = (lnks m).take k ++ [(m[k]).x] from by rw [List.take_succ_eq_append_getElem (by rw [lnks_len]; exact hltm)]; simp [lnks])
        have HI := hide (And.intro hin hin2)
        have HG := hide (And.intro hrg hrg2)
        have HLT := hide (And.intro hb0 hb02)
        clear hrg hrg2 hin hin2 hb0 hb02
        generalize l[k] = r at *
        generalize m[k] = s at *
        subst hA
        subst hA2
        have HS0 := hide (show Below wr.heap.size wr wr.drew from (Below.refl _ _).drew)
        go_wp2_with fail
        refine wp_region_plan4 (fun W' => Below wr.heap.size wr W') (.take 0 (.take 1 (.take 2 (.take 3 (.take 4 (.take 5 (.take 6 (.take 7 (.run 8 (.run 9 .done)))))))))) (by kernel_rfl) (by kernel_rfl) HS0.out ?_
        generalize wr.drew = wD at HS0 ⊢
        (refine plan4_take (o := ?_) (v := ?_) (by simp only [List.getElem?_toArray, List.getElem?_cons_zero]; rfl) (yields_run (by rfl) ?_) ?_; rotate_left; (focus (intro w' hw'; go_simp <;> with_reducible rfl)); (simp only [Act.put, List.setIfInBounds_toArray, List.set_cons_zero, List.set_cons_succ]))
        (refine plan4_take (o := ?_) (v := ?_) (by simp only [List.getElem?_toArray, List.getElem?_cons_succ, List.getElem?_cons_zero]; rfl) (yields_run (by rfl) ?_) ?_; rotate_left; (focus (intro w' hw'; go_simp <;> with_reducible rfl)); (simp only [Act.put, List.setIfInBounds_toArray, List.set_cons_zero, List.set_cons_succ]))
        (refine plan4_take (o := ?_) (v := ?_) (by simp only [List.getElem?_toArray, List.getElem?_cons_succ, List.getElem?_cons_zero]; rfl) (yields_run (by rfl) ?_) ?_; rotate_left; (focus (intro w' hw'; go_simp <;> with_reducible rfl)); (simp only [Act.put, List.setIfInBounds_toArray, List.set_cons_zero, List.set_cons_succ]))
        (refine plan4_take (o := ?_) (v := .agg r.cs.toArray) (by simp only [List.getElem?_toArray, List.getElem?_cons_succ, List.getElem?_cons_zero]; rfl) ?_ ?_; (focus (exact yieldsIf_load_mid (by rfl) 60 (.tmp 19) rfl b (o + k * 35) rfl r.cs _ (fun W h => range_below HG.out.1 h HLT.out.1) Tryd.underlying60 rfl (size60 HI.out.1))); (simp only [Act.put, List.setIfInBounds_toArray, List.set_cons_zero, List.set_cons_succ]))
        (refine plan4_take (o := ?_) (v := ?_) (by simp only [List.getElem?_toArray, List.getElem?_cons_succ, List.getElem?_cons_zero]; rfl) (yields_run (by rfl) ?_) ?_; rotate_left; (focus (intro w' hw'; go_simp <;> with_reducible rfl)); (simp only [Act.put, List.setIfInBounds_toArray, List.set_cons_zero, List.set_cons_succ]))
        (refine plan4_take (o := ?_) (v := ?_) (by simp only [List.getElem?_toArray, List.getElem?_cons_succ, List.getElem?_cons_zero]; rfl) (yields_run (by rfl) ?_) ?_; rotate_left; (focus (intro w' hw'; go_simp <;> with_reducible rfl)); (simp only [Act.put, List.setIfInBounds_toArray, List.set_cons_zero, List.set_cons_succ]))
        (refine plan4_take (o := ?_) (v := ?_) (by simp only [List.getElem?_toArray, List.getElem?_cons_succ, List.getElem?_cons_zero]; rfl) (yields_run (by rfl) ?_) ?_; rotate_left; (focus (intro w' hw'; go_simp <;> with_reducible rfl)); (simp only [Act.put, List.setIfInBounds_toArray, List.set_cons_zero, List.set_cons_succ]))
        (refine plan4_take (o := ?_) (v := .agg s.cs.toArray) (by simp only [List.getElem?_toArray, List.getElem?_cons_succ, List.getElem?_cons_zero]; rfl) ?_ ?_; (focus (exact yieldsIf_load_mid (by rfl) 60 (.tmp 23) rfl b2 (o2 + k * 35) rfl s.cs _ (fun W h => range_below HG.out.2 h HLT.out.2) Tryd.underlying60 rfl (size60 HI.out.2))); (simp only [Act.put, List.setIfInBounds_toArray, List.set_cons_zero, List.set_cons_succ]))
        refine plan4_run (o := ?_) (by simp only [List.getElem?_toArray, List.getElem?_cons_succ, List.getElem?_cons_zero]; rfl) ?_
        intro R' HK
        go_wp2_with fail
        refine (sameLink_any r s wD (HI.out.1.below HS0.out) (HI.out.2.below HS0.out)).mono ?_
        rintro e wN ⟨rfl, hbn⟩
        have HSn := hide (below_one HS0.out hbn)
        have HBn := hide (below_one hb.out (below_one HS0.out hbn))
        clear hbn
        go_wp2_with fail
        refine HK.out _ _ HSn.out ?_
        clear HK
        refine plan4_run (o := ?_) (by simp only [List.getElem?_toArray, List.getElem?_cons_succ, List.getElem?_cons_zero]; rfl) ?_
        intro R' HK
        go_wp2_with fail
        refine HK.out _ _ HSn.out ?_
        clear HK
        refine plan4_done ?_
        cases hsm : r.x.same s.x with
        | true =>
          have HX := hide (show (lnks l).take (k + 1) = (lnks m).take (k + 1) from by rw [HT1.out, HT2.out, hq.out, Ln.same_iff.1 hsm])
          clear hsm
          go_wp2_with fail
          go_roundw
          case rel => exact ⟨k + 1, by omega, by go_num, HBn, HX⟩
          case measure => simp [intOf]; omega
        | false =>
          have HX := hide (show sameL (lnks l) (lnks m) = false from sameL_no fun e => by
            have h1 := HT1.out
            rw [e, HT2.out] at h1
            have h2 := (List.append_inj h1 rfl).2
            simp only [List.cons.injEq, and_true] at h2
            exact Ln.same_no.1 hsm h2.symm)
          clear hsm
          go_wp2_with fail
          go_ret
          exact ⟨by rw [HX.out]; rfl, HBn.out⟩
      · obtain rfl : k = l.length := by omega
        have hlt' : ¬ ((l.length : Nat) : Int) < l.length := by omega
        have HX := hide (show sameL (lnks l) (lnks m) = true from sameL_iff.2 (by
          have h1 := hq.out
          rwa [← lnks_len l, List.take_length, lnks_len l, HLM.out, ← lnks_len m, List.take_length] at h1))
        go_wp2_with fail
        go_ret
        exact ⟨by rw [HX.out]; rfl, hb.out⟩
  · have h0b : (((l.length : Nat) : Int) != ((m.length : Nat) : Int)) = true := by simpa using fun h : ((l.length : Nat) : Int) = m.length => h0 (by omega)
    have HX := hide (show sameL (lnks l) (lnks m) = false from sameL_no fun e => h0 (by rw [← lnks_len l, e, lnks_len]))
    go_enter Tryd.func43, Tryd.ntmps43
    go_wp2_with fail
    go_ret
    exact ⟨by rw [HX.out]; rfl, Below.refl _ _⟩
end Go.Proofs.YtalgceplcahgbaaDoor
