/- Repeat. -/
import Derived.Test.YthmaakiibgdigaaRSnd
namespace Go.Proofs.Ythmaakiibgdigaa
open Go.RowKit
variable {ok : Nat → Prop}

set_option maxRecDepth 10000 in
set_option maxHeartbeats 1600000 in
theorem again_any (n : Net) (i : Int) (w : World) (hok : ∀ b, w.heap.size ≤ b → ok b) (hi : n.In ok w) : Calls Try.prog 25 #[n.v, .int .i64 i] w (Ans ok w (n.d.again i)) := by
  obtain ⟨⟨qA, ql, qc⟩, ⟨aA, al, ac⟩⟩ := n
  have hle : ql.length ≤ qc := hi.q.q.le
  have hcap : qc ≤ 9223372036854775807 := hi.q.q.top
  have HB := hide (show Below w.heap.size w ((w.alloc (.cells #[.slice qA ql.length qc, .slice aA al.length ac] 25)).alloc (.cells #[.slice none 0 0, .slice none 0 0] 25)) from (below_new _ _).alloc (by simp) _)
  have HX0 := hide (show Blk ((w.alloc (.cells #[.slice qA ql.length qc, .slice aA al.length ac] 25)).alloc (.cells #[.slice none 0 0, .slice none 0 0] 25)) w.heap.size 25 [.slice qA ql.length qc, .slice aA al.length ac] from (Blk.new w 25 [.slice qA ql.length qc, .slice aA al.length ac]).alloc _)
  have b2 := Blk.new (w.alloc (.cells #[.slice qA ql.length qc, .slice aA al.length ac] 25)) 25 [.slice none 0 0, .slice none 0 0]
  simp only [World.size_alloc] at b2
  have HX2 := hide b2
  have HZ := hide (show w.heap.size < ((w.alloc (.cells #[.slice qA ql.length qc, .slice aA al.length ac] 25)).alloc (.cells #[.slice none 0 0, .slice none 0 0] 25)).heap.size ∧ w.heap.size + 1 < ((w.alloc (.cells #[.slice qA ql.length qc, .slice aA al.length ac] 25)).alloc (.cells #[.slice none 0 0, .slice none 0 0] 25)).heap.size by refine ⟨?_, ?_⟩ <;> simp only [World.size_alloc] <;> omega)
  clear b2
  have HI := hide hi
  have HNEW := hide (show ∀ x, w.heap.size + 2 ≤ x → okX ok w.heap.size (w.heap.size + 2) x from okX_new hok (by omega))
  clear hi
  by_cases hk : (Net.d ⟨⟨qA, ql, qc⟩, ⟨aA, al, ac⟩⟩).asked i = 0
  · obtain ⟨hc, h0, h1⟩ := asked_zero hk
    have hlen := chk_len hc
    rw [net_len] at h1 hlen
    obtain ⟨j, rfl⟩ := Int.eq_ofNat_of_zero_le h0
    replace h1 : j < ql.length := by simp only at h1; omega
    obtain ⟨b, o, hA, hb0, d0, d1, d2⟩ := HI.out.q.at h1
    simp only at hA
    subst hA
    have HCB0 := hide hb0
    have HCC0 := hide (And.intro d0 (And.intro d1 d2))
    clear hb0 d0 d1 d2
    have HG : (Net.d ⟨⟨some ⟨b, o, none⟩, ql, qc⟩, ⟨aA, al, ac⟩⟩).get (Int.toNat (j : Int)) = (ql[j]).d := by
      unfold Nt.get
      simp [Net.d, List.getD_eq_getElem?_getD, h1]
    have HPK : pkB (ql[j]).d = true := by
      simp only [Nt.chk, Bool.and_eq_true] at hc
      have := (quB_iff.1 hc.1).2 j (by simpa [Net.d] using h1)
      simpa [Net.d] using this
    have HX := hide (show (Net.d ⟨⟨some ⟨b, o, none⟩, ql, qc⟩, ⟨aA, al, ac⟩⟩).again (j : Int) = (Net.d ⟨⟨some ⟨b, o, none⟩, ql, qc⟩, ⟨aA, al, ac⟩⟩).put (ql[j]).d by unfold Nt.again; rw [if_pos hk, HG])
    have HC := hide (ask_is hk ((w.alloc (.cells #[.slice (some ⟨b, o, none⟩) ql.length qc, .slice aA al.length ac] 25)).alloc (.cells #[.slice none 0 0, .slice none 0 0] 25)) (HI.out.below HB.out))
    have HS := hide (fun W (hW : Below w.heap.size w W) (hz : w.heap.size + 2 ≤ W.heap.size) => queued_any (ok := okX ok w.heap.size (w.heap.size + 2)) ⟨⟨some ⟨b, o, none⟩, ql, qc⟩, ⟨aA, al, ac⟩⟩ ql[j] W (fun b hb => HNEW.out b (Nat.le_trans hz hb)) ((HI.out.weak okX_old).below hW) (((HI.out.weak okX_old).below hW).q.p _ (List.getElem_mem h1)) hlen)
    have hjl : (j : Int) < (ql.length : Int) := by omega
    clear hk hc h0 HG HPK
    generalize ql[j] = p at *
    go_enter Try.func25, Try.ntmps25
    go_wp2_with fail
    refine HC.out.mono ?_
    rintro e w1 ⟨rfl, hb⟩
    have HK1 := hide (below_one HB.out hb)
    have HR1 := hide (HX2.out.below hb HX2.out.lt)
    have HXA := hide (HX0.out.below hb HX0.out.lt)
    have HCB := hide (show b < w1.heap.size from Nat.lt_of_lt_of_le HCB0.out HK1.out.size)
    have HCC := hide (show w1.cell? ⟨b, o + j * 3, none⟩ = _ ∧ w1.cell? ⟨b, o + j * 3 + 1, none⟩ = _ ∧ w1.cell? ⟨b, o + j * 3 + 2, none⟩ = _ from ⟨(HK1.out.cell (p := ⟨b, o + j * 3, none⟩) HCB0.out).trans HCC0.out.1, (HK1.out.cell (p := ⟨b, o + j * 3 + 1, none⟩) HCB0.out).trans HCC0.out.2.1, (HK1.out.cell (p := ⟨b, o + j * 3 + 2, none⟩) HCB0.out).trans HCC0.out.2.2⟩)
    clear hb
    go_wp2_with fail
    refine wp_region_plan4 (fun w' => Below w1.heap.size w1 w') (.take 0 (.take 1 (.take 2 (.take 3 (.take 4 (.take 5 (.run 6 (.take 7 (.take 8 (.last 9 (.last 10 .done))))))))))) (by kernel_rfl) (by kernel_rfl) ((Below.refl _ _).drew) ?_
    have HF0 := hide (show Below w1.heap.size w1 w1.drew from (Below.refl _ _).drew)
    generalize w1.drew = wD at HF0 ⊢
    (refine plan4_take (o := ?_) (v := ?_) (by simp only [List.getElem?_toArray, List.getElem?_cons_zero]; rfl) (yields_run (by rfl) ?_) ?_; rotate_left; (focus (intro w' hw'; have d0 := (hw'.cell (p := ⟨w.heap.size, 0, none⟩) HXA.out.lt).trans HXA.out.c2.1; have d1 := (hw'.cell (p := ⟨w.heap.size, 1, none⟩) HXA.out.lt).trans HXA.out.c2.2; go_simp <;> with_reducible rfl)); (simp only [Act.put, List.setIfInBounds_toArray, List.set_cons_zero, List.set_cons_succ]))
    (refine plan4_take (o := ?_) (v := ?_) (by simp only [List.getElem?_toArray, List.getElem?_cons_succ, List.getElem?_cons_zero]; rfl) (yields_run (by rfl) ?_) ?_; rotate_left; (focus (intro w' hw'; skip; go_simp <;> with_reducible rfl)); (simp only [Act.put, List.setIfInBounds_toArray, List.set_cons_zero, List.set_cons_succ]))
    (refine plan4_take (o := ?_) (v := ?_) (by simp only [List.getElem?_toArray, List.getElem?_cons_succ, List.getElem?_cons_zero]; rfl) (yields_run (by rfl) ?_) ?_; rotate_left; (focus (intro w' hw'; have d0 := (hw'.cell (p := ⟨w.heap.size, 0, none⟩) HXA.out.lt).trans HXA.out.c2.1; have d1 := (hw'.cell (p := ⟨w.heap.size, 1, none⟩) HXA.out.lt).trans HXA.out.c2.2; go_simp <;> with_reducible rfl)); (simp only [Act.put, List.setIfInBounds_toArray, List.set_cons_zero, List.set_cons_succ]))
    (refine plan4_take (o := ?_) (v := ?_) (by simp only [List.getElem?_toArray, List.getElem?_cons_succ, List.getElem?_cons_zero]; rfl) (yields_run (by rfl) ?_) ?_; rotate_left; (focus (intro w' hw'; skip; go_simp <;> with_reducible rfl)); (simp only [Act.put, List.setIfInBounds_toArray, List.set_cons_zero, List.set_cons_succ]))
    (refine plan4_take (o := ?_) (v := ?_) (by simp only [List.getElem?_toArray, List.getElem?_cons_succ, List.getElem?_cons_zero]; rfl) (yields_run (by rfl) ?_) ?_; rotate_left; (focus (intro w' hw'; skip; go_simp <;> with_reducible rfl)); (simp only [Act.put, List.setIfInBounds_toArray, List.set_cons_zero, List.set_cons_succ]))
    (refine plan4_take (o := ?_) (v := ?_) (by simp only [List.getElem?_toArray, List.getElem?_cons_succ, List.getElem?_cons_zero]; rfl) (yields_run (by rfl) ?_) ?_; rotate_left; (focus (intro w' hw'; have d0 := (hw'.cell (p := ⟨b, o + j * 3, none⟩) HCB.out).trans HCC.out.1; have d1 := (hw'.cell (p := ⟨b, o + j * 3 + 1, none⟩) HCB.out).trans HCC.out.2.1; have d2 := (hw'.cell (p := ⟨b, o + j * 3 + 2, none⟩) HCB.out).trans HCC.out.2.2; go_simp <;> with_reducible rfl)); (simp only [Act.put, List.setIfInBounds_toArray, List.set_cons_zero, List.set_cons_succ]))
    refine plan4_run (o := ?_) (by simp only [List.getElem?_toArray, List.getElem?_cons_succ, List.getElem?_cons_zero]; rfl) ?_
    intro R HR
    go_wp2_with fail
    (with_reducible refine (HS.out _ (HK1.out.trans (HF0.out.mono HK1.out.size)) (by have := HF0.out.size; have := HR1.out.lt; omega)).mono ?_)
    rintro e w2 ⟨n', rfl, hd, hin, hb⟩
    have HF1 := hide (below_one HF0.out hb)
    have HDD := hide hd
    have HIN := hide hin
    clear hd hin hb
    go_wp2_with fail
    refine HR.out _ _ HF1.out ?_
    clear HR
    (refine plan4_take (o := ?_) (v := ?_) (by simp only [List.getElem?_toArray, List.getElem?_cons_succ, List.getElem?_cons_zero]; rfl) (yields_run (by rfl) ?_) ?_; rotate_left; (focus (intro w' hw'; skip; go_simp <;> with_reducible rfl)); (simp only [Act.put, List.setIfInBounds_toArray, List.set_cons_zero, List.set_cons_succ]))
    (refine plan4_take (o := ?_) (v := ?_) (by simp only [List.getElem?_toArray, List.getElem?_cons_succ, List.getElem?_cons_zero]; rfl) (yields_run (by rfl) ?_) ?_; rotate_left; (focus (intro w' hw'; skip; go_simp <;> with_reducible rfl)); (simp only [Act.put, List.setIfInBounds_toArray, List.set_cons_zero, List.set_cons_succ]))
    refine plan4_last (o := ?_) (by simp only [List.getElem?_toArray, List.getElem?_cons_succ, List.getElem?_cons_zero]; rfl) ?_
    intro R HR
    have HRR := hide (HR1.out.below HF1.out HR1.out.lt)
    refine wpList_store_row rfl 25 (.tmp 4) (.tmp 20) rfl (w.heap.size + 1) #[.slice n'.q.A n'.q.l.length n'.q.cap, .slice n'.a.A n'.a.l.length n'.a.cap] rfl rfl 25 _ HRR.out Try.size25 rfl (one25 _ _ _ _ _ _) ?_
    refine HR.out _ _ ?_
    clear HR
    refine plan4_last (o := ?_) (by simp only [List.getElem?_toArray, List.getElem?_cons_succ, List.getElem?_cons_zero]; rfl) ?_
    intro R HR
    go_wp2_with fail
    refine HR.out _ _ ?_
    clear HR
    refine plan4_done ?_
    go_wp2_with fail
    refine bodyPost_ret (v := .tuple #[.agg #[.slice n'.q.A n'.q.l.length n'.q.cap, .slice n'.a.A n'.a.l.length n'.a.cap], .int .i64 _]) (results_cell_row_tmp rfl _ _ (w.heap.size + 1) 25 #[.slice n'.q.A n'.q.l.length n'.q.cap, .slice n'.a.A n'.a.l.length n'.a.cap] (0, 0) _ _ rfl rfl (setRow_heap _ _ _ _ _ _ HRR.out) Try.underlying25 rfl Try.size25) rfl ?_
    exact ⟨n', by rw [HX.out], by rw [HX.out]; exact HDD.out, (HIN.out.keep (Kept.row (okX_not (by omega) (by omega)) _)).weak okX_ok, below_setRow (HK1.out.trans (HF1.out.mono HK1.out.size)) (by omega) _⟩
  · have HX := hide (show (Net.d ⟨⟨qA, ql, qc⟩, ⟨aA, al, ac⟩⟩).again i = (Nt.zero, (Net.d ⟨⟨qA, ql, qc⟩, ⟨aA, al, ac⟩⟩).asked i) by unfold Nt.again; rw [if_neg hk])
    generalize hkk : (Net.d ⟨⟨qA, ql, qc⟩, ⟨aA, al, ac⟩⟩).asked i = k at *
    have HC := hide (ask_is hkk ((w.alloc (.cells #[.slice qA ql.length qc, .slice aA al.length ac] 25)).alloc (.cells #[.slice none 0 0, .slice none 0 0] 25)) (HI.out.below HB.out))
    have hk' : (k != 0) = true := by simpa using hk
    clear hkk hk
    go_enter Try.func25, Try.ntmps25
    go_wp2_with fail
    refine HC.out.mono ?_
    rintro e w1 ⟨rfl, hb⟩
    have HK := hide (below_one HB.out hb)
    have HRR := hide (HX2.out.below hb HX2.out.lt)
    clear hb
    go_wp2_with (refine wpList_store_row rfl 25 (.tmp 4) (.tmp 11) rfl (w.heap.size + 1) #[.slice none 0 0, .slice none 0 0] rfl rfl 25 _ HRR.out Try.size25 rfl (one25 _ _ _ _ _ _) ?_)
    exact bodyPost_ret (v := .tuple #[Net.zero.v, .int .i64 k]) (results_cell_row_tmp rfl _ _ (w.heap.size + 1) 25 #[.slice none 0 0, .slice none 0 0] (0, 0) _ (.int .i64 k) rfl rfl (setRow_heap _ _ _ _ _ _ HRR.out) Try.underlying25 rfl Try.size25) rfl (Ans.zero HX.out (below_setRow HK.out (by omega) _))

set_option maxRecDepth 10000 in
set_option maxHeartbeats 1600000 in
theorem ragain_any (n : Net) (i : Int) (w : World) (hok : ∀ b, w.heap.size ≤ b → ok b) (hi : n.In ok w) : Calls Try.prog 26 #[n.v, .int .i64 i] w (Ans ok w (n.d.again i)) := by
  obtain ⟨⟨qA, ql, qc⟩, ⟨aA, al, ac⟩⟩ := n
  have hle : ql.length ≤ qc := hi.q.q.le
  have hcap : qc ≤ 9223372036854775807 := hi.q.q.top
  have HB := hide (show Below w.heap.size w ((w.alloc (.cells #[.slice qA ql.length qc, .slice aA al.length ac] 25)).alloc (.cells #[.slice none 0 0, .slice none 0 0] 25)) from (below_new _ _).alloc (by simp) _)
  have HX0 := hide (show Blk ((w.alloc (.cells #[.slice qA ql.length qc, .slice aA al.length ac] 25)).alloc (.cells #[.slice none 0 0, .slice none 0 0] 25)) w.heap.size 25 [.slice qA ql.length qc, .slice aA al.length ac] from (Blk.new w 25 [.slice qA ql.length qc, .slice aA al.length ac]).alloc _)
  have b2 := Blk.new (w.alloc (.cells #[.slice qA ql.length qc, .slice aA al.length ac] 25)) 25 [.slice none 0 0, .slice none 0 0]
  simp only [World.size_alloc] at b2
  have HX2 := hide b2
  have HZ := hide (show w.heap.size < ((w.alloc (.cells #[.slice qA ql.length qc, .slice aA al.length ac] 25)).alloc (.cells #[.slice none 0 0, .slice none 0 0] 25)).heap.size ∧ w.heap.size + 1 < ((w.alloc (.cells #[.slice qA ql.length qc, .slice aA al.length ac] 25)).alloc (.cells #[.slice none 0 0, .slice none 0 0] 25)).heap.size by refine ⟨?_, ?_⟩ <;> simp only [World.size_alloc] <;> omega)
  clear b2
  have HI := hide hi
  have HNEW := hide (show ∀ x, w.heap.size + 2 ≤ x → okX ok w.heap.size (w.heap.size + 2) x from okX_new hok (by omega))
  clear hi
  by_cases hk : (Net.d ⟨⟨qA, ql, qc⟩, ⟨aA, al, ac⟩⟩).asked i = 0
  · obtain ⟨hc, h0, h1⟩ := asked_zero hk
    have hlen := chk_len hc
    rw [net_len] at h1 hlen
    obtain ⟨j, rfl⟩ := Int.eq_ofNat_of_zero_le h0
    replace h1 : j < ql.length := by simp only at h1; omega
    obtain ⟨b, o, hA, hb0, d0, d1, d2⟩ := HI.out.q.at h1
    simp only at hA
    subst hA
    have HCB0 := hide hb0
    have HCC0 := hide (And.intro d0 (And.intro d1 d2))
    clear hb0 d0 d1 d2
    have HG : (Net.d ⟨⟨some ⟨b, o, none⟩, ql, qc⟩, ⟨aA, al, ac⟩⟩).get (Int.toNat (j : Int)) = (ql[j]).d := by
      unfold Nt.get
      simp [Net.d, List.getD_eq_getElem?_getD, h1]
    have HPK : pkB (ql[j]).d = true := by
      simp only [Nt.chk, Bool.and_eq_true] at hc
      have := (quB_iff.1 hc.1).2 j (by simpa [Net.d] using h1)
      simpa [Net.d] using this
    have HX := hide (show (Net.d ⟨⟨some ⟨b, o, none⟩, ql, qc⟩, ⟨aA, al, ac⟩⟩).again (j : Int) = (Net.d ⟨⟨some ⟨b, o, none⟩, ql, qc⟩, ⟨aA, al, ac⟩⟩).put (ql[j]).d by unfold Nt.again; rw [if_pos hk, HG])
    have HC := hide (rask_is hk ((w.alloc (.cells #[.slice (some ⟨b, o, none⟩) ql.length qc, .slice aA al.length ac] 25)).alloc (.cells #[.slice none 0 0, .slice none 0 0] 25)) (HI.out.below HB.out))
    have HS := hide (fun W (hW : Below w.heap.size w W) (hz : w.heap.size + 2 ≤ W.heap.size) => rsend_any (ok := okX ok w.heap.size (w.heap.size + 2)) ⟨⟨some ⟨b, o, none⟩, ql, qc⟩, ⟨aA, al, ac⟩⟩ ql[j] W (fun b hb => HNEW.out b (Nat.le_trans hz hb)) ((HI.out.weak okX_old).below hW) (((HI.out.weak okX_old).below hW).q.p _ (List.getElem_mem h1)))
    rw [show (Net.d ⟨⟨some ⟨b, o, none⟩, ql, qc⟩, ⟨aA, al, ac⟩⟩).send (ql[j]).d = (Net.d ⟨⟨some ⟨b, o, none⟩, ql, qc⟩, ⟨aA, al, ac⟩⟩).put (ql[j]).d by unfold Nt.send; rw [hc, HPK]; rfl] at HS
    have hjl : (j : Int) < (ql.length : Int) := by omega
    clear hk hc h0 HG HPK
    generalize ql[j] = p at *
    go_enter Try.func26, Try.ntmps26
    go_wp2_with fail
    refine HC.out.mono ?_
    rintro e w1 ⟨rfl, hb⟩
    have HK1 := hide (below_one HB.out hb)
    have HR1 := hide (HX2.out.below hb HX2.out.lt)
    have HXA := hide (HX0.out.below hb HX0.out.lt)
    have HCB := hide (show b < w1.heap.size from Nat.lt_of_lt_of_le HCB0.out HK1.out.size)
    have HCC := hide (show w1.cell? ⟨b, o + j * 3, none⟩ = _ ∧ w1.cell? ⟨b, o + j * 3 + 1, none⟩ = _ ∧ w1.cell? ⟨b, o + j * 3 + 2, none⟩ = _ from ⟨(HK1.out.cell (p := ⟨b, o + j * 3, none⟩) HCB0.out).trans HCC0.out.1, (HK1.out.cell (p := ⟨b, o + j * 3 + 1, none⟩) HCB0.out).trans HCC0.out.2.1, (HK1.out.cell (p := ⟨b, o + j * 3 + 2, none⟩) HCB0.out).trans HCC0.out.2.2⟩)
    clear hb
    go_wp2_with fail
    refine wp_region_plan4 (fun w' => Below w1.heap.size w1 w') (.take 0 (.take 1 (.take 2 (.take 3 (.take 4 (.take 5 (.run 6 (.take 7 (.take 8 (.last 9 (.last 10 .done))))))))))) (by kernel_rfl) (by kernel_rfl) ((Below.refl _ _).drew) ?_
    have HF0 := hide (show Below w1.heap.size w1 w1.drew from (Below.refl _ _).drew)
    generalize w1.drew = wD at HF0 ⊢
    (refine plan4_take (o := ?_) (v := ?_) (by simp only [List.getElem?_toArray, List.getElem?_cons_zero]; rfl) (yields_run (by rfl) ?_) ?_; rotate_left; (focus (intro w' hw'; have d0 := (hw'.cell (p := ⟨w.heap.size, 0, none⟩) HXA.out.lt).trans HXA.out.c2.1; have d1 := (hw'.cell (p := ⟨w.heap.size, 1, none⟩) HXA.out.lt).trans HXA.out.c2.2; go_simp <;> with_reducible rfl)); (simp only [Act.put, List.setIfInBounds_toArray, List.set_cons_zero, List.set_cons_succ]))
    (refine plan4_take (o := ?_) (v := ?_) (by simp only [List.getElem?_toArray, List.getElem?_cons_succ, List.getElem?_cons_zero]; rfl) (yields_run (by rfl) ?_) ?_; rotate_left; (focus (intro w' hw'; skip; go_simp <;> with_reducible rfl)); (simp only [Act.put, List.setIfInBounds_toArray, List.set_cons_zero, List.set_cons_succ]))
    (refine plan4_take (o := ?_) (v := ?_) (by simp only [List.getElem?_toArray, List.getElem?_cons_succ, List.getElem?_cons_zero]; rfl) (yields_run (by rfl) ?_) ?_; rotate_left; (focus (intro w' hw'; have d0 := (hw'.cell (p := ⟨w.heap.size, 0, none⟩) HXA.out.lt).trans HXA.out.c2.1; have d1 := (hw'.cell (p := ⟨w.heap.size, 1, none⟩) HXA.out.lt).trans HXA.out.c2.2; go_simp <;> with_reducible rfl)); (simp only [Act.put, List.setIfInBounds_toArray, List.set_cons_zero, List.set_cons_succ]))
    (refine plan4_take (o := ?_) (v := ?_) (by simp only [List.getElem?_toArray, List.getElem?_cons_succ, List.getElem?_cons_zero]; rfl) (yields_run (by rfl) ?_) ?_; rotate_left; (focus (intro w' hw'; skip; go_simp <;> with_reducible rfl)); (simp only [Act.put, List.setIfInBounds_toArray, List.set_cons_zero, List.set_cons_succ]))
    (refine plan4_take (o := ?_) (v := ?_) (by simp only [List.getElem?_toArray, List.getElem?_cons_succ, List.getElem?_cons_zero]; rfl) (yields_run (by rfl) ?_) ?_; rotate_left; (focus (intro w' hw'; skip; go_simp <;> with_reducible rfl)); (simp only [Act.put, List.setIfInBounds_toArray, List.set_cons_zero, List.set_cons_succ]))
    (refine plan4_take (o := ?_) (v := ?_) (by simp only [List.getElem?_toArray, List.getElem?_cons_succ, List.getElem?_cons_zero]; rfl) (yields_run (by rfl) ?_) ?_; rotate_left; (focus (intro w' hw'; have d0 := (hw'.cell (p := ⟨b, o + j * 3, none⟩) HCB.out).trans HCC.out.1; have d1 := (hw'.cell (p := ⟨b, o + j * 3 + 1, none⟩) HCB.out).trans HCC.out.2.1; have d2 := (hw'.cell (p := ⟨b, o + j * 3 + 2, none⟩) HCB.out).trans HCC.out.2.2; go_simp <;> with_reducible rfl)); (simp only [Act.put, List.setIfInBounds_toArray, List.set_cons_zero, List.set_cons_succ]))
    refine plan4_run (o := ?_) (by simp only [List.getElem?_toArray, List.getElem?_cons_succ, List.getElem?_cons_zero]; rfl) ?_
    intro R HR
    go_wp2_with fail
    (with_reducible refine (HS.out _ (HK1.out.trans (HF0.out.mono HK1.out.size)) (by have := HF0.out.size; have := HR1.out.lt; omega)).mono ?_)
    rintro e w2 ⟨n', rfl, hd, hin, hb⟩
    have HF1 := hide (below_one HF0.out hb)
    have HDD := hide hd
    have HIN := hide hin
    clear hd hin hb
    go_wp2_with fail
    refine HR.out _ _ HF1.out ?_
    clear HR
    (refine plan4_take (o := ?_) (v := ?_) (by simp only [List.getElem?_toArray, List.getElem?_cons_succ, List.getElem?_cons_zero]; rfl) (yields_run (by rfl) ?_) ?_; rotate_left; (focus (intro w' hw'; skip; go_simp <;> with_reducible rfl)); (simp only [Act.put, List.setIfInBounds_toArray, List.set_cons_zero, List.set_cons_succ]))
    (refine plan4_take (o := ?_) (v := ?_) (by simp only [List.getElem?_toArray, List.getElem?_cons_succ, List.getElem?_cons_zero]; rfl) (yields_run (by rfl) ?_) ?_; rotate_left; (focus (intro w' hw'; skip; go_simp <;> with_reducible rfl)); (simp only [Act.put, List.setIfInBounds_toArray, List.set_cons_zero, List.set_cons_succ]))
    refine plan4_last (o := ?_) (by simp only [List.getElem?_toArray, List.getElem?_cons_succ, List.getElem?_cons_zero]; rfl) ?_
    intro R HR
    have HRR := hide (HR1.out.below HF1.out HR1.out.lt)
    refine wpList_store_row rfl 25 (.tmp 4) (.tmp 21) rfl (w.heap.size + 1) #[.slice n'.q.A n'.q.l.length n'.q.cap, .slice n'.a.A n'.a.l.length n'.a.cap] rfl rfl 25 _ HRR.out Try.size25 rfl (one25 _ _ _ _ _ _) ?_
    refine HR.out _ _ ?_
    clear HR
    refine plan4_last (o := ?_) (by simp only [List.getElem?_toArray, List.getElem?_cons_succ, List.getElem?_cons_zero]; rfl) ?_
    intro R HR
    go_wp2_with fail
    refine HR.out _ _ ?_
    clear HR
    refine plan4_done ?_
    go_wp2_with fail
    refine bodyPost_ret (v := .tuple #[.agg #[.slice n'.q.A n'.q.l.length n'.q.cap, .slice n'.a.A n'.a.l.length n'.a.cap], .int .i64 _]) (results_cell_row_tmp rfl _ _ (w.heap.size + 1) 25 #[.slice n'.q.A n'.q.l.length n'.q.cap, .slice n'.a.A n'.a.l.length n'.a.cap] (0, 0) _ _ rfl rfl (setRow_heap _ _ _ _ _ _ HRR.out) Try.underlying25 rfl Try.size25) rfl ?_
    exact ⟨n', by rw [HX.out], by rw [HX.out]; exact HDD.out, (HIN.out.keep (Kept.row (okX_not (by omega) (by omega)) _)).weak okX_ok, below_setRow (HK1.out.trans (HF1.out.mono HK1.out.size)) (by omega) _⟩
  · have HX := hide (show (Net.d ⟨⟨qA, ql, qc⟩, ⟨aA, al, ac⟩⟩).again i = (Nt.zero, (Net.d ⟨⟨qA, ql, qc⟩, ⟨aA, al, ac⟩⟩).asked i) by unfold Nt.again; rw [if_neg hk])
    generalize hkk : (Net.d ⟨⟨qA, ql, qc⟩, ⟨aA, al, ac⟩⟩).asked i = k at *
    have HC := hide (rask_is hkk ((w.alloc (.cells #[.slice qA ql.length qc, .slice aA al.length ac] 25)).alloc (.cells #[.slice none 0 0, .slice none 0 0] 25)) (HI.out.below HB.out))
    have hk' : (k != 0) = true := by simpa using hk
    clear hkk hk
    go_enter Try.func26, Try.ntmps26
    go_wp2_with fail
    refine HC.out.mono ?_
    rintro e w1 ⟨rfl, hb⟩
    have HK := hide (below_one HB.out hb)
    have HRR := hide (HX2.out.below hb HX2.out.lt)
    clear hb
    go_wp2_with (refine wpList_store_row rfl 25 (.tmp 4) (.tmp 12) rfl (w.heap.size + 1) #[.slice none 0 0, .slice none 0 0] rfl rfl 25 _ HRR.out Try.size25 rfl (one25 _ _ _ _ _ _) ?_)
    exact bodyPost_ret (v := .tuple #[Net.zero.v, .int .i64 k]) (results_cell_row_tmp rfl _ _ (w.heap.size + 1) 25 #[.slice none 0 0, .slice none 0 0] (0, 0) _ (.int .i64 k) rfl rfl (setRow_heap _ _ _ _ _ _ HRR.out) Try.underlying25 rfl Try.size25) rfl (Ans.zero HX.out (below_setRow HK.out (by omega) _))
end Go.Proofs.Ythmaakiibgdigaa
