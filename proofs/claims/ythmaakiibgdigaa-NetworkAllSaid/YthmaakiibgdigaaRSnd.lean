/- Send of the reference. -/
import Derived.Test.YthmaakiibgdigaaSnd
import Derived.Test.YthmaakiibgdigaaWit
namespace Go.Proofs.Ythmaakiibgdigaa
open Go.RowKit
variable {ok : Nat → Prop}

theorem blk_opt {w : World} {X T : Nat} {cs : List Value} (h : Blk w X T cs) : ∀ ad, some (⟨X, 0, none⟩ : Addr) = some ad → ∀ j u, cs[j]? = some u → w.cell? (ad.add j) = some u := fun ad e j u hu => by
  injection e with e
  subst e
  rw [Addr.add_mid, Nat.zero_add]
  exact (h.cell j).trans hu

set_option maxRecDepth 10000 in
set_option maxHeartbeats 1600000 in
theorem rsend_any (n : Net) (p : Pkt) (w : World) (hok : ∀ b, w.heap.size ≤ b → ok b) (hi : n.In ok w) (hp : p.In ok w) : Calls Try.prog 12 #[n.v, p.v] w (Ans ok w (n.d.send p.d)) := by
  obtain ⟨⟨qA, ql, qc⟩, ⟨aA, al, ac⟩⟩ := n
  obtain ⟨fr, to, ⟨sA, sl, sc⟩⟩ := p
  have hle : ql.length ≤ qc := hi.q.q.le
  have hcap : qc ≤ 9223372036854775807 := hi.q.q.top
  have HB := hide (show Below w.heap.size w (((w.alloc (.cells #[.slice qA ql.length qc, .slice aA al.length ac] 25)).alloc (.cells #[.int .i64 fr, .int .i64 to, .slice sA sl.length sc] 28)).alloc (.cells #[.slice none 0 0, .slice none 0 0] 25)) from ((below_new _ _).alloc (by simp) _).alloc (by simp only [World.size_alloc]; omega) _)
  have HX0 := hide (show Blk (((w.alloc (.cells #[.slice qA ql.length qc, .slice aA al.length ac] 25)).alloc (.cells #[.int .i64 fr, .int .i64 to, .slice sA sl.length sc] 28)).alloc (.cells #[.slice none 0 0, .slice none 0 0] 25)) w.heap.size 25 [.slice qA ql.length qc, .slice aA al.length ac] from ((Blk.new w 25 [.slice qA ql.length qc, .slice aA al.length ac]).alloc _).alloc _)
  have b1 := (Blk.new (w.alloc (.cells #[.slice qA ql.length qc, .slice aA al.length ac] 25)) 28 [.int .i64 fr, .int .i64 to, .slice sA sl.length sc]).alloc (.cells #[.slice none 0 0, .slice none 0 0] 25)
  have b2 := Blk.new ((w.alloc (.cells #[.slice qA ql.length qc, .slice aA al.length ac] 25)).alloc (.cells #[.int .i64 fr, .int .i64 to, .slice sA sl.length sc] 28)) 25 [.slice none 0 0, .slice none 0 0]
  simp only [World.size_alloc, Nat.add_assoc, Nat.reduceAdd] at b1 b2
  have HX1 := hide b1
  have HX2 := hide b2
  have HZ := hide (show w.heap.size < (((w.alloc (.cells #[.slice qA ql.length qc, .slice aA al.length ac] 25)).alloc (.cells #[.int .i64 fr, .int .i64 to, .slice sA sl.length sc] 28)).alloc (.cells #[.slice none 0 0, .slice none 0 0] 25)).heap.size ∧ w.heap.size + 1 < (((w.alloc (.cells #[.slice qA ql.length qc, .slice aA al.length ac] 25)).alloc (.cells #[.int .i64 fr, .int .i64 to, .slice sA sl.length sc] 28)).alloc (.cells #[.slice none 0 0, .slice none 0 0] 25)).heap.size ∧ (((w.alloc (.cells #[.slice qA ql.length qc, .slice aA al.length ac] 25)).alloc (.cells #[.int .i64 fr, .int .i64 to, .slice sA sl.length sc] 28)).alloc (.cells #[.slice none 0 0, .slice none 0 0] 25)).heap.size = w.heap.size + 3 ∧ w.heap.size + 2 < (((w.alloc (.cells #[.slice qA ql.length qc, .slice aA al.length ac] 25)).alloc (.cells #[.int .i64 fr, .int .i64 to, .slice sA sl.length sc] 28)).alloc (.cells #[.slice none 0 0, .slice none 0 0] 25)).heap.size by refine ⟨?_, ?_, ?_, ?_⟩ <;> simp only [World.size_alloc] <;> omega)
  clear b1 b2
  have HI := hide hi
  have HP := hide hp
  have HNEW := hide (show ∀ x, w.heap.size + 3 ≤ x → okX ok w.heap.size (w.heap.size + 3) x from okX_new hok (by omega))
  clear hi hp
  cases hc : (Net.d ⟨⟨qA, ql, qc⟩, ⟨aA, al, ac⟩⟩).chk with
  | false =>
    have HC := hide (rcheck_no hc (((w.alloc (.cells #[.slice qA ql.length qc, .slice aA al.length ac] 25)).alloc (.cells #[.int .i64 fr, .int .i64 to, .slice sA sl.length sc] 28)).alloc (.cells #[.slice none 0 0, .slice none 0 0] 25)) (HI.out.below HB.out))
    have HX := hide (show (Net.d ⟨⟨qA, ql, qc⟩, ⟨aA, al, ac⟩⟩).send (Pkt.d ⟨fr, to, ⟨sA, sl, sc⟩⟩) = (Nt.zero, 60) by unfold Nt.send; rw [hc]; rfl)
    clear hc
    go_enter Try.func12, Try.ntmps12
    go_wp2_with fail
    refine HC.out.mono ?_
    rintro e w1 ⟨rfl, hb⟩
    have HK := hide (below_one HB.out hb)
    have HRR := hide (HX2.out.below hb HX2.out.lt)
    clear hb
    go_wp2_with (refine wpList_store_row rfl 25 (.tmp 4) (.tmp 14) rfl (w.heap.size + 2) #[.slice none 0 0, .slice none 0 0] rfl rfl 25 _ HRR.out Try.size25 rfl (one25 _ _ _ _ _ _) ?_)
    exact bodyPost_ret (v := .tuple #[Net.zero.v, .int .i64 60]) (results_cell_row_tmp rfl _ _ (w.heap.size + 2) 25 #[.slice none 0 0, .slice none 0 0] (0, 0) _ (.int .i64 60) rfl rfl (setRow_heap _ _ _ _ _ _ HRR.out) Try.underlying25 rfl Try.size25) rfl (Ans.zero HX.out (below_setRow HK.out (by omega) _))
  | true =>
    have HC := hide (rcheck_ok hc (((w.alloc (.cells #[.slice qA ql.length qc, .slice aA al.length ac] 25)).alloc (.cells #[.int .i64 fr, .int .i64 to, .slice sA sl.length sc] 28)).alloc (.cells #[.slice none 0 0, .slice none 0 0] 25)) (HI.out.below HB.out))
    cases hp : pkB (Pkt.d ⟨fr, to, ⟨sA, sl, sc⟩⟩) with
    | false =>
      have HE := hide (fun W (hW : Below w.heap.size w W) => rpacket_is hp W (HP.out.below hW))
      have HX := hide (show (Net.d ⟨⟨qA, ql, qc⟩, ⟨aA, al, ac⟩⟩).send (Pkt.d ⟨fr, to, ⟨sA, sl, sc⟩⟩) = (Nt.zero, 60) by unfold Nt.send; rw [hc, hp]; rfl)
      clear hc hp
      go_enter Try.func12, Try.ntmps12
      go_wp2_with fail
      refine HC.out.mono ?_
      rintro e w1 ⟨rfl, hb⟩
      have HK1 := hide (below_one HB.out hb)
      have HR1 := hide (HX2.out.below hb HX2.out.lt)
      obtain ⟨d0, d1, d2⟩ := (HX1.out.below hb HX1.out.lt).c3
      clear hb
      go_wp2_with fail
      refine (HE.out _ HK1.out).mono ?_
      rintro e w2 ⟨rfl, hb⟩
      have HK := hide (below_one HK1.out hb)
      have HRR := hide (HR1.out.below hb HR1.out.lt)
      clear hb d0 d1 d2
      go_wp2_with (refine wpList_store_row rfl 25 (.tmp 4) (.tmp 14) rfl (w.heap.size + 2) #[.slice none 0 0, .slice none 0 0] rfl rfl 25 _ HRR.out Try.size25 rfl (one25 _ _ _ _ _ _) ?_)
      exact bodyPost_ret (v := .tuple #[Net.zero.v, .int .i64 60]) (results_cell_row_tmp rfl _ _ (w.heap.size + 2) 25 #[.slice none 0 0, .slice none 0 0] (0, 0) _ (.int .i64 60) rfl rfl (setRow_heap _ _ _ _ _ _ HRR.out) Try.underlying25 rfl Try.size25) rfl (Ans.zero HX.out (below_setRow HK.out (by omega) _))
    | true =>
      have HE := hide (fun W (hW : Below w.heap.size w W) => rpacket_is hp W (HP.out.below hW))
      have HX := hide (show (Net.d ⟨⟨qA, ql, qc⟩, ⟨aA, al, ac⟩⟩).send (Pkt.d ⟨fr, to, ⟨sA, sl, sc⟩⟩) = (Net.d ⟨⟨qA, ql, qc⟩, ⟨aA, al, ac⟩⟩).put (Pkt.d ⟨fr, to, ⟨sA, sl, sc⟩⟩) by unfold Nt.send; rw [hc, hp]; rfl)
      have HLEN := hide (show ql.length ≤ 4096 by have := chk_len hc; rwa [net_len] at this)
      by_cases h4 : ql.length = 4096
      · have HX := hide (HX.out.trans (show (Net.d ⟨⟨qA, ql, qc⟩, ⟨aA, al, ac⟩⟩).put (Pkt.d ⟨fr, to, ⟨sA, sl, sc⟩⟩) = (Nt.zero, 2) by unfold Nt.put; rw [if_pos (by simpa [Net.d] using h4)]))
        have h4' : ((ql.length : Int) == 4096) = true := by simp; omega
        clear h4
        clear hc hp
        go_enter Try.func12, Try.ntmps12
        go_wp2_with fail
        refine HC.out.mono ?_
        rintro e w1 ⟨rfl, hb⟩
        have HK1 := hide (below_one HB.out hb)
        have HA1 := hide (HX0.out.below hb HX0.out.lt)
        have HP1 := hide (HX1.out.below hb HX1.out.lt)
        have HR1 := hide (HX2.out.below hb HX2.out.lt)
        obtain ⟨d0, d1, d2⟩ := HP1.out.c3
        clear hb
        go_wp2_with fail
        refine (HE.out _ HK1.out).mono ?_
        rintro e w2 ⟨rfl, hb⟩
        have HK2 := hide (below_one HK1.out hb)
        have HA2 := hide (HA1.out.below hb HA1.out.lt)
        have HP2 := hide (HP1.out.below hb HP1.out.lt)
        have HR2 := hide (HR1.out.below hb HR1.out.lt)
        clear hb d0 d1 d2
        obtain ⟨c0, c1⟩ := HA2.out.c2
        obtain ⟨d0, d1, d2⟩ := HP2.out.c3
        have HK := HK2
        have HRR := HR2
        clear d0 d1 d2
        go_wp2_with (refine wpList_store_row rfl 25 (.tmp 4) (.tmp 19) rfl (w.heap.size + 2) #[.slice none 0 0, .slice none 0 0] rfl rfl 25 _ HRR.out Try.size25 rfl (one25 _ _ _ _ _ _) ?_)
        exact bodyPost_ret (v := .tuple #[Net.zero.v, .int .i64 2]) (results_cell_row_tmp rfl _ _ (w.heap.size + 2) 25 #[.slice none 0 0, .slice none 0 0] (0, 0) _ (.int .i64 2) rfl rfl (setRow_heap _ _ _ _ _ _ HRR.out) Try.underlying25 rfl Try.size25) rfl (Ans.zero HX.out (below_setRow HK.out (by omega) _))
      · have h4' : ((ql.length : Int) == 4096) = false := by simp; omega
        have HFIN := hide (fun w2 (hw : Below w.heap.size w w2) => put_fin (p := ⟨fr, to, ⟨sA, sl, sc⟩⟩) hw HI.out HP.out h4)
        obtain ⟨i28, hi28⟩ := hinfo28
        have HI28 := hide hi28
        have HN1 := hide (show qA = none → ql.length = 0 ∧ qc = 0 from HI.out.q.q.nil0)
        have HC1 := hide (show (ql.flatMap Pkt.cs).length = ql.length * 3 from fl_len Pkt.cs 3 (fun _ => rfl) ql)
        have HE1 := hide (fl_ones pk_one ql)
        have hln := HLEN.out
        have HM1 := hide (show 0 + ql.length ≤ maxLen by unfold maxLen; omega)
        have HM2 := hide (show ql.length + 1 ≤ maxLen by unfold maxLen; omega)
        have HMB1 := hide (show (0 + ql.length) * 40 ≤ 140737488355328 by omega)
        have HMB2 := hide (show (ql.length + 1) * 40 ≤ 140737488355328 by omega)
        clear h4 hi28 hln
        clear hc hp
        go_enter Try.func12, Try.ntmps12
        go_wp2_with fail
        refine HC.out.mono ?_
        rintro e w1 ⟨rfl, hb⟩
        have HK1 := hide (below_one HB.out hb)
        have HA1 := hide (HX0.out.below hb HX0.out.lt)
        have HP1 := hide (HX1.out.below hb HX1.out.lt)
        have HR1 := hide (HX2.out.below hb HX2.out.lt)
        obtain ⟨d0, d1, d2⟩ := HP1.out.c3
        clear hb
        go_wp2_with fail
        refine (HE.out _ HK1.out).mono ?_
        rintro e w2 ⟨rfl, hb⟩
        have HK2 := hide (below_one HK1.out hb)
        have HA2 := hide (HA1.out.below hb HA1.out.lt)
        have HP2 := hide (HP1.out.below hb HP1.out.lt)
        have HR2 := hide (HR1.out.below hb HR1.out.lt)
        clear hb d0 d1 d2
        obtain ⟨c0, c1⟩ := HA2.out.c2
        obtain ⟨d0, d1, d2⟩ := HP2.out.c3
        clear d0 d1 d2
        go_wp2_with fail
        clear c0 c1
        refine wp_region_plan4 (fun w' => Below w2.heap.size w2 w') (.take 1 (.take 2 (.take 4 (.both 0 (.both 3 (.run 5 (.run 6 (.take 7 (.last 8 .done)))) 5 (.run 3 (.run 6 (.take 7 (.last 8 .done))))) 5 (.run 0 (.run 3 (.run 6 (.take 7 (.last 8 .done))))))))) (by kernel_rfl) (by kernel_rfl) ((Below.refl _ _).drew) ?_
        have HF0 := hide (show Below w2.heap.size w2 w2.drew from (Below.refl _ _).drew)
        generalize w2.drew = wD at HF0 ⊢
        (refine plan4_take (o := ?_) (v := ?_) (by simp only [List.getElem?_toArray, List.getElem?_cons_succ, List.getElem?_cons_zero]; rfl) (yields_run (by rfl) ?_) ?_; rotate_left; (focus (intro w' hw'; skip; go_simp <;> with_reducible rfl)); (simp only [Act.put, List.setIfInBounds_toArray, List.set_cons_zero, List.set_cons_succ]))
        (refine plan4_take (o := ?_) (v := ?_) (by simp only [List.getElem?_toArray, List.getElem?_cons_succ, List.getElem?_cons_zero]; rfl) (yields_run (by rfl) ?_) ?_; rotate_left; (focus (intro w' hw'; have d0 := (hw'.cell (p := ⟨w.heap.size, 0, none⟩) HA2.out.lt).trans HA2.out.c2.1; go_simp <;> with_reducible rfl)); (simp only [Act.put, List.setIfInBounds_toArray, List.set_cons_zero, List.set_cons_succ]))
        (refine plan4_take (o := ?_) (v := ?_) (by simp only [List.getElem?_toArray, List.getElem?_cons_succ, List.getElem?_cons_zero]; rfl) (yields_run (by rfl) ?_) ?_; rotate_left; (focus (intro w' hw'; have d0 := (hw'.cell (p := ⟨w.heap.size + 1, 0, none⟩) HP2.out.lt).trans HP2.out.c3.1; have d1 := (hw'.cell (p := ⟨w.heap.size + 1, 1, none⟩) HP2.out.lt).trans HP2.out.c3.2.1; have d2 := (hw'.cell (p := ⟨w.heap.size + 1, 2, none⟩) HP2.out.lt).trans HP2.out.c3.2.2; go_simp <;> with_reducible rfl)); (simp only [Act.put, List.setIfInBounds_toArray, List.set_cons_zero, List.set_cons_succ]))
        refine plan4_both (o1 := ?_) (o2 := ?_) (by simp only [List.getElem?_toArray, List.getElem?_cons_zero]; rfl) (by simp only [List.getElem?_toArray, List.getElem?_cons_succ, List.getElem?_cons_zero]; rfl) ?_ ?_
        · intro R HR
          go_wp2_with fail
          have HF1 := hide (HF0.out.alloc HF0.out.size (.cells #[] 28))
          have ho := own_empty wD (wD.heap.size) 28 3 (by simp)
          have HO1 := hide ho
          clear ho
          have HZ1 := hide (show wD.heap.size ≤ (wD.alloc (.cells #[] 28)).heap.size by simp)
          have HBB := hide (show w2.heap.size ≤ wD.heap.size by have := HF0.out.size; omega)
          refine HR.out _ _ HF1.out ?_
          clear HR
          refine plan4_both (o1 := ?_) (o2 := ?_) (by simp only [List.getElem?_toArray, List.getElem?_cons_succ, List.getElem?_cons_zero]; rfl) (by simp only [List.getElem?_toArray, List.getElem?_cons_succ, List.getElem?_cons_zero]; rfl) ?_ ?_
          · intro R HR
            refine wpList_app rfl (.tmp 20) (.tmp 22) 22 rfl (wD.heap.size) 28 i28 _ 3 40 Try.underlying22 HI28.out rfl (by decide) _ 0 [] rfl HO1.out qA ql.length qc (ql.flatMap Pkt.cs) rfl HN1.out HC1.out ((HI.out.q.q.below HK2.out).below HF1.out).cels.opt HE1.out HM1.out HMB1.out HZ1.out ?_
            intro A5 c5 w5 hown hg
            rw [Nat.zero_add, List.nil_append] at hown
            have HO2 := hide hown
            have HF2 := hide (below_app HF1.out HO1.out hg HBB.out HF1.out.size)
            have HZ2 := hide (Nat.le_trans HZ1.out hg.size)
            clear hown hg
            refine HR.out _ _ HF2.out ?_
            clear HR
            (simp only [Nat.zero_add, Act.put, List.setIfInBounds_toArray, List.set_cons_zero, List.set_cons_succ])
            refine plan4_run (o := ?_) (by simp only [List.getElem?_toArray, List.getElem?_cons_succ, List.getElem?_cons_zero]; rfl) ?_
            intro R HR
            go_wp2_with fail
            have HF3 := hide (HF2.out.alloc HF2.out.size (.cells #[.int .i64 fr, .int .i64 to, .slice sA sl.length sc] 28))
            have hbp := Blk.new w5 28 [.int .i64 fr, .int .i64 to, .slice sA sl.length sc]
            have HBP := hide hbp
            clear hbp
            have HO2b := hide (own_later HO2.out (below_new w5 (.cells #[.int .i64 fr, .int .i64 to, .slice sA sl.length sc] 28)))
            have HZ2b := hide (Nat.le_trans HZ2.out (below_new w5 (.cells #[.int .i64 fr, .int .i64 to, .slice sA sl.length sc] 28)).size)
            refine HR.out _ _ HF3.out ?_
            clear HR
            refine plan4_run (o := ?_) (by simp only [List.getElem?_toArray, List.getElem?_cons_succ, List.getElem?_cons_zero]; rfl) ?_
            intro R HR
            refine wpList_app rfl (.tmp 23) (.tmp 25) 22 rfl (wD.heap.size) 28 i28 _ 3 40 Try.underlying22 HI28.out rfl (by decide) _ ql.length (ql.flatMap Pkt.cs) rfl HO2b.out (some ⟨w5.heap.size, 0, none⟩) 1 1 [.int .i64 fr, .int .i64 to, .slice sA sl.length sc] rfl (fun h => by cases h) rfl (blk_opt HBP.out) (pk_one ⟨fr, to, ⟨sA, sl, sc⟩⟩) HM2.out HMB2.out HZ2b.out ?_
            intro A' c' w6 hown hg
            have HS4 := hide (own_in (ok := okX ok w.heap.size (w.heap.size + 3)) (f := Pkt.cs) (l := ql ++ [⟨fr, to, ⟨sA, sl, sc⟩⟩]) (by rw [List.flatMap_append]; exact hown) (by simp) (fun b hb => HNEW.out b (by have := HBB.out; have := HR2.out.lt; omega)))
            have HF4 := hide (below_app HF3.out HO2b.out hg HBB.out HF3.out.size)
            clear hown hg
            refine HR.out _ _ HF4.out ?_
            clear HR
            (refine plan4_take (o := ?_) (v := ?_) (by simp only [List.getElem?_toArray, List.getElem?_cons_succ, List.getElem?_cons_zero]; rfl) (yields_run (by rfl) ?_) ?_; rotate_left; (focus (intro w' hw'; skip; go_simp <;> with_reducible rfl)); (simp only [Act.put, List.setIfInBounds_toArray, List.set_cons_zero, List.set_cons_succ]))
            refine plan4_last (o := ?_) (by simp only [List.getElem?_toArray, List.getElem?_cons_succ, List.getElem?_cons_zero]; rfl) ?_
            intro R HR
            have HFB := HF4
            have HA4 := hide (HA2.out.below HFB.out HA2.out.lt)
            have HR4 := hide (HR2.out.below HFB.out HR2.out.lt)
            obtain ⟨c0, c1⟩ := HA4.out.c2
            have f0 := HA4.out.free 0
            have HA5 := hide (HA4.out.set 0 (.slice A' (ql.length + 1) c'))
            have HR5 := hide (HR4.out.apart (p := ⟨w.heap.size, 0, none⟩) (by simp) (.slice A' (ql.length + 1) c'))
            simp only [List.set_cons_zero] at HA5
            go_wp2_with fail
            refine HR.out _ _ ?_
            clear HR
            refine plan4_done ?_
            clear c0 c1 f0
            go_wp2_with (first | (refine wpList_load_row rfl 25 (.tmp 2) rfl w.heap.size rfl 25 _ (0, 0) _ HA5.out Try.underlying25 rfl Try.size25 ?_) | (refine wpList_store_row rfl 25 (.tmp 4) (.tmp 28) rfl (w.heap.size + 2) #[.slice A' (ql.length + 1) c', .slice aA al.length ac] rfl rfl 25 _ HR5.out Try.size25 rfl (one25 _ _ _ _ _ _) ?_))
            refine bodyPost_ret (v := .tuple #[.agg #[.slice A' (ql.length + 1) c', .slice aA al.length ac], .int .i64 0]) (results_cell_row_tmp rfl _ _ (w.heap.size + 2) 25 #[.slice A' (ql.length + 1) c', .slice aA al.length ac] (0, 0) _ (.int .i64 0) rfl rfl (setRow_heap _ _ _ _ _ _ HR5.out) Try.underlying25 rfl Try.size25) rfl ?_
            rw [HX.out]
            exact HFIN.out _ HK2.out _ _ _ HS4.out HFB.out
          · intro R HR
            go_wp2_with fail
            have HF2 := hide (HF1.out.alloc HF1.out.size (.cells #[.int .i64 fr, .int .i64 to, .slice sA sl.length sc] 28))
            have hbp := Blk.new (wD.alloc (.cells #[] 28)) 28 [.int .i64 fr, .int .i64 to, .slice sA sl.length sc]
            simp only [World.size_alloc] at hbp
            have HBP := hide hbp
            clear hbp
            have HO1b := hide (own_later HO1.out (below_new (wD.alloc (.cells #[] 28)) (.cells #[.int .i64 fr, .int .i64 to, .slice sA sl.length sc] 28)))
            have HZ1b := hide (Nat.le_trans HZ1.out (below_new (wD.alloc (.cells #[] 28)) (.cells #[.int .i64 fr, .int .i64 to, .slice sA sl.length sc] 28)).size)
            refine HR.out _ _ HF2.out ?_
            clear HR
            refine plan4_run (o := ?_) (by simp only [List.getElem?_toArray, List.getElem?_cons_succ, List.getElem?_cons_zero]; rfl) ?_
            intro R HR
            refine wpList_app rfl (.tmp 20) (.tmp 22) 22 rfl (wD.heap.size) 28 i28 _ 3 40 Try.underlying22 HI28.out rfl (by decide) _ 0 [] rfl HO1b.out qA ql.length qc (ql.flatMap Pkt.cs) rfl HN1.out HC1.out ((HI.out.q.q.below HK2.out).below HF2.out).cels.opt HE1.out HM1.out HMB1.out HZ1b.out ?_
            intro A5 c5 w5 hown hg
            rw [Nat.zero_add, List.nil_append] at hown
            have HO2 := hide hown
            have HF3 := hide (below_app HF2.out HO1b.out hg HBB.out HF2.out.size)
            have HZ2 := hide (Nat.le_trans HZ1b.out hg.size)
            have HBP3 := hide (HBP.out.only hg (by simp))
            clear hown hg
            refine HR.out _ _ HF3.out ?_
            clear HR
            (simp only [Nat.zero_add, Act.put, List.setIfInBounds_toArray, List.set_cons_zero, List.set_cons_succ])
            refine plan4_run (o := ?_) (by simp only [List.getElem?_toArray, List.getElem?_cons_succ, List.getElem?_cons_zero]; rfl) ?_
            intro R HR
            refine wpList_app rfl (.tmp 23) (.tmp 25) 22 rfl (wD.heap.size) 28 i28 _ 3 40 Try.underlying22 HI28.out rfl (by decide) _ ql.length (ql.flatMap Pkt.cs) rfl HO2.out (some ⟨wD.heap.size + 1, 0, none⟩) 1 1 [.int .i64 fr, .int .i64 to, .slice sA sl.length sc] rfl (fun h => by cases h) rfl (blk_opt HBP3.out) (pk_one ⟨fr, to, ⟨sA, sl, sc⟩⟩) HM2.out HMB2.out HZ2.out ?_
            intro A' c' w6 hown hg
            have HS4 := hide (own_in (ok := okX ok w.heap.size (w.heap.size + 3)) (f := Pkt.cs) (l := ql ++ [⟨fr, to, ⟨sA, sl, sc⟩⟩]) (by rw [List.flatMap_append]; exact hown) (by simp) (fun b hb => HNEW.out b (by have := HBB.out; have := HR2.out.lt; omega)))
            have HF4 := hide (below_app HF3.out HO2.out hg HBB.out HF3.out.size)
            clear hown hg
            refine HR.out _ _ HF4.out ?_
            clear HR
            (refine plan4_take (o := ?_) (v := ?_) (by simp only [List.getElem?_toArray, List.getElem?_cons_succ, List.getElem?_cons_zero]; rfl) (yields_run (by rfl) ?_) ?_; rotate_left; (focus (intro w' hw'; skip; go_simp <;> with_reducible rfl)); (simp only [Act.put, List.setIfInBounds_toArray, List.set_cons_zero, List.set_cons_succ]))
            refine plan4_last (o := ?_) (by simp only [List.getElem?_toArray, List.getElem?_cons_succ, List.getElem?_cons_zero]; rfl) ?_
            intro R HR
            have HFB := HF4
            have HA4 := hide (HA2.out.below HFB.out HA2.out.lt)
            have HR4 := hide (HR2.out.below HFB.out HR2.out.lt)
            obtain ⟨c0, c1⟩ := HA4.out.c2
            have f0 := HA4.out.free 0
            have HA5 := hide (HA4.out.set 0 (.slice A' (ql.length + 1) c'))
            have HR5 := hide (HR4.out.apart (p := ⟨w.heap.size, 0, none⟩) (by simp) (.slice A' (ql.length + 1) c'))
            simp only [List.set_cons_zero] at HA5
            go_wp2_with fail
            refine HR.out _ _ ?_
            clear HR
            refine plan4_done ?_
            clear c0 c1 f0
            go_wp2_with (first | (refine wpList_load_row rfl 25 (.tmp 2) rfl w.heap.size rfl 25 _ (0, 0) _ HA5.out Try.underlying25 rfl Try.size25 ?_) | (refine wpList_store_row rfl 25 (.tmp 4) (.tmp 28) rfl (w.heap.size + 2) #[.slice A' (ql.length + 1) c', .slice aA al.length ac] rfl rfl 25 _ HR5.out Try.size25 rfl (one25 _ _ _ _ _ _) ?_))
            refine bodyPost_ret (v := .tuple #[.agg #[.slice A' (ql.length + 1) c', .slice aA al.length ac], .int .i64 0]) (results_cell_row_tmp rfl _ _ (w.heap.size + 2) 25 #[.slice A' (ql.length + 1) c', .slice aA al.length ac] (0, 0) _ (.int .i64 0) rfl rfl (setRow_heap _ _ _ _ _ _ HR5.out) Try.underlying25 rfl Try.size25) rfl ?_
            rw [HX.out]
            exact HFIN.out _ HK2.out _ _ _ HS4.out HFB.out
        · intro R HR
          go_wp2_with fail
          have HF1 := hide (HF0.out.alloc HF0.out.size (.cells #[.int .i64 fr, .int .i64 to, .slice sA sl.length sc] 28))
          have hbp := Blk.new wD 28 [.int .i64 fr, .int .i64 to, .slice sA sl.length sc]
          have HBP := hide hbp
          clear hbp
          refine HR.out _ _ HF1.out ?_
          clear HR
          refine plan4_run (o := ?_) (by simp only [List.getElem?_toArray, List.getElem?_cons_zero]; rfl) ?_
          intro R HR
          go_wp2_with fail
          have HF2 := hide (HF1.out.alloc HF1.out.size (.cells #[] 28))
          have ho := own_empty (wD.alloc (.cells #[.int .i64 fr, .int .i64 to, .slice sA sl.length sc] 28)) (wD.heap.size + 1) 28 3 (by simp)
          simp only [World.size_alloc] at ho
          have HO1 := hide ho
          clear ho
          have HZ1 := hide (show wD.heap.size + 1 ≤ ((wD.alloc (.cells #[.int .i64 fr, .int .i64 to, .slice sA sl.length sc] 28)).alloc (.cells #[] 28)).heap.size by simp)
          have HBB := hide (show w2.heap.size ≤ wD.heap.size + 1 by have := HF0.out.size; omega)
          have HBP1 := hide (HBP.out.alloc (.cells #[] 28))
          refine HR.out _ _ HF2.out ?_
          clear HR
          refine plan4_run (o := ?_) (by simp only [List.getElem?_toArray, List.getElem?_cons_succ, List.getElem?_cons_zero]; rfl) ?_
          intro R HR
          refine wpList_app rfl (.tmp 20) (.tmp 22) 22 rfl (wD.heap.size + 1) 28 i28 _ 3 40 Try.underlying22 HI28.out rfl (by decide) _ 0 [] rfl HO1.out qA ql.length qc (ql.flatMap Pkt.cs) rfl HN1.out HC1.out ((HI.out.q.q.below HK2.out).below HF2.out).cels.opt HE1.out HM1.out HMB1.out HZ1.out ?_
          intro A5 c5 w5 hown hg
          rw [Nat.zero_add, List.nil_append] at hown
          have HO2 := hide hown
          have HF3 := hide (below_app HF2.out HO1.out hg HBB.out HF2.out.size)
          have HZ2 := hide (Nat.le_trans HZ1.out hg.size)
          have HBP3 := hide (HBP1.out.only hg (by simp))
          clear hown hg
          refine HR.out _ _ HF3.out ?_
          clear HR
          (simp only [Nat.zero_add, Act.put, List.setIfInBounds_toArray, List.set_cons_zero, List.set_cons_succ])
          refine plan4_run (o := ?_) (by simp only [List.getElem?_toArray, List.getElem?_cons_succ, List.getElem?_cons_zero]; rfl) ?_
          intro R HR
          refine wpList_app rfl (.tmp 23) (.tmp 25) 22 rfl (wD.heap.size + 1) 28 i28 _ 3 40 Try.underlying22 HI28.out rfl (by decide) _ ql.length (ql.flatMap Pkt.cs) rfl HO2.out (some ⟨wD.heap.size, 0, none⟩) 1 1 [.int .i64 fr, .int .i64 to, .slice sA sl.length sc] rfl (fun h => by cases h) rfl (blk_opt HBP3.out) (pk_one ⟨fr, to, ⟨sA, sl, sc⟩⟩) HM2.out HMB2.out HZ2.out ?_
          intro A' c' w6 hown hg
          have HS4 := hide (own_in (ok := okX ok w.heap.size (w.heap.size + 3)) (f := Pkt.cs) (l := ql ++ [⟨fr, to, ⟨sA, sl, sc⟩⟩]) (by rw [List.flatMap_append]; exact hown) (by simp) (fun b hb => HNEW.out b (by have := HBB.out; have := HR2.out.lt; omega)))
          have HF4 := hide (below_app HF3.out HO2.out hg HBB.out HF3.out.size)
          clear hown hg
          refine HR.out _ _ HF4.out ?_
          clear HR
          (refine plan4_take (o := ?_) (v := ?_) (by simp only [List.getElem?_toArray, List.getElem?_cons_succ, List.getElem?_cons_zero]; rfl) (yields_run (by rfl) ?_) ?_; rotate_left; (focus (intro w' hw'; skip; go_simp <;> with_reducible rfl)); (simp only [Act.put, List.setIfInBounds_toArray, List.set_cons_zero, List.set_cons_succ]))
          refine plan4_last (o := ?_) (by simp only [List.getElem?_toArray, List.getElem?_cons_succ, List.getElem?_cons_zero]; rfl) ?_
          intro R HR
          have HFB := HF4
          have HA4 := hide (HA2.out.below HFB.out HA2.out.lt)
          have HR4 := hide (HR2.out.below HFB.out HR2.out.lt)
          obtain ⟨c0, c1⟩ := HA4.out.c2
          have f0 := HA4.out.free 0
          have HA5 := hide (HA4.out.set 0 (.slice A' (ql.length + 1) c'))
          have HR5 := hide (HR4.out.apart (p := ⟨w.heap.size, 0, none⟩) (by simp) (.slice A' (ql.length + 1) c'))
          simp only [List.set_cons_zero] at HA5
          go_wp2_with fail
          refine HR.out _ _ ?_
          clear HR
          refine plan4_done ?_
          clear c0 c1 f0
          go_wp2_with (first | (refine wpList_load_row rfl 25 (.tmp 2) rfl w.heap.size rfl 25 _ (0, 0) _ HA5.out Try.underlying25 rfl Try.size25 ?_) | (refine wpList_store_row rfl 25 (.tmp 4) (.tmp 28) rfl (w.heap.size + 2) #[.slice A' (ql.length + 1) c', .slice aA al.length ac] rfl rfl 25 _ HR5.out Try.size25 rfl (one25 _ _ _ _ _ _) ?_))
          refine bodyPost_ret (v := .tuple #[.agg #[.slice A' (ql.length + 1) c', .slice aA al.length ac], .int .i64 0]) (results_cell_row_tmp rfl _ _ (w.heap.size + 2) 25 #[.slice A' (ql.length + 1) c', .slice aA al.length ac] (0, 0) _ (.int .i64 0) rfl rfl (setRow_heap _ _ _ _ _ _ HR5.out) Try.underlying25 rfl Try.size25) rfl ?_
          rw [HX.out]
          exact HFIN.out _ HK2.out _ _ _ HS4.out HFB.out
end Go.Proofs.Ythmaakiibgdigaa
