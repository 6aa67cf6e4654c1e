/- Deliver. -/
import Derived.Test.YthmaakiibgdigaaRSnd
import Derived.Test.YthmaakiibgdigaaIsc
namespace Go.Proofs.Ythmaakiibgdigaa
open Go.RowKit
variable {ok : Nat → Prop}

theorem results_cell_cell_tmp {P : Program} {fn : Func} {p q u : Tmp} {ty ty2 : TypeId} (h : fn.results = #[.cell p ty, .cell q ty2, .tmp u]) (tmps : Array Value) (w : World) (g : Nat) (t : TypeId) (cs : Array Value) (fr : Nat × Nat) (d : TypeDesc) (g2 : Nat) (t2 : TypeId) (cs2 : Array Value) (fr2 : Nat × Nat) (d2 : TypeDesc) (x : Value)
    (hp : tmps.getD p undef = .pointer (some ⟨g, 0, none⟩)) (hq : tmps.getD q undef = .pointer (some ⟨g2, 0, none⟩)) (hx : tmps.getD u undef = x) (hg : w.heap[g]? = some (.cells cs t fr)) (hg2 : w.heap[g2]? = some (.cells cs2 t2 fr2))
    (hu : P.underlying ty = some d) (hd : (match d with | .struct _ | .array _ _ => true | _ => false) = true) (hi : (P.info? ty).map (·.size) = some cs.size)
    (hu2 : P.underlying ty2 = some d2) (hd2 : (match d2 with | .struct _ | .array _ _ => true | _ => false) = true) (hi2 : (P.info? ty2).map (·.size) = some cs2.size) :
    (results fn tmps).run P w = .ok (.tuple #[.agg cs, .agg cs2, x]) w := by
  simp only [results, h]
  have hp' : tmps[p]?.getD undef = .pointer (some ⟨g, 0, none⟩) := by simpa using hp
  have hq' : tmps[q]?.getD undef = .pointer (some ⟨g2, 0, none⟩) := by simpa using hq
  have hx' : tmps[u]?.getD undef = x := by simpa using hx
  simp [Sem.run_bind, Result.andThen, hp', hq', hx', asAddr, run_loadVar_row w g t ty cs fr d hg hu hd hi, run_loadVar_row w g2 t2 ty2 cs2 fr2 d2 hg2 hu2 hd2 hi2]
theorem give_fin {w : World} {x : Pk × Nt × Int} (n' : Net) (v3 : World) (q : Pkt) (hx : x = (q.d, n'.d, 0)) (hqi : q.In ok w) (hin : n'.In (okX ok w.heap.size (w.heap.size + 3)) v3) (hb : Below w.heap.size w v3) :
    AnsP ok w x (.returned (.tuple #[.agg #[.int .i64 q.fr, .int .i64 q.to, .slice q.s.A q.s.l.length q.s.cap], .agg #[.slice n'.q.A n'.q.l.length n'.q.cap, .slice n'.a.A n'.a.l.length n'.a.cap], .int .i64 0]))
      ((v3.setRow (w.heap.size + 1) #[.int .i64 q.fr, .int .i64 q.to, .slice q.s.A q.s.l.length q.s.cap]).setRow (w.heap.size + 2) #[.slice n'.q.A n'.q.l.length n'.q.cap, .slice n'.a.A n'.a.l.length n'.a.cap]) := by
  have hb2 : Below w.heap.size w ((v3.setRow (w.heap.size + 1) #[.int .i64 q.fr, .int .i64 q.to, .slice q.s.A q.s.l.length q.s.cap]).setRow (w.heap.size + 2) #[.slice n'.q.A n'.q.l.length n'.q.cap, .slice n'.a.A n'.a.l.length n'.a.cap]) := below_setRow (below_setRow hb (by omega) _) (by omega) _
  exact ⟨q, n', by rw [hx], by rw [hx], by rw [hx], hqi.below hb2, (hin.keep ((Kept.row (okX_not (by omega) (by omega)) _).trans (Kept.row (okX_not (by omega) (by omega)) _))).weak okX_ok, hb2⟩

set_option maxRecDepth 10000 in
set_option maxHeartbeats 3200000 in
theorem give_any (n : Net) (i : Int) (w : World) (hok : ∀ b, w.heap.size ≤ b → ok b) (hi : n.In ok w) : Calls Try.prog 20 #[n.v, .int .i64 i] w (AnsP ok w (n.d.give i)) := by
  obtain ⟨⟨qA, ql, qc⟩, ⟨aA, al, ac⟩⟩ := n
  have hle : ql.length ≤ qc := hi.q.q.le
  have hcap : qc ≤ 9223372036854775807 := hi.q.q.top
  have HB := hide (show Below w.heap.size w (((w.alloc (.cells #[.slice qA ql.length qc, .slice aA al.length ac] 25)).alloc (.cells #[.int .i64 0, .int .i64 0, .slice none 0 0] 28)).alloc (.cells #[.slice none 0 0, .slice none 0 0] 25)) from ((below_new _ _).alloc (by simp) _).alloc (by simp only [World.size_alloc]; omega) _)
  have HX0 := hide (show Blk (((w.alloc (.cells #[.slice qA ql.length qc, .slice aA al.length ac] 25)).alloc (.cells #[.int .i64 0, .int .i64 0, .slice none 0 0] 28)).alloc (.cells #[.slice none 0 0, .slice none 0 0] 25)) w.heap.size 25 [.slice qA ql.length qc, .slice aA al.length ac] from ((Blk.new w 25 [.slice qA ql.length qc, .slice aA al.length ac]).alloc _).alloc _)
  have b1 := (Blk.new (w.alloc (.cells #[.slice qA ql.length qc, .slice aA al.length ac] 25)) 28 [.int .i64 0, .int .i64 0, .slice none 0 0]).alloc (.cells #[.slice none 0 0, .slice none 0 0] 25)
  have b2 := Blk.new ((w.alloc (.cells #[.slice qA ql.length qc, .slice aA al.length ac] 25)).alloc (.cells #[.int .i64 0, .int .i64 0, .slice none 0 0] 28)) 25 [.slice none 0 0, .slice none 0 0]
  simp only [World.size_alloc, Nat.add_assoc, Nat.reduceAdd] at b1 b2
  have HX1 := hide b1
  have HX2 := hide b2
  clear b1 b2
  have HI := hide hi
  have HNEW := hide (show ∀ x, w.heap.size + 3 ≤ x → okX ok w.heap.size (w.heap.size + 3) x from okX_new hok (by omega))
  clear hi
  by_cases hk : (Net.d ⟨⟨qA, ql, qc⟩, ⟨aA, al, ac⟩⟩).asked i = 0
  · obtain ⟨hc, h0, h1⟩ := asked_zero hk
    have hlen := chk_len hc
    rw [net_len] at h1 hlen
    obtain ⟨j, rfl⟩ := Int.eq_ofNat_of_zero_le h0
    replace h1 : j < ql.length := by simp only at h1; omega
    obtain ⟨b, o, hA, hb0, d0, d1, d2⟩ := HI.out.q.at h1
    simp only at hA
    subst hA
    have HCB0 := hide hb0
    have HCC0 := hide (And.intro d0 (And.intro d1 d2))
    clear hb0 d0 d1 d2
    have HG : (Net.d ⟨⟨some ⟨b, o, none⟩, ql, qc⟩, ⟨aA, al, ac⟩⟩).get (Int.toNat (j : Int)) = (ql[j]).d := by
      unfold Nt.get
      simp [Net.d, List.getD_eq_getElem?_getD, h1]
    have HPI := hide (HI.out.q.p _ (List.getElem_mem h1))
    have HC := hide (ask_is hk (((w.alloc (.cells #[.slice (some ⟨b, o, none⟩) ql.length qc, .slice aA al.length ac] 25)).alloc (.cells #[.int .i64 0, .int .i64 0, .slice none 0 0] 28)).alloc (.cells #[.slice none 0 0, .slice none 0 0] 25)) (HI.out.below HB.out))
    have HDR := hide (fun W (hW : Below w.heap.size w W) (hz : w.heap.size + 3 ≤ W.heap.size) => dropped_any (ok := okX ok w.heap.size (w.heap.size + 3)) ⟨⟨some ⟨b, o, none⟩, ql, qc⟩, ⟨aA, al, ac⟩⟩ j W (fun b hb => HNEW.out b (Nat.le_trans hz hb)) ((HI.out.weak okX_old).below hW) h1 hlen)
    have hjl : (j : Int) < (ql.length : Int) := by omega
    have HGV := hide (show (Net.d ⟨⟨some ⟨b, o, none⟩, ql, qc⟩, ⟨aA, al, ac⟩⟩).give (j : Int) = ((if (Net.d ⟨⟨some ⟨b, o, none⟩, ql, qc⟩, ⟨aA, al, ac⟩⟩).isCut (ql[j]).fr (ql[j]).to then Pk.zero else (ql[j]).d), (Net.d ⟨⟨some ⟨b, o, none⟩, ql, qc⟩, ⟨aA, al, ac⟩⟩).drop j, 0) by unfold Nt.give; rw [if_pos hk, HG]; rfl)
    clear hk hc h0 HG
    generalize ql[j] = p at *
    have HFIN := hide (fun (n' : Net) (v3 : World) (q : Pkt) (hq : q.d = (if (Net.d ⟨⟨some ⟨b, o, none⟩, ql, qc⟩, ⟨aA, al, ac⟩⟩).isCut p.fr p.to then Pk.zero else p.d)) (hqi : q.In ok w) (hd : n'.d = (Net.d ⟨⟨some ⟨b, o, none⟩, ql, qc⟩, ⟨aA, al, ac⟩⟩).drop j) (hin : n'.In (okX ok w.heap.size (w.heap.size + 3)) v3) (hb : Below w.heap.size w v3) => give_fin (x := (Net.d ⟨⟨some ⟨b, o, none⟩, ql, qc⟩, ⟨aA, al, ac⟩⟩).give (j : Int)) n' v3 q (by rw [HGV.out, hq, hd]) hqi hin hb)
    go_enter Try.func20, Try.ntmps20
    go_wp2_with fail
    refine HC.out.mono ?_
    rintro e w1 ⟨rfl, hb⟩
    have HK1 := hide (below_one HB.out hb)
    have HXA := hide (HX0.out.below hb HX0.out.lt)
    have HR1 := hide (HX1.out.below hb HX1.out.lt)
    have HR2 := hide (HX2.out.below hb HX2.out.lt)
    have HCC := hide (show w1.cell? ⟨b, o + j * 3, none⟩ = _ ∧ w1.cell? ⟨b, o + j * 3 + 1, none⟩ = _ ∧ w1.cell? ⟨b, o + j * 3 + 2, none⟩ = _ from ⟨(HK1.out.cell (p := ⟨b, o + j * 3, none⟩) HCB0.out).trans HCC0.out.1, (HK1.out.cell (p := ⟨b, o + j * 3 + 1, none⟩) HCB0.out).trans HCC0.out.2.1, (HK1.out.cell (p := ⟨b, o + j * 3 + 2, none⟩) HCB0.out).trans HCC0.out.2.2⟩)
    clear hb HX0 HX1 HX2 HC
    obtain ⟨c0, c1⟩ := HXA.out.c2
    obtain ⟨d0, d1, d2⟩ := HCC.out
    go_wp2_with (refine wpList_store_row rfl 28 (.tmp 4) (.tmp 19) rfl (w.heap.size + 1) #[.int .i64 p.fr, .int .i64 p.to, .slice p.s.A p.s.l.length p.s.cap] rfl rfl 28 _ HR1.out Try.size28 rfl (one28 _ _ _ _ _) ?_)
    clear c0 c1 d0 d1 d2
    have HKA := hide (below_setRow HK1.out (show w.heap.size ≤ w.heap.size + 1 by omega) #[.int .i64 p.fr, .int .i64 p.to, .slice p.s.A p.s.l.length p.s.cap])
    have HXB := hide (HXA.out.far (Y := w.heap.size + 1) (by omega) #[.int .i64 p.fr, .int .i64 p.to, .slice p.s.A p.s.l.length p.s.cap])
    have HRA1 := hide (HR1.out.row [.int .i64 p.fr, .int .i64 p.to, .slice p.s.A p.s.l.length p.s.cap])
    have HRA2 := hide (HR2.out.far (Y := w.heap.size + 1) (by omega) #[.int .i64 p.fr, .int .i64 p.to, .slice p.s.A p.s.l.length p.s.cap])
    generalize hwa : (w1.setRow (w.heap.size + 1) #[.int .i64 p.fr, .int .i64 p.to, .slice p.s.A p.s.l.length p.s.cap]) = wa at *
    clear hwa HXA HR1 HR2 HK1 HCC
    have HCN := hide (fun W (hW : Below w.heap.size w W) => contains_any aA al ac (pairN p.fr p.to) W (HI.out.a.below hW))
    have HCT := hide (show (Net.d ⟨⟨some ⟨b, o, none⟩, ql, qc⟩, ⟨aA, al, ac⟩⟩).isCut p.fr p.to = al.contains (pairN p.fr p.to) from rfl)
    generalize al.contains (pairN p.fr p.to) = cut at *
    refine wp_region_plan4 (fun W => Below wa.heap.size wa W) (.take 0 (.take 1 (.take 2 (.take 3 (.take 4 (.take 5 (.run 6 (.run 7 .done)))))))) (by kernel_rfl) (by kernel_rfl) ((Below.refl _ _).drew) ?_
    have HF0 := hide (show Below wa.heap.size wa wa.drew from (Below.refl _ _).drew)
    generalize wa.drew = wD at HF0 ⊢
    (refine plan4_take (o := ?_) (v := ?_) (by simp only [List.getElem?_toArray, List.getElem?_cons_zero]; rfl) (yields_run (by rfl) ?_) ?_; rotate_left; (focus (intro w' hw'; skip; go_simp <;> with_reducible rfl)); (simp only [Act.put, List.setIfInBounds_toArray, List.set_cons_zero, List.set_cons_succ]))
    (refine plan4_take (o := ?_) (v := ?_) (by simp only [List.getElem?_toArray, List.getElem?_cons_succ, List.getElem?_cons_zero]; rfl) (yields_run (by rfl) ?_) ?_; rotate_left; (focus (intro w' hw'; have c1 := (hw'.cell (p := ⟨w.heap.size, 1, none⟩) HXB.out.lt).trans HXB.out.c2.2; have d0 := (hw'.cell (p := ⟨w.heap.size + 1, 0, none⟩) HRA1.out.lt).trans HRA1.out.c3.1; have d1 := (hw'.cell (p := ⟨w.heap.size + 1, 1, none⟩) HRA1.out.lt).trans HRA1.out.c3.2.1; go_simp <;> with_reducible rfl)); (simp only [Act.put, List.setIfInBounds_toArray, List.set_cons_zero, List.set_cons_succ]))
    (refine plan4_take (o := ?_) (v := ?_) (by simp only [List.getElem?_toArray, List.getElem?_cons_succ, List.getElem?_cons_zero]; rfl) (yields_run (by rfl) ?_) ?_; rotate_left; (focus (intro w' hw'; skip; go_simp <;> with_reducible rfl)); (simp only [Act.put, List.setIfInBounds_toArray, List.set_cons_zero, List.set_cons_succ]))
    (refine plan4_take (o := ?_) (v := ?_) (by simp only [List.getElem?_toArray, List.getElem?_cons_succ, List.getElem?_cons_zero]; rfl) (yields_run (by rfl) ?_) ?_; rotate_left; (focus (intro w' hw'; have c1 := (hw'.cell (p := ⟨w.heap.size, 1, none⟩) HXB.out.lt).trans HXB.out.c2.2; have d0 := (hw'.cell (p := ⟨w.heap.size + 1, 0, none⟩) HRA1.out.lt).trans HRA1.out.c3.1; have d1 := (hw'.cell (p := ⟨w.heap.size + 1, 1, none⟩) HRA1.out.lt).trans HRA1.out.c3.2.1; go_simp <;> with_reducible rfl)); (simp only [Act.put, List.setIfInBounds_toArray, List.set_cons_zero, List.set_cons_succ]))
    (refine plan4_take (o := ?_) (v := ?_) (by simp only [List.getElem?_toArray, List.getElem?_cons_succ, List.getElem?_cons_zero]; rfl) (yields_run (by rfl) ?_) ?_; rotate_left; (focus (intro w' hw'; skip; go_simp <;> with_reducible rfl)); (simp only [Act.put, List.setIfInBounds_toArray, List.set_cons_zero, List.set_cons_succ]))
    (refine plan4_take (o := ?_) (v := ?_) (by simp only [List.getElem?_toArray, List.getElem?_cons_succ, List.getElem?_cons_zero]; rfl) (yields_run (by rfl) ?_) ?_; rotate_left; (focus (intro w' hw'; have c1 := (hw'.cell (p := ⟨w.heap.size, 1, none⟩) HXB.out.lt).trans HXB.out.c2.2; have d0 := (hw'.cell (p := ⟨w.heap.size + 1, 0, none⟩) HRA1.out.lt).trans HRA1.out.c3.1; have d1 := (hw'.cell (p := ⟨w.heap.size + 1, 1, none⟩) HRA1.out.lt).trans HRA1.out.c3.2.1; go_simp <;> with_reducible rfl)); (simp only [Act.put, List.setIfInBounds_toArray, List.set_cons_zero, List.set_cons_succ]))
    refine plan4_run (o := ?_) (by simp only [List.getElem?_toArray, List.getElem?_cons_succ, List.getElem?_cons_zero]; rfl) ?_
    intro R HR
    go_wp2_with fail
    refine (pairOf_any _ _ _).mono ?_
    rintro e v6 ⟨rfl, hb⟩
    have HF1 := hide (below_one HF0.out hb)
    clear hb
    go_wp2_with fail
    refine HR.out _ _ HF1.out ?_
    clear HR
    refine plan4_run (o := ?_) (by simp only [List.getElem?_toArray, List.getElem?_cons_succ, List.getElem?_cons_zero]; rfl) ?_
    intro R HR
    go_wp2_with fail
    (with_reducible refine (HCN.out _ (HKA.out.trans (HF1.out.mono HKA.out.size))).mono ?_)
    rintro e vB ⟨rfl, hb⟩
    have HF2 := hide (below_one HF1.out hb)
    clear hb
    go_wp2_with fail
    refine HR.out _ _ HF2.out ?_
    clear HR
    refine plan4_done ?_
    have HXC := hide (HXB.out.below HF2.out HXB.out.lt)
    have HRB1 := hide (HRA1.out.below HF2.out HRA1.out.lt)
    have HRB2 := hide (HRA2.out.below HF2.out HRA2.out.lt)
    have HKB := hide (HKA.out.trans (HF2.out.mono HKA.out.size))
    clear HF0 HF1 HF2 HXB HRA1 HRA2 HKA HCN
    cases cut with
    | true =>
      replace HFIN := hide (fun n' v3 => HFIN.out n' v3 Pkt.zero (by rw [HCT.out]; rfl) (Pkt.zero_in w))
      go_wp2_with (refine wpList_store_row rfl 28 (.tmp 4) (.tmp 28) rfl (w.heap.size + 1) #[.int .i64 0, .int .i64 0, .slice none 0 0] rfl rfl 28 _ HRB1.out Try.size28 rfl (one28 _ _ _ _ _) ?_)
      have HSB := hide (show Blk (vB.setRow (w.heap.size + 1) #[.int .i64 0, .int .i64 0, .slice none 0 0]) w.heap.size 25 [.slice (some ⟨b, o, none⟩) ql.length qc, .slice aA al.length ac] ∧ Blk (vB.setRow (w.heap.size + 1) #[.int .i64 0, .int .i64 0, .slice none 0 0]) (w.heap.size + 1) 28 [.int .i64 0, .int .i64 0, .slice none 0 0] ∧ Below w.heap.size w (vB.setRow (w.heap.size + 1) #[.int .i64 0, .int .i64 0, .slice none 0 0]) from ⟨HXC.out.far (by omega) _, HRB1.out.row [.int .i64 0, .int .i64 0, .slice none 0 0], below_setRow HKB.out (by omega) _⟩)
      have HRX1 := hide (HRB1.out.row [.int .i64 0, .int .i64 0, .slice none 0 0])
      have HRX2 := hide (HRB2.out.far (Y := w.heap.size + 1) (by omega) #[.int .i64 0, .int .i64 0, .slice none 0 0])
      clear HRB1 HRB2 HXC HKB
      have HRB1 := hide HRX1.out
      have HRB2 := hide HRX2.out
      clear HRX1 HRX2
      generalize (vB.setRow (w.heap.size + 1) #[.int .i64 0, .int .i64 0, .slice none 0 0]) = vB at *
      refine wp_region_plan4 (fun W => Blk W w.heap.size 25 [.slice (some ⟨b, o, none⟩) ql.length qc, .slice aA al.length ac] ∧ Blk W (w.heap.size + 1) 28 [.int .i64 0, .int .i64 0, .slice none 0 0] ∧ Below w.heap.size w W) (.take 0 (.take 1 (.take 2 (.run 3 (.run 4 (.run 5 (.run 6 .done))))))) (by kernel_rfl) (by kernel_rfl) ⟨HSB.out.1, HSB.out.2.1, HSB.out.2.2.drew⟩ ?_
      have HSD := hide (show Blk vB.drew w.heap.size 25 [.slice (some ⟨b, o, none⟩) ql.length qc, .slice aA al.length ac] ∧ Blk vB.drew (w.heap.size + 1) 28 [.int .i64 0, .int .i64 0, .slice none 0 0] ∧ Below w.heap.size w vB.drew from ⟨HSB.out.1, HSB.out.2.1, HSB.out.2.2.drew⟩)
      have HRD1 := hide HRB1.out.drew
      have HRD2 := hide HRB2.out.drew
      generalize vB.drew = wD at HSD HRD1 HRD2 ⊢
      (refine plan4_take (o := ?_) (v := ?_) (by simp only [List.getElem?_toArray, List.getElem?_cons_zero]; rfl) (yields_run (by rfl) ?_) ?_; rotate_left; (focus (intro w' hw'; obtain ⟨q0, q1, _⟩ := hw'; obtain ⟨c0, c1⟩ := q0.c2; obtain ⟨d0, d1, d2⟩ := q1.c3; go_simp <;> with_reducible rfl)); (simp only [Act.put, List.setIfInBounds_toArray, List.set_cons_zero, List.set_cons_succ]))
      (refine plan4_take (o := ?_) (v := ?_) (by simp only [List.getElem?_toArray, List.getElem?_cons_succ, List.getElem?_cons_zero]; rfl) (yields_run (by rfl) ?_) ?_; rotate_left; (focus (intro w' hw'; obtain ⟨q0, q1, _⟩ := hw'; obtain ⟨c0, c1⟩ := q0.c2; obtain ⟨d0, d1, d2⟩ := q1.c3; go_simp <;> with_reducible rfl)); (simp only [Act.put, List.setIfInBounds_toArray, List.set_cons_zero, List.set_cons_succ]))
      (refine plan4_take (o := ?_) (v := ?_) (by simp only [List.getElem?_toArray, List.getElem?_cons_succ, List.getElem?_cons_zero]; rfl) (yields_run (by rfl) ?_) ?_; rotate_left; (focus (intro w' hw'; skip; go_simp <;> with_reducible rfl)); (simp only [Act.put, List.setIfInBounds_toArray, List.set_cons_zero, List.set_cons_succ]))
      refine plan4_run (o := ?_) (by simp only [List.getElem?_toArray, List.getElem?_cons_succ, List.getElem?_cons_zero]; rfl) ?_
      intro R HR
      go_wp2_with fail
      (with_reducible refine (HDR.out _ HSD.out.2.2 (by have := HRD2.out.lt; omega)).mono ?_)
      rintro e v3 ⟨n', rfl, hd, hin, hb⟩
      have HDD := hide hd
      have HIN := hide hin
      have HS3 := hide (show Blk v3 w.heap.size 25 _ ∧ Blk v3 (w.heap.size + 1) 28 _ ∧ Below w.heap.size w v3 from ⟨HSD.out.1.below hb HSD.out.1.lt, HSD.out.2.1.below hb HSD.out.2.1.lt, below_one HSD.out.2.2 hb⟩)
      have HRE1 := hide (HRD1.out.below hb HRD1.out.lt)
      have HRE2 := hide (HRD2.out.below hb HRD2.out.lt)
      clear hd hin hb
      go_wp2_with fail
      refine HR.out _ _ HS3.out ?_
      clear HR
      refine plan4_run (o := ?_) (by simp only [List.getElem?_toArray, List.getElem?_cons_succ, List.getElem?_cons_zero]; rfl) ?_
      intro R HR
      have HS4 := hide (show Blk (v3.setRow (w.heap.size + 1) #[.int .i64 0, .int .i64 0, .slice none 0 0]) w.heap.size 25 _ ∧ Blk (v3.setRow (w.heap.size + 1) #[.int .i64 0, .int .i64 0, .slice none 0 0]) (w.heap.size + 1) 28 _ ∧ Below w.heap.size w (v3.setRow (w.heap.size + 1) #[.int .i64 0, .int .i64 0, .slice none 0 0]) from ⟨HS3.out.1.far (by omega) _, HS3.out.2.1.row [.int .i64 0, .int .i64 0, .slice none 0 0], below_setRow HS3.out.2.2 (by omega) _⟩)
      have HR41 := hide (HRE1.out.row [.int .i64 0, .int .i64 0, .slice none 0 0])
      have HR42 := hide (HRE2.out.far (Y := w.heap.size + 1) (by omega) #[.int .i64 0, .int .i64 0, .slice none 0 0])
      (refine wpList_store_row rfl 28 (.tmp 4) (.tmp 29) rfl (w.heap.size + 1) #[.int .i64 0, .int .i64 0, .slice none 0 0] rfl rfl 28 _ HRE1.out Try.size28 rfl (one28 _ _ _ _ _) ?_)
      refine HR.out _ _ HS4.out ?_
      clear HR
      refine plan4_run (o := ?_) (by simp only [List.getElem?_toArray, List.getElem?_cons_succ, List.getElem?_cons_zero]; rfl) ?_
      intro R HR
      have HS5 := hide (show Blk ((v3.setRow (w.heap.size + 1) #[.int .i64 0, .int .i64 0, .slice none 0 0]).setRow (w.heap.size + 2) #[.slice n'.q.A n'.q.l.length n'.q.cap, .slice n'.a.A n'.a.l.length n'.a.cap]) w.heap.size 25 _ ∧ Blk ((v3.setRow (w.heap.size + 1) #[.int .i64 0, .int .i64 0, .slice none 0 0]).setRow (w.heap.size + 2) #[.slice n'.q.A n'.q.l.length n'.q.cap, .slice n'.a.A n'.a.l.length n'.a.cap]) (w.heap.size + 1) 28 _ ∧ Below w.heap.size w ((v3.setRow (w.heap.size + 1) #[.int .i64 0, .int .i64 0, .slice none 0 0]).setRow (w.heap.size + 2) #[.slice n'.q.A n'.q.l.length n'.q.cap, .slice n'.a.A n'.a.l.length n'.a.cap]) from ⟨HS4.out.1.far (by omega) _, HS4.out.2.1.far (by omega) _, below_setRow HS4.out.2.2 (by omega) _⟩)
      have HR51 := hide (HR41.out.far (Y := w.heap.size + 2) (by omega) #[.slice n'.q.A n'.q.l.length n'.q.cap, .slice n'.a.A n'.a.l.length n'.a.cap])
      have HR52 := hide (HR42.out.row [.slice n'.q.A n'.q.l.length n'.q.cap, .slice n'.a.A n'.a.l.length n'.a.cap])
      (refine wpList_store_row rfl 25 (.tmp 5) (.tmp 32) rfl (w.heap.size + 2) #[.slice n'.q.A n'.q.l.length n'.q.cap, .slice n'.a.A n'.a.l.length n'.a.cap] rfl rfl 25 _ HR42.out Try.size25 rfl (one25 _ _ _ _ _ _) ?_)
      refine HR.out _ _ HS5.out ?_
      clear HR
      refine plan4_run (o := ?_) (by simp only [List.getElem?_toArray, List.getElem?_cons_succ, List.getElem?_cons_zero]; rfl) ?_
      intro R HR
      go_wp2_with fail
      refine HR.out _ _ HS5.out ?_
      clear HR
      refine plan4_done ?_
      go_wp2_with fail
      refine bodyPost_ret (v := .tuple #[.agg #[.int .i64 0, .int .i64 0, .slice none 0 0], .agg #[.slice n'.q.A n'.q.l.length n'.q.cap, .slice n'.a.A n'.a.l.length n'.a.cap], .int .i64 0]) (results_cell_cell_tmp rfl _ _ (w.heap.size + 1) 28 #[.int .i64 0, .int .i64 0, .slice none 0 0] (0, 0) _ (w.heap.size + 2) 25 #[.slice n'.q.A n'.q.l.length n'.q.cap, .slice n'.a.A n'.a.l.length n'.a.cap] (0, 0) _ (.int .i64 0) rfl rfl rfl HR51.out HR52.out Try.underlying28 rfl Try.size28 Try.underlying25 rfl Try.size25) rfl ?_
      exact HFIN.out n' _ HDD.out HIN.out HS3.out.2.2
    | false =>
      replace HFIN := hide (fun n' v3 => HFIN.out n' v3 p (by rw [HCT.out]; rfl) HPI.out)
      have HSB := hide (show Blk vB w.heap.size 25 [.slice (some ⟨b, o, none⟩) ql.length qc, .slice aA al.length ac] ∧ Blk vB (w.heap.size + 1) 28 [.int .i64 p.fr, .int .i64 p.to, .slice p.s.A p.s.l.length p.s.cap] ∧ Below w.heap.size w vB from ⟨HXC.out, HRB1.out, HKB.out⟩)
      go_wp2_with fail
      refine wp_region_plan4 (fun W => Blk W w.heap.size 25 [.slice (some ⟨b, o, none⟩) ql.length qc, .slice aA al.length ac] ∧ Blk W (w.heap.size + 1) 28 [.int .i64 p.fr, .int .i64 p.to, .slice p.s.A p.s.l.length p.s.cap] ∧ Below w.heap.size w W) (.take 0 (.take 1 (.take 2 (.run 3 (.run 4 (.run 5 (.run 6 .done))))))) (by kernel_rfl) (by kernel_rfl) ⟨HSB.out.1, HSB.out.2.1, HSB.out.2.2.drew⟩ ?_
      have HSD := hide (show Blk vB.drew w.heap.size 25 [.slice (some ⟨b, o, none⟩) ql.length qc, .slice aA al.length ac] ∧ Blk vB.drew (w.heap.size + 1) 28 [.int .i64 p.fr, .int .i64 p.to, .slice p.s.A p.s.l.length p.s.cap] ∧ Below w.heap.size w vB.drew from ⟨HSB.out.1, HSB.out.2.1, HSB.out.2.2.drew⟩)
      have HRD1 := hide HRB1.out.drew
      have HRD2 := hide HRB2.out.drew
      generalize vB.drew = wD at HSD HRD1 HRD2 ⊢
      (refine plan4_take (o := ?_) (v := ?_) (by simp only [List.getElem?_toArray, List.getElem?_cons_zero]; rfl) (yields_run (by rfl) ?_) ?_; rotate_left; (focus (intro w' hw'; obtain ⟨q0, q1, _⟩ := hw'; obtain ⟨c0, c1⟩ := q0.c2; obtain ⟨d0, d1, d2⟩ := q1.c3; go_simp <;> with_reducible rfl)); (simp only [Act.put, List.setIfInBounds_toArray, List.set_cons_zero, List.set_cons_succ]))
      (refine plan4_take (o := ?_) (v := ?_) (by simp only [List.getElem?_toArray, List.getElem?_cons_succ, List.getElem?_cons_zero]; rfl) (yields_run (by rfl) ?_) ?_; rotate_left; (focus (intro w' hw'; obtain ⟨q0, q1, _⟩ := hw'; obtain ⟨c0, c1⟩ := q0.c2; obtain ⟨d0, d1, d2⟩ := q1.c3; go_simp <;> with_reducible rfl)); (simp only [Act.put, List.setIfInBounds_toArray, List.set_cons_zero, List.set_cons_succ]))
      (refine plan4_take (o := ?_) (v := ?_) (by simp only [List.getElem?_toArray, List.getElem?_cons_succ, List.getElem?_cons_zero]; rfl) (yields_run (by rfl) ?_) ?_; rotate_left; (focus (intro w' hw'; skip; go_simp <;> with_reducible rfl)); (simp only [Act.put, List.setIfInBounds_toArray, List.set_cons_zero, List.set_cons_succ]))
      refine plan4_run (o := ?_) (by simp only [List.getElem?_toArray, List.getElem?_cons_succ, List.getElem?_cons_zero]; rfl) ?_
      intro R HR
      go_wp2_with fail
      (with_reducible refine (HDR.out _ HSD.out.2.2 (by have := HRD2.out.lt; omega)).mono ?_)
      rintro e v3 ⟨n', rfl, hd, hin, hb⟩
      have HDD := hide hd
      have HIN := hide hin
      have HS3 := hide (show Blk v3 w.heap.size 25 _ ∧ Blk v3 (w.heap.size + 1) 28 _ ∧ Below w.heap.size w v3 from ⟨HSD.out.1.below hb HSD.out.1.lt, HSD.out.2.1.below hb HSD.out.2.1.lt, below_one HSD.out.2.2 hb⟩)
      have HRE1 := hide (HRD1.out.below hb HRD1.out.lt)
      have HRE2 := hide (HRD2.out.below hb HRD2.out.lt)
      clear hd hin hb
      go_wp2_with fail
      refine HR.out _ _ HS3.out ?_
      clear HR
      refine plan4_run (o := ?_) (by simp only [List.getElem?_toArray, List.getElem?_cons_succ, List.getElem?_cons_zero]; rfl) ?_
      intro R HR
      have HS4 := hide (show Blk (v3.setRow (w.heap.size + 1) #[.int .i64 p.fr, .int .i64 p.to, .slice p.s.A p.s.l.length p.s.cap]) w.heap.size 25 _ ∧ Blk (v3.setRow (w.heap.size + 1) #[.int .i64 p.fr, .int .i64 p.to, .slice p.s.A p.s.l.length p.s.cap]) (w.heap.size + 1) 28 _ ∧ Below w.heap.size w (v3.setRow (w.heap.size + 1) #[.int .i64 p.fr, .int .i64 p.to, .slice p.s.A p.s.l.length p.s.cap]) from ⟨HS3.out.1.far (by omega) _, HS3.out.2.1.row [.int .i64 p.fr, .int .i64 p.to, .slice p.s.A p.s.l.length p.s.cap], below_setRow HS3.out.2.2 (by omega) _⟩)
      have HR41 := hide (HRE1.out.row [.int .i64 p.fr, .int .i64 p.to, .slice p.s.A p.s.l.length p.s.cap])
      have HR42 := hide (HRE2.out.far (Y := w.heap.size + 1) (by omega) #[.int .i64 p.fr, .int .i64 p.to, .slice p.s.A p.s.l.length p.s.cap])
      (refine wpList_store_row rfl 28 (.tmp 4) (.tmp 29) rfl (w.heap.size + 1) #[.int .i64 p.fr, .int .i64 p.to, .slice p.s.A p.s.l.length p.s.cap] rfl rfl 28 _ HRE1.out Try.size28 rfl (one28 _ _ _ _ _) ?_)
      refine HR.out _ _ HS4.out ?_
      clear HR
      refine plan4_run (o := ?_) (by simp only [List.getElem?_toArray, List.getElem?_cons_succ, List.getElem?_cons_zero]; rfl) ?_
      intro R HR
      have HS5 := hide (show Blk ((v3.setRow (w.heap.size + 1) #[.int .i64 p.fr, .int .i64 p.to, .slice p.s.A p.s.l.length p.s.cap]).setRow (w.heap.size + 2) #[.slice n'.q.A n'.q.l.length n'.q.cap, .slice n'.a.A n'.a.l.length n'.a.cap]) w.heap.size 25 _ ∧ Blk ((v3.setRow (w.heap.size + 1) #[.int .i64 p.fr, .int .i64 p.to, .slice p.s.A p.s.l.length p.s.cap]).setRow (w.heap.size + 2) #[.slice n'.q.A n'.q.l.length n'.q.cap, .slice n'.a.A n'.a.l.length n'.a.cap]) (w.heap.size + 1) 28 _ ∧ Below w.heap.size w ((v3.setRow (w.heap.size + 1) #[.int .i64 p.fr, .int .i64 p.to, .slice p.s.A p.s.l.length p.s.cap]).setRow (w.heap.size + 2) #[.slice n'.q.A n'.q.l.length n'.q.cap, .slice n'.a.A n'.a.l.length n'.a.cap]) from ⟨HS4.out.1.far (by omega) _, HS4.out.2.1.far (by omega) _, below_setRow HS4.out.2.2 (by omega) _⟩)
      have HR51 := hide (HR41.out.far (Y := w.heap.size + 2) (by omega) #[.slice n'.q.A n'.q.l.length n'.q.cap, .slice n'.a.A n'.a.l.length n'.a.cap])
      have HR52 := hide (HR42.out.row [.slice n'.q.A n'.q.l.length n'.q.cap, .slice n'.a.A n'.a.l.length n'.a.cap])
      (refine wpList_store_row rfl 25 (.tmp 5) (.tmp 32) rfl (w.heap.size + 2) #[.slice n'.q.A n'.q.l.length n'.q.cap, .slice n'.a.A n'.a.l.length n'.a.cap] rfl rfl 25 _ HR42.out Try.size25 rfl (one25 _ _ _ _ _ _) ?_)
      refine HR.out _ _ HS5.out ?_
      clear HR
      refine plan4_run (o := ?_) (by simp only [List.getElem?_toArray, List.getElem?_cons_succ, List.getElem?_cons_zero]; rfl) ?_
      intro R HR
      go_wp2_with fail
      refine HR.out _ _ HS5.out ?_
      clear HR
      refine plan4_done ?_
      go_wp2_with fail
      refine bodyPost_ret (v := .tuple #[.agg #[.int .i64 p.fr, .int .i64 p.to, .slice p.s.A p.s.l.length p.s.cap], .agg #[.slice n'.q.A n'.q.l.length n'.q.cap, .slice n'.a.A n'.a.l.length n'.a.cap], .int .i64 0]) (results_cell_cell_tmp rfl _ _ (w.heap.size + 1) 28 #[.int .i64 p.fr, .int .i64 p.to, .slice p.s.A p.s.l.length p.s.cap] (0, 0) _ (w.heap.size + 2) 25 #[.slice n'.q.A n'.q.l.length n'.q.cap, .slice n'.a.A n'.a.l.length n'.a.cap] (0, 0) _ (.int .i64 0) rfl rfl rfl HR51.out HR52.out Try.underlying28 rfl Try.size28 Try.underlying25 rfl Try.size25) rfl ?_
      exact HFIN.out n' _ HDD.out HIN.out HS3.out.2.2
  · have HX := hide (show (Net.d ⟨⟨qA, ql, qc⟩, ⟨aA, al, ac⟩⟩).give i = (Pk.zero, Nt.zero, (Net.d ⟨⟨qA, ql, qc⟩, ⟨aA, al, ac⟩⟩).asked i) by unfold Nt.give; rw [if_neg hk])
    generalize hkk : (Net.d ⟨⟨qA, ql, qc⟩, ⟨aA, al, ac⟩⟩).asked i = k at *
    have HC := hide (ask_is hkk (((w.alloc (.cells #[.slice qA ql.length qc, .slice aA al.length ac] 25)).alloc (.cells #[.int .i64 0, .int .i64 0, .slice none 0 0] 28)).alloc (.cells #[.slice none 0 0, .slice none 0 0] 25)) (HI.out.below HB.out))
    have hk' : (k != 0) = true := by simpa using hk
    clear hkk hk
    go_enter Try.func20, Try.ntmps20
    go_wp2_with fail
    refine HC.out.mono ?_
    rintro e w1 ⟨rfl, hb⟩
    have HK := hide (below_one HB.out hb)
    have HR1 := hide (HX1.out.below hb HX1.out.lt)
    have HR2 := hide ((HX2.out.below hb HX2.out.lt).far (Y := w.heap.size + 1) (by omega) #[.int .i64 0, .int .i64 0, .slice none 0 0])
    have HR3 := hide ((HR1.out.row [.int .i64 0, .int .i64 0, .slice none 0 0]).far (Y := w.heap.size + 2) (by omega) #[.slice none 0 0, .slice none 0 0])
    have HR4 := hide (HR2.out.row [.slice none 0 0, .slice none 0 0])
    clear hb
    go_wp2_with (first | (refine wpList_store_row rfl 28 (.tmp 4) (.tmp 12) rfl (w.heap.size + 1) #[.int .i64 0, .int .i64 0, .slice none 0 0] rfl rfl 28 _ HR1.out Try.size28 rfl (one28 _ _ _ _ _) ?_) | (refine wpList_store_row rfl 25 (.tmp 5) (.tmp 13) rfl (w.heap.size + 2) #[.slice none 0 0, .slice none 0 0] rfl rfl 25 _ HR2.out Try.size25 rfl (one25 _ _ _ _ _ _) ?_))
    refine bodyPost_ret (v := .tuple #[Pkt.zero.v, Net.zero.v, .int .i64 k]) (results_cell_cell_tmp rfl _ _ (w.heap.size + 1) 28 #[.int .i64 0, .int .i64 0, .slice none 0 0] (0, 0) _ (w.heap.size + 2) 25 #[.slice none 0 0, .slice none 0 0] (0, 0) _ (.int .i64 k) rfl rfl rfl HR3.out HR4.out Try.underlying28 rfl Try.size28 Try.underlying25 rfl Try.size25) rfl ?_
    exact ⟨Pkt.zero, Net.zero, by rw [HX.out], by rw [HX.out]; rfl, by rw [HX.out]; rfl, Pkt.zero_in _, Net.zero_in _, below_setRow (below_setRow HK.out (by omega) _) (by omega) _⟩
end Go.Proofs.Ythmaakiibgdigaa
