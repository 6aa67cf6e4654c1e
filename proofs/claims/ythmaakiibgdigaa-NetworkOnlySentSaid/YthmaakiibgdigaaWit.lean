/- without. -/
import Derived.Test.YthmaakiibgdigaaDrp
namespace Go.Proofs.Ythmaakiibgdigaa
open Go.RowKit
variable {ok : Nat → Prop}

theorem fl_ones {α : Type} {f : α → List Value} (h : ∀ x, ∀ u ∈ f x, u.oneCell' = true) (l : List α) : ∀ u ∈ l.flatMap f, u.oneCell' = true := fun u hu => by
  obtain ⟨x, _, hx⟩ := List.mem_flatMap.1 hu
  exact h x u hx

set_option maxRecDepth 10000 in
set_option maxHeartbeats 3200000 in
theorem without_any (n : Net) (i : Nat) (w : World) (hok : ∀ b, w.heap.size ≤ b → ok b) (hi : n.In ok w) (hl : i < n.q.l.length) (hm : n.q.l.length ≤ 4096) : Calls Try.prog 44 #[n.v, .int .i64 i] w fun e w' => ∃ x : Net, e = .returned x.v ∧ x.d = n.d.drop i ∧ x.In ok w' ∧ Below w.heap.size w w' := by
  obtain ⟨⟨qA, ql, qc⟩, ⟨aA, al, ac⟩⟩ := n
  have hle : ql.length ≤ qc := hi.q.q.le
  have hcap : qc ≤ 9223372036854775807 := hi.q.q.top
  simp only at hl hm
  have HB := hide (show Below w.heap.size w ((w.alloc (.cells #[.slice qA ql.length qc, .slice aA al.length ac] 25)).alloc (.cells #[.slice none 0 0, .slice none 0 0] 25)) from (below_new _ _).alloc (by simp) _)
  have HX0 := hide (show Blk ((w.alloc (.cells #[.slice qA ql.length qc, .slice aA al.length ac] 25)).alloc (.cells #[.slice none 0 0, .slice none 0 0] 25)) w.heap.size 25 [.slice qA ql.length qc, .slice aA al.length ac] from (Blk.new w 25 [.slice qA ql.length qc, .slice aA al.length ac]).alloc _)
  have b2 := Blk.new (w.alloc (.cells #[.slice qA ql.length qc, .slice aA al.length ac] 25)) 25 [.slice none 0 0, .slice none 0 0]
  simp only [World.size_alloc] at b2
  have HX2 := hide b2
  have HZ := hide (show w.heap.size < ((w.alloc (.cells #[.slice qA ql.length qc, .slice aA al.length ac] 25)).alloc (.cells #[.slice none 0 0, .slice none 0 0] 25)).heap.size ∧ w.heap.size + 1 < ((w.alloc (.cells #[.slice qA ql.length qc, .slice aA al.length ac] 25)).alloc (.cells #[.slice none 0 0, .slice none 0 0] 25)).heap.size by refine ⟨?_, ?_⟩ <;> simp only [World.size_alloc] <;> omega)
  clear b2
  have HFIN := hide (drop_fin HB.out hi hl)
  have HNEW := hide (show ∀ x, w.heap.size + 2 ≤ x → okX ok w.heap.size (w.heap.size + 2) x from okX_new hok (by omega))
  have hq2 := (hi.q.q.weak (ok' := okX ok w.heap.size (w.heap.size + 2)) okX_old).below HB.out
  have HQ1 := hide (show SlIn Pkt.cs (okX ok w.heap.size (w.heap.size + 2)) ⟨subA qA 0 qc 3, ql.take i, qc⟩ ((w.alloc (.cells #[.slice qA ql.length qc, .slice aA al.length ac] 25)).alloc (.cells #[.slice none 0 0, .slice none 0 0] 25)) by
    have := hq2.sub (k := 3) (fun _ => rfl) (lo := 0) (hi := i) (mx := qc) (Nat.zero_le _) (Nat.le_of_lt hl) (by omega) (by show qc ≤ qc; omega)
    simpa using this)
  have HQ2 := hide (show SlIn Pkt.cs (okX ok w.heap.size (w.heap.size + 2)) ⟨subA qA (i + 1) qc 3, ql.drop (i + 1), qc - (i + 1)⟩ ((w.alloc (.cells #[.slice qA ql.length qc, .slice aA al.length ac] 25)).alloc (.cells #[.slice none 0 0, .slice none 0 0] 25)) by
    have := hq2.sub (k := 3) (fun _ => rfl) (lo := i + 1) (hi := ql.length) (mx := qc) hl (Nat.le_refl _) hle (Nat.le_refl _)
    simpa using this)
  have HL1 := hide (show i = (ql.take i).length by rw [List.length_take]; omega)
  have HL2 := hide (show ql.length - (i + 1) = (ql.drop (i + 1)).length by rw [List.length_drop])
  obtain ⟨i28, hi28⟩ := hinfo28
  have HI28 := hide hi28
  have hsz28 := hi28.2.2.1
  have HS1 := hide (show ∀ W, (Instr.sliceAt 22 (.slice qA ql.length qc) none (some (.int .i64 (i : Int))) none).run Try.prog W = .ok (.slice (subA qA 0 qc 3) i qc) W from fun W => by
    have := run_slice2 22 28 i28 Try.underlying22 hi28.1 qA ql.length qc i (by omega) W
    rw [hsz28] at this
    exact this)
  have HS2 := hide (show ∀ W, (Instr.sliceAt 22 (.slice qA ql.length qc) (some (.int .i64 ((i : Int) + 1))) none none).run Try.prog W = .ok (.slice (subA qA (i + 1) qc 3) (ql.length - (i + 1)) (qc - (i + 1))) W from fun W => by
    have := run_slice1 22 28 i28 Try.underlying22 hi28.1 qA ql.length qc (i + 1) (by omega) W
    rw [hsz28, show (((i + 1 : Nat) : Nat) : Int) = (i : Int) + 1 by omega] at this
    exact this)
  have HML := hide (show i + (ql.length - (i + 1)) ≤ maxLen by unfold maxLen; omega)
  have HMB := hide (show (i + (ql.length - (i + 1))) * 40 ≤ 140737488355328 by omega)
  have hwr : IntKind.i64.wrap ((i : Int) + 1) = (i : Int) + 1 := IntWalk.i64_in _ (by omega)
  have HN1 := hide (show subA qA 0 qc 3 = none → i = 0 ∧ qc = 0 from fun h => by have h1 := HQ1.out.nil h; simp only at h1; omega)
  have HN2 := hide (show subA qA (i + 1) qc 3 = none → ql.length - (i + 1) = 0 ∧ qc - (i + 1) = 0 from fun h => by have h1 := HQ2.out.nil h; simp only at h1; omega)
  have HC1 := hide (show ((ql.take i).flatMap Pkt.cs).length = i * 3 by rw [fl_len Pkt.cs 3 (fun _ => rfl), ← HL1.out])
  have HC2 := hide (show ((ql.drop (i + 1)).flatMap Pkt.cs).length = (ql.length - (i + 1)) * 3 by rw [fl_len Pkt.cs 3 (fun _ => rfl), ← HL2.out])
  have HE1 := hide (fl_ones pk_one (ql.take i))
  have HE2 := hide (fl_ones pk_one (ql.drop (i + 1)))
  have HM1 := hide (show 0 + i ≤ maxLen by unfold maxLen; omega)
  have HMB1 := hide (show (0 + i) * 40 ≤ 140737488355328 by omega)
  have HLN := hide (show (ql.take i ++ ql.drop (i + 1)).length = i + (ql.length - (i + 1)) by rw [List.length_append, ← HL1.out, ← HL2.out])
  clear hi28 hsz28 hi hq2
  go_enter Try.func44, Try.ntmps44
  go_wp2_with fail
  generalize hw2 : ((w.alloc (.cells #[.slice qA ql.length qc, .slice aA al.length ac] 25)).alloc (.cells #[.slice none 0 0, .slice none 0 0] 25)) = w2 at *
  clear hw2
  refine wp_region_plan4 (fun w' => Below w2.heap.size w2 w') (.take 1 (.take 2 (.take 3 (.take 4 (.take 6 (.take 7 (.take 8 (.take 9 (.take 10 (.run 0 (.run 5 (.run 11 (.take 12 (.last 13 .done)))))))))))))) (by kernel_rfl) (by kernel_rfl) ((Below.refl _ _).drew) ?_
  have HF0 := hide (show Below w2.heap.size w2 w2.drew from (Below.refl _ _).drew)
  generalize w2.drew = wD at HF0 ⊢
  (refine plan4_take (o := ?_) (v := ?_) (by simp only [List.getElem?_toArray, List.getElem?_cons_succ, List.getElem?_cons_zero]; rfl) (yields_run (by rfl) ?_) ?_; rotate_left; (focus (intro w' hw'; skip; go_simp <;> with_reducible rfl)); (simp only [Act.put, List.setIfInBounds_toArray, List.set_cons_zero, List.set_cons_succ]))
  (refine plan4_take (o := ?_) (v := ?_) (by simp only [List.getElem?_toArray, List.getElem?_cons_succ, List.getElem?_cons_zero]; rfl) (yields_run (by rfl) ?_) ?_; rotate_left; (focus (intro w' hw'; have d0 := (hw'.cell (p := ⟨w.heap.size, 0, none⟩) HZ.out.1).trans HX0.out.c2.1; go_simp <;> with_reducible rfl)); (simp only [Act.put, List.setIfInBounds_toArray, List.set_cons_zero, List.set_cons_succ]))
  (refine plan4_take (o := ?_) (v := ?_) (by simp only [List.getElem?_toArray, List.getElem?_cons_succ, List.getElem?_cons_zero]; rfl) (yields_run (by rfl) ?_) ?_; rotate_left; (focus (intro w' hw'; skip; go_simp <;> with_reducible rfl)); (simp only [Act.put, List.setIfInBounds_toArray, List.set_cons_zero, List.set_cons_succ]))
  (refine plan4_take (o := ?_) (v := ?_) (by simp only [List.getElem?_toArray, List.getElem?_cons_succ, List.getElem?_cons_zero]; rfl) (yields_run (by rfl) ?_) ?_; rotate_left; (focus (intro w' hw'; have hsl := HS1.out; go_simp <;> with_reducible rfl)); (simp only [Act.put, List.setIfInBounds_toArray, List.set_cons_zero, List.set_cons_succ]))
  (refine plan4_take (o := ?_) (v := ?_) (by simp only [List.getElem?_toArray, List.getElem?_cons_succ, List.getElem?_cons_zero]; rfl) (yields_run (by rfl) ?_) ?_; rotate_left; (focus (intro w' hw'; skip; go_simp <;> with_reducible rfl)); (simp only [Act.put, List.setIfInBounds_toArray, List.set_cons_zero, List.set_cons_succ]))
  (refine plan4_take (o := ?_) (v := ?_) (by simp only [List.getElem?_toArray, List.getElem?_cons_succ, List.getElem?_cons_zero]; rfl) (yields_run (by rfl) ?_) ?_; rotate_left; (focus (intro w' hw'; have d0 := (hw'.cell (p := ⟨w.heap.size, 0, none⟩) HZ.out.1).trans HX0.out.c2.1; go_simp <;> with_reducible rfl)); (simp only [Act.put, List.setIfInBounds_toArray, List.set_cons_zero, List.set_cons_succ]))
  (refine plan4_take (o := ?_) (v := ?_) (by simp only [List.getElem?_toArray, List.getElem?_cons_succ, List.getElem?_cons_zero]; rfl) (yields_run (by rfl) ?_) ?_; rotate_left; (focus (intro w' hw'; skip; go_simp <;> with_reducible rfl)); (simp only [Act.put, List.setIfInBounds_toArray, List.set_cons_zero, List.set_cons_succ]))
  (refine plan4_take (o := ?_) (v := ?_) (by simp only [List.getElem?_toArray, List.getElem?_cons_succ, List.getElem?_cons_zero]; rfl) (yields_run (by rfl) ?_) ?_; rotate_left; (focus (intro w' hw'; skip; go_simp <;> with_reducible rfl)); (simp only [Act.put, List.setIfInBounds_toArray, List.set_cons_zero, List.set_cons_succ]))
  (refine plan4_take (o := ?_) (v := ?_) (by simp only [List.getElem?_toArray, List.getElem?_cons_succ, List.getElem?_cons_zero]; rfl) (yields_run (by rfl) ?_) ?_; rotate_left; (focus (intro w' hw'; have hsl := HS2.out; go_simp <;> with_reducible rfl)); (simp only [Act.put, List.setIfInBounds_toArray, List.set_cons_zero, List.set_cons_succ]))
  refine plan4_run (o := ?_) (by simp only [List.getElem?_toArray, List.getElem?_cons_zero]; rfl) ?_
  intro R HR
  go_wp2_with fail
  have HF1 := hide (HF0.out.alloc HF0.out.size (.cells #[] 28))
  have HO1 := hide (own_empty wD wD.heap.size 28 3 (Nat.le_refl _))
  have HZ1 := hide (show wD.heap.size ≤ (wD.alloc (.cells #[] 28)).heap.size by simp)
  refine HR.out _ _ HF1.out ?_
  clear HR
  refine plan4_run (o := ?_) (by simp only [List.getElem?_toArray, List.getElem?_cons_succ, List.getElem?_cons_zero]; rfl) ?_
  intro R HR
  refine wpList_app rfl (.tmp 5) (.tmp 9) 22 rfl wD.heap.size 28 i28 _ 3 40 Try.underlying22 HI28.out rfl (by decide) _ 0 [] rfl HO1.out (subA qA 0 qc 3) i qc ((ql.take i).flatMap Pkt.cs) rfl HN1.out HC1.out (HQ1.out.below HF1.out).cels.opt HE1.out HM1.out HMB1.out HZ1.out ?_
  intro A5 c5 w5 hown hg
  rw [Nat.zero_add, List.nil_append] at hown
  have HO2 := hide hown
  have HF2 := hide (below_app HF1.out HO1.out hg HF0.out.size HF1.out.size)
  have HZ2 := hide (Nat.le_trans HZ1.out hg.size)
  clear hown hg
  refine HR.out _ _ HF2.out ?_
  clear HR
  simp only [Nat.zero_add, Act.put, List.setIfInBounds_toArray, List.set_cons_zero, List.set_cons_succ]
  refine plan4_run (o := ?_) (by simp only [List.getElem?_toArray, List.getElem?_cons_succ, List.getElem?_cons_zero]; rfl) ?_
  intro R HR
  refine wpList_app rfl (.tmp 10) (.tmp 15) 22 rfl wD.heap.size 28 i28 _ 3 40 Try.underlying22 HI28.out rfl (by decide) _ i ((ql.take i).flatMap Pkt.cs) rfl HO2.out (subA qA (i + 1) qc 3) (ql.length - (i + 1)) (qc - (i + 1)) ((ql.drop (i + 1)).flatMap Pkt.cs) rfl HN2.out HC2.out (HQ2.out.below HF2.out).cels.opt HE2.out HML.out HMB.out HZ2.out ?_
  intro A' c' w6 hown hg
  rw [← List.flatMap_append] at hown
  have HS4 := hide (own_in (ok := okX ok w.heap.size (w.heap.size + 2)) hown HLN.out (fun b hb => HNEW.out b (by have := HF0.out.size; have := HZ.out; omega)))
  have HF3 := hide (below_app HF2.out HO2.out hg HF0.out.size HF2.out.size)
  clear hown hg
  refine HR.out _ _ HF3.out ?_
  clear HR
  (refine plan4_take (o := ?_) (v := ?_) (by simp only [List.getElem?_toArray, List.getElem?_cons_succ, List.getElem?_cons_zero]; rfl) (yields_run (by rfl) ?_) ?_; rotate_left; (focus (intro w' hw'; skip; go_simp <;> with_reducible rfl)); (simp only [Act.put, List.setIfInBounds_toArray, List.set_cons_zero, List.set_cons_succ]))
  refine plan4_last (o := ?_) (by simp only [List.getElem?_toArray, List.getElem?_cons_succ, List.getElem?_cons_zero]; rfl) ?_
  intro R HR
  have HFB := HF3
  have HA4 := hide (HX0.out.below HFB.out HZ.out.1)
  have HR4 := hide (HX2.out.below HFB.out HZ.out.2)
  obtain ⟨c0, c1⟩ := HA4.out.c2
  have f0 := HA4.out.free 0
  have HA5 := hide (HA4.out.set 0 (.slice A' (i + (ql.length - (i + 1))) c'))
  have HR5 := hide (HR4.out.apart (p := ⟨w.heap.size, 0, none⟩) (by simp) (.slice A' (i + (ql.length - (i + 1))) c'))
  simp only [List.set_cons_zero] at HA5
  go_wp2_with fail
  refine HR.out _ _ ?_
  clear HR
  refine plan4_done ?_
  clear c0 c1 f0
  go_wp2_with (first | (refine wpList_load_row rfl 25 (.tmp 2) rfl w.heap.size rfl 25 _ (0, 0) _ HA5.out Try.underlying25 rfl Try.size25 ?_) | (refine wpList_store_row rfl 25 (.tmp 4) (.tmp 18) rfl (w.heap.size + 1) #[.slice A' (i + (ql.length - (i + 1))) c', .slice aA al.length ac] rfl rfl 25 _ HR5.out Try.size25 rfl (one25 _ _ _ _ _ _) ?_))
  refine bodyPost_ret (v := .agg #[.slice A' (i + (ql.length - (i + 1))) c', .slice aA al.length ac]) (results_cell_row rfl _ _ (w.heap.size + 1) 25 #[.slice A' (i + (ql.length - (i + 1))) c', .slice aA al.length ac] (0, 0) _ rfl (setRow_heap _ _ _ _ _ _ HR5.out) Try.underlying25 rfl Try.size25) rfl ?_
  exact HFIN.out _ _ _ HS4.out HFB.out
end Go.Proofs.Ythmaakiibgdigaa
