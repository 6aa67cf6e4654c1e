/- dropped. -/
import Derived.Test.YthmaakiibgdigaaQud
namespace Go.Proofs.Ythmaakiibgdigaa
open Go.RowKit
variable {ok : Nat → Prop}

theorem drop_fin {w w2 : World} {qA aA : Option Addr} {ql : List Pkt} {al : List (Int × Int)} {qc ac i : Nat} (hw : Below w.heap.size w w2) (hi : Net.In ok ⟨⟨qA, ql, qc⟩, ⟨aA, al, ac⟩⟩ w) (hl : i < ql.length)
    (A' : Option Addr) (c' : Nat) (w4 : World) (hs : SlIn Pkt.cs (okX ok w.heap.size (w.heap.size + 2)) ⟨A', ql.take i ++ ql.drop (i + 1), c'⟩ w4) (hb : Below w2.heap.size w2 w4) :
    ∃ x : Net, Ending.returned (.agg #[.slice A' (i + (ql.length - (i + 1))) c', .slice aA al.length ac]) = .returned x.v ∧ x.d = (Net.d ⟨⟨qA, ql, qc⟩, ⟨aA, al, ac⟩⟩).drop i ∧ x.In ok ((w4.setCell ⟨w.heap.size, 0, none⟩ (.slice A' (i + (ql.length - (i + 1))) c')).setRow (w.heap.size + 1) #[.slice A' (i + (ql.length - (i + 1))) c', .slice aA al.length ac]) ∧
      Below w.heap.size w ((w4.setCell ⟨w.heap.size, 0, none⟩ (.slice A' (i + (ql.length - (i + 1))) c')).setRow (w.heap.size + 1) #[.slice A' (i + (ql.length - (i + 1))) c', .slice aA al.length ac]) := by
  have hb1 : Below w.heap.size w w4 := below_one hw hb
  have hb2 : Below w.heap.size w ((w4.setCell ⟨w.heap.size, 0, none⟩ (.slice A' (i + (ql.length - (i + 1))) c')).setRow (w.heap.size + 1) #[.slice A' (i + (ql.length - (i + 1))) c', .slice aA al.length ac]) := below_setRow (hb1.setCell (p := ⟨w.heap.size, 0, none⟩) (Nat.le_refl _) _) (by omega) _
  have hk : Kept (okX ok w.heap.size (w.heap.size + 2)) w4 ((w4.setCell ⟨w.heap.size, 0, none⟩ (.slice A' (i + (ql.length - (i + 1))) c')).setRow (w.heap.size + 1) #[.slice A' (i + (ql.length - (i + 1))) c', .slice aA al.length ac]) :=
    (Kept.only (X := w.heap.size) (only_setCell (only_refl _ _) (.inl rfl) _) (okX_not (Nat.le_refl _) (by omega))).trans (Kept.row (okX_not (by omega) (by omega)) _)
  have hlen : (ql.take i ++ ql.drop (i + 1)).length = i + (ql.length - (i + 1)) := by simp; omega
  refine ⟨⟨⟨A', ql.take i ++ ql.drop (i + 1), c'⟩, ⟨aA, al, ac⟩⟩, by simp only [Net.v, hlen], by simp [Net.d, Nt.drop], ⟨⟨(hs.keep hk).weak okX_ok, fun q hq => ?_⟩, hi.a.below hb2⟩, hb2⟩
  refine (hi.q.p q ?_).below hb2
  rcases List.mem_append.1 hq with hq | hq
  · exact List.mem_of_mem_take hq
  · exact List.mem_of_mem_drop hq

set_option maxRecDepth 10000 in
set_option maxHeartbeats 3200000 in
theorem dropped_any (n : Net) (i : Nat) (w : World) (hok : ∀ b, w.heap.size ≤ b → ok b) (hi : n.In ok w) (hl : i < n.q.l.length) (hm : n.q.l.length ≤ 4096) : Calls Try.prog 42 #[n.v, .int .i64 i] w fun e w' => ∃ x : Net, e = .returned x.v ∧ x.d = n.d.drop i ∧ x.In ok w' ∧ Below w.heap.size w w' := by
  obtain ⟨⟨qA, ql, qc⟩, ⟨aA, al, ac⟩⟩ := n
  have hle : ql.length ≤ qc := hi.q.q.le
  have hcap : qc ≤ 9223372036854775807 := hi.q.q.top
  simp only at hl hm
  have HB := hide (show Below w.heap.size w ((w.alloc (.cells #[.slice qA ql.length qc, .slice aA al.length ac] 25)).alloc (.cells #[.slice none 0 0, .slice none 0 0] 25)) from (below_new _ _).alloc (by simp) _)
  have HX0 := hide (show Blk ((w.alloc (.cells #[.slice qA ql.length qc, .slice aA al.length ac] 25)).alloc (.cells #[.slice none 0 0, .slice none 0 0] 25)) w.heap.size 25 [.slice qA ql.length qc, .slice aA al.length ac] from (Blk.new w 25 [.slice qA ql.length qc, .slice aA al.length ac]).alloc _)
  have b2 := Blk.new (w.alloc (.cells #[.slice qA ql.length qc, .slice aA al.length ac] 25)) 25 [.slice none 0 0, .slice none 0 0]
  simp only [World.size_alloc] at b2
  have HX2 := hide b2
  have HZ := hide (show w.heap.size < ((w.alloc (.cells #[.slice qA ql.length qc, .slice aA al.length ac] 25)).alloc (.cells #[.slice none 0 0, .slice none 0 0] 25)).heap.size ∧ w.heap.size + 1 < ((w.alloc (.cells #[.slice qA ql.length qc, .slice aA al.length ac] 25)).alloc (.cells #[.slice none 0 0, .slice none 0 0] 25)).heap.size by refine ⟨?_, ?_⟩ <;> simp only [World.size_alloc] <;> omega)
  clear b2
  have HFIN := hide (drop_fin HB.out hi hl)
  have HNEW := hide (show ∀ x, w.heap.size + 2 ≤ x → okX ok w.heap.size (w.heap.size + 2) x from okX_new hok (by omega))
  have hq2 := (hi.q.q.weak (ok' := okX ok w.heap.size (w.heap.size + 2)) okX_old).below HB.out
  have HQ1 := hide (show SlIn Pkt.cs (okX ok w.heap.size (w.heap.size + 2)) ⟨subA qA 0 i 3, ql.take i, i⟩ ((w.alloc (.cells #[.slice qA ql.length qc, .slice aA al.length ac] 25)).alloc (.cells #[.slice none 0 0, .slice none 0 0] 25)) by
    have := hq2.sub (k := 3) (fun _ => rfl) (lo := 0) (hi := i) (mx := i) (Nat.zero_le _) (Nat.le_of_lt hl) (by omega) (by show i ≤ qc; omega)
    simpa using this)
  have HQ2 := hide (show SlIn Pkt.cs (okX ok w.heap.size (w.heap.size + 2)) ⟨subA qA (i + 1) qc 3, ql.drop (i + 1), qc - (i + 1)⟩ ((w.alloc (.cells #[.slice qA ql.length qc, .slice aA al.length ac] 25)).alloc (.cells #[.slice none 0 0, .slice none 0 0] 25)) by
    have := hq2.sub (k := 3) (fun _ => rfl) (lo := i + 1) (hi := ql.length) (mx := qc) hl (Nat.le_refl _) hle (Nat.le_refl _)
    simpa using this)
  have HL1 := hide (show i = (ql.take i).length by rw [List.length_take]; omega)
  have HL2 := hide (show ql.length - (i + 1) = (ql.drop (i + 1)).length by rw [List.length_drop])
  obtain ⟨i28, hi28⟩ := hinfo28
  have HI28 := hide hi28
  have hsz28 := hi28.2.2.1
  have HS1 := hide (show ∀ W, (Instr.sliceAt 22 (.slice qA ql.length qc) none (some (.int .i64 (i : Int))) (some (.int .i64 (i : Int)))).run Try.prog W = .ok (.slice (subA qA 0 i 3) i i) W from fun W => by
    have := run_slice3 22 28 i28 Try.underlying22 hi28.1 qA ql.length qc i (by omega) W
    rw [hsz28] at this
    exact this)
  have HS2 := hide (show ∀ W, (Instr.sliceAt 22 (.slice qA ql.length qc) (some (.int .i64 ((i : Int) + 1))) none none).run Try.prog W = .ok (.slice (subA qA (i + 1) qc 3) (ql.length - (i + 1)) (qc - (i + 1))) W from fun W => by
    have := run_slice1 22 28 i28 Try.underlying22 hi28.1 qA ql.length qc (i + 1) (by omega) W
    rw [hsz28, show (((i + 1 : Nat) : Nat) : Int) = (i : Int) + 1 by omega] at this
    exact this)
  have HML := hide (show i + (ql.length - (i + 1)) ≤ maxLen by unfold maxLen; omega)
  have HMB := hide (show (i + (ql.length - (i + 1))) * 40 ≤ 140737488355328 by omega)
  have hwr : IntKind.i64.wrap ((i : Int) + 1) = (i : Int) + 1 := IntWalk.i64_in _ (by omega)
  clear hi28 hsz28 hi hq2
  go_enter Try.func42, Try.ntmps42
  go_wp2_with fail
  generalize hw2 : ((w.alloc (.cells #[.slice qA ql.length qc, .slice aA al.length ac] 25)).alloc (.cells #[.slice none 0 0, .slice none 0 0] 25)) = w2 at *
  clear hw2
  refine wp_region_plan4 (fun w' => Below w2.heap.size w2 w') (.take 0 (.take 1 (.take 2 (.take 3 (.take 4 (.take 5 (.take 6 (.take 7 (.take 8 (.take 9 (.run 10 (.take 11 (.last 12 .done))))))))))))) (by kernel_rfl) (by kernel_rfl) ((Below.refl _ _).drew) ?_
  have HF0 := hide (show Below w2.heap.size w2 w2.drew from (Below.refl _ _).drew)
  generalize w2.drew = wD at HF0 ⊢
  (refine plan4_take (o := ?_) (v := ?_) (by simp only [List.getElem?_toArray, List.getElem?_cons_zero]; rfl) (yields_run (by rfl) ?_) ?_; rotate_left; (focus (intro w' hw'; skip; go_simp <;> with_reducible rfl)); (simp only [Act.put, List.setIfInBounds_toArray, List.set_cons_zero, List.set_cons_succ]))
  (refine plan4_take (o := ?_) (v := ?_) (by simp only [List.getElem?_toArray, List.getElem?_cons_succ, List.getElem?_cons_zero]; rfl) (yields_run (by rfl) ?_) ?_; rotate_left; (focus (intro w' hw'; have d0 := (hw'.cell (p := ⟨w.heap.size, 0, none⟩) HZ.out.1).trans HX0.out.c2.1; go_simp <;> with_reducible rfl)); (simp only [Act.put, List.setIfInBounds_toArray, List.set_cons_zero, List.set_cons_succ]))
  (refine plan4_take (o := ?_) (v := ?_) (by simp only [List.getElem?_toArray, List.getElem?_cons_succ, List.getElem?_cons_zero]; rfl) (yields_run (by rfl) ?_) ?_; rotate_left; (focus (intro w' hw'; skip; go_simp <;> with_reducible rfl)); (simp only [Act.put, List.setIfInBounds_toArray, List.set_cons_zero, List.set_cons_succ]))
  (refine plan4_take (o := ?_) (v := ?_) (by simp only [List.getElem?_toArray, List.getElem?_cons_succ, List.getElem?_cons_zero]; rfl) (yields_run (by rfl) ?_) ?_; rotate_left; (focus (intro w' hw'; skip; go_simp <;> with_reducible rfl)); (simp only [Act.put, List.setIfInBounds_toArray, List.set_cons_zero, List.set_cons_succ]))
  (refine plan4_take (o := ?_) (v := ?_) (by simp only [List.getElem?_toArray, List.getElem?_cons_succ, List.getElem?_cons_zero]; rfl) (yields_run (by rfl) ?_) ?_; rotate_left; (focus (intro w' hw'; have hsl := HS1.out; go_simp <;> with_reducible rfl)); (simp only [Act.put, List.setIfInBounds_toArray, List.set_cons_zero, List.set_cons_succ]))
  (refine plan4_take (o := ?_) (v := ?_) (by simp only [List.getElem?_toArray, List.getElem?_cons_succ, List.getElem?_cons_zero]; rfl) (yields_run (by rfl) ?_) ?_; rotate_left; (focus (intro w' hw'; skip; go_simp <;> with_reducible rfl)); (simp only [Act.put, List.setIfInBounds_toArray, List.set_cons_zero, List.set_cons_succ]))
  (refine plan4_take (o := ?_) (v := ?_) (by simp only [List.getElem?_toArray, List.getElem?_cons_succ, List.getElem?_cons_zero]; rfl) (yields_run (by rfl) ?_) ?_; rotate_left; (focus (intro w' hw'; have d0 := (hw'.cell (p := ⟨w.heap.size, 0, none⟩) HZ.out.1).trans HX0.out.c2.1; go_simp <;> with_reducible rfl)); (simp only [Act.put, List.setIfInBounds_toArray, List.set_cons_zero, List.set_cons_succ]))
  (refine plan4_take (o := ?_) (v := ?_) (by simp only [List.getElem?_toArray, List.getElem?_cons_succ, List.getElem?_cons_zero]; rfl) (yields_run (by rfl) ?_) ?_; rotate_left; (focus (intro w' hw'; skip; go_simp <;> with_reducible rfl)); (simp only [Act.put, List.setIfInBounds_toArray, List.set_cons_zero, List.set_cons_succ]))
  (refine plan4_take (o := ?_) (v := ?_) (by simp only [List.getElem?_toArray, List.getElem?_cons_succ, List.getElem?_cons_zero]; rfl) (yields_run (by rfl) ?_) ?_; rotate_left; (focus (intro w' hw'; skip; go_simp <;> with_reducible rfl)); (simp only [Act.put, List.setIfInBounds_toArray, List.set_cons_zero, List.set_cons_succ]))
  (refine plan4_take (o := ?_) (v := ?_) (by simp only [List.getElem?_toArray, List.getElem?_cons_succ, List.getElem?_cons_zero]; rfl) (yields_run (by rfl) ?_) ?_; rotate_left; (focus (intro w' hw'; have hsl := HS2.out; go_simp <;> with_reducible rfl)); (simp only [Act.put, List.setIfInBounds_toArray, List.set_cons_zero, List.set_cons_succ]))
  refine plan4_run (o := ?_) (by simp only [List.getElem?_toArray, List.getElem?_cons_succ, List.getElem?_cons_zero]; rfl) ?_
  intro R HR
  refine wpList_app_full rfl (.tmp 9) (.tmp 14) 22 rfl 28 i28 _ 40 Try.underlying22 HI28.out rfl (by decide) (fun _ => rfl) pk_one ⟨subA qA 0 i 3, ql.take i, i⟩ ⟨subA qA (i + 1) qc 3, ql.drop (i + 1), qc - (i + 1)⟩ i (qc - (i + 1)) HL1.out (ql.length - (i + 1)) HL2.out rfl rfl (HQ1.out.below HF0.out) (HQ2.out.below HF0.out) (fun b hb => HNEW.out b (by have := HF0.out.size; have := HZ.out; omega)) HML.out HMB.out ?_
  intro A' c' w4 hs4 hb4
  have HS4 := hide hs4
  have HF2 := hide (below_one HF0.out hb4)
  clear hs4 hb4
  refine HR.out _ _ HF2.out ?_
  clear HR
  (refine plan4_take (o := ?_) (v := ?_) (by simp only [List.getElem?_toArray, List.getElem?_cons_succ, List.getElem?_cons_zero]; rfl) (yields_run (by rfl) ?_) ?_; rotate_left; (focus (intro w' hw'; skip; go_simp <;> with_reducible rfl)); (simp only [Act.put, List.setIfInBounds_toArray, List.set_cons_zero, List.set_cons_succ]))
  refine plan4_last (o := ?_) (by simp only [List.getElem?_toArray, List.getElem?_cons_succ, List.getElem?_cons_zero]; rfl) ?_
  intro R HR
  have HFB := HF2
  have HA4 := hide (HX0.out.below HFB.out HZ.out.1)
  have HR4 := hide (HX2.out.below HFB.out HZ.out.2)
  obtain ⟨c0, c1⟩ := HA4.out.c2
  have f0 := HA4.out.free 0
  have HA5 := hide (HA4.out.set 0 (.slice A' (i + (ql.length - (i + 1))) c'))
  have HR5 := hide (HR4.out.apart (p := ⟨w.heap.size, 0, none⟩) (by simp) (.slice A' (i + (ql.length - (i + 1))) c'))
  simp only [List.set_cons_zero] at HA5
  go_wp2_with fail
  refine HR.out _ _ ?_
  clear HR
  refine plan4_done ?_
  clear c0 c1 f0
  go_wp2_with (first | (refine wpList_load_row rfl 25 (.tmp 2) rfl w.heap.size rfl 25 _ (0, 0) _ HA5.out Try.underlying25 rfl Try.size25 ?_) | (refine wpList_store_row rfl 25 (.tmp 4) (.tmp 17) rfl (w.heap.size + 1) #[.slice A' (i + (ql.length - (i + 1))) c', .slice aA al.length ac] rfl rfl 25 _ HR5.out Try.size25 rfl (one25 _ _ _ _ _ _) ?_))
  refine bodyPost_ret (v := .agg #[.slice A' (i + (ql.length - (i + 1))) c', .slice aA al.length ac]) (results_cell_row rfl _ _ (w.heap.size + 1) 25 #[.slice A' (i + (ql.length - (i + 1))) c', .slice aA al.length ac] (0, 0) _ rfl (setRow_heap _ _ _ _ _ _ HR5.out) Try.underlying25 rfl Try.size25) rfl ?_
  exact HFIN.out _ _ _ HS4.out HFB.out
end Go.Proofs.Ythmaakiibgdigaa
