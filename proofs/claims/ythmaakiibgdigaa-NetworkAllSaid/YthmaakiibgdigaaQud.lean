/- queued. -/
import Derived.Test.YthmaakiibgdigaaApp
import Derived.Test.YthmaakiibgdigaaPl4
import Derived.Outline
namespace Go.Proofs.Ythmaakiibgdigaa
open Go.RowKit
variable {ok : Nat → Prop}

/-- Allowed, and none of the blocks from a to b. -/
def okX (ok : Nat → Prop) (a b : Nat) (x : Nat) : Prop := ok x ∧ (x < a ∨ b ≤ x)
theorem okX_old {a b : Nat} : ∀ x, x < a → ok x → okX ok a b x := fun _ h k => ⟨k, .inl h⟩
theorem okX_new {a b : Nat} (h : ∀ x, a ≤ x → ok x) (hab : a ≤ b) : ∀ x, b ≤ x → okX ok a b x := fun x hx => ⟨h x (Nat.le_trans hab hx), .inr hx⟩
theorem okX_not {a b x : Nat} (h1 : a ≤ x) (h2 : x < b) : ¬ okX ok a b x := fun h => by have := h.2; omega
theorem okX_ok {a b : Nat} {n : Nat} : ∀ x, x < n → okX ok a b x → ok x := fun _ _ h => h.1
theorem blk_sl {α : Type} {f : α → List Value} {W : World} {b T cap : Nat} {l : List α} {cs : List Value} (h : Blk W b T cs) (hl : l.flatMap f = cs) (hc : l.length ≤ cap) (hm : cap ≤ 9223372036854775807) (ho : ok b) : SlIn f ok ⟨some ⟨b, 0, none⟩, l, cap⟩ W := by
  subst hl
  refine ⟨fun _ => ⟨b, 0, rfl, h.lt, ho, fun i hi => ?_⟩, hc, hm, fun e => by cases e⟩
  rw [Nat.zero_add, h.cell, List.getElem?_eq_getElem hi]
theorem SlIn.full {α : Type} {f : α → List Value} {s : Sl α} {W : World} {k : Nat} (h : SlIn f ok s W) (hf : ∀ x, (f x).length = k) : SlIn f ok ⟨subA s.A 0 s.l.length k, s.l, s.l.length⟩ W := by
  have := h.sub hf (lo := 0) (hi := s.l.length) (mx := s.l.length) (Nat.zero_le _) (Nat.le_refl _) (Nat.le_refl _) h.le
  simpa using this

theorem put_fin {w w3 : World} {qA aA : Option Addr} {ql : List Pkt} {al : List (Int × Int)} {qc ac : Nat} {p : Pkt} (hw : Below w.heap.size w w3) (hi : Net.In ok ⟨⟨qA, ql, qc⟩, ⟨aA, al, ac⟩⟩ w) (hp : p.In ok w) (hl : ql.length ≠ 4096)
    (A' : Option Addr) (c' : Nat) (w4 : World) (hs : SlIn Pkt.cs (okX ok w.heap.size (w.heap.size + 3)) ⟨A', ql ++ [p], c'⟩ w4) (hb : Below w3.heap.size w3 w4) :
    Ans ok w ((Net.d ⟨⟨qA, ql, qc⟩, ⟨aA, al, ac⟩⟩).put p.d) (.returned (.tuple #[.agg #[.slice A' (ql.length + 1) c', .slice aA al.length ac], .int .i64 0])) ((w4.setCell ⟨w.heap.size, 0, none⟩ (.slice A' (ql.length + 1) c')).setRow (w.heap.size + 2) #[.slice A' (ql.length + 1) c', .slice aA al.length ac]) := by
  have hx : (Net.d ⟨⟨qA, ql, qc⟩, ⟨aA, al, ac⟩⟩).put p.d = (⟨ql.map Pkt.d ++ [p.d], al⟩, 0) := by
    unfold Nt.put
    rw [if_neg (by simp [Net.d]; exact hl)]
    rfl
  rw [hx]
  have hb1 : Below w.heap.size w w4 := below_one hw hb
  have hb2 : Below w.heap.size w ((w4.setCell ⟨w.heap.size, 0, none⟩ (.slice A' (ql.length + 1) c')).setRow (w.heap.size + 2) #[.slice A' (ql.length + 1) c', .slice aA al.length ac]) := below_setRow (hb1.setCell (p := ⟨w.heap.size, 0, none⟩) (Nat.le_refl _) _) (by omega) _
  have hk : Kept (okX ok w.heap.size (w.heap.size + 3)) w4 ((w4.setCell ⟨w.heap.size, 0, none⟩ (.slice A' (ql.length + 1) c')).setRow (w.heap.size + 2) #[.slice A' (ql.length + 1) c', .slice aA al.length ac]) :=
    (Kept.only (X := w.heap.size) (only_setCell (only_refl _ _) (.inl rfl) _) (okX_not (Nat.le_refl _) (by omega))).trans (Kept.row (okX_not (by omega) (by omega)) _)
  refine ⟨⟨⟨A', ql ++ [p], c'⟩, ⟨aA, al, ac⟩⟩, by simp, by simp [Net.d], ⟨⟨(hs.keep hk).weak okX_ok, fun q hq => ?_⟩, hi.a.below hb2⟩, hb2⟩
  rcases List.mem_append.1 hq with hq | hq
  · exact (hi.q.p q hq).below hb2
  · obtain rfl : q = p := by simpa using hq
    exact hp.below hb2

set_option maxRecDepth 10000 in
set_option maxHeartbeats 1600000 in
theorem queued_any (n : Net) (p : Pkt) (w : World) (hok : ∀ b, w.heap.size ≤ b → ok b) (hi : n.In ok w) (hp : p.In ok w) (hl : n.q.l.length ≤ 4096) : Calls Try.prog 29 #[n.v, p.v] w (Ans ok w (n.d.put p.d)) := by
  obtain ⟨⟨qA, ql, qc⟩, ⟨aA, al, ac⟩⟩ := n
  obtain ⟨fr, to, ⟨sA, sl, sc⟩⟩ := p
  have hle : ql.length ≤ qc := hi.q.q.le
  have hcap : qc ≤ 9223372036854775807 := hi.q.q.top
  simp only at hl
  have HB := hide (show Below w.heap.size w (((w.alloc (.cells #[.slice qA ql.length qc, .slice aA al.length ac] 25)).alloc (.cells #[.int .i64 fr, .int .i64 to, .slice sA sl.length sc] 28)).alloc (.cells #[.slice none 0 0, .slice none 0 0] 25)) from ((below_new _ _).alloc (by simp) _).alloc (by simp only [World.size_alloc]; omega) _)
  have HX0 := hide (show Blk (((w.alloc (.cells #[.slice qA ql.length qc, .slice aA al.length ac] 25)).alloc (.cells #[.int .i64 fr, .int .i64 to, .slice sA sl.length sc] 28)).alloc (.cells #[.slice none 0 0, .slice none 0 0] 25)) w.heap.size 25 [.slice qA ql.length qc, .slice aA al.length ac] from ((Blk.new w 25 [.slice qA ql.length qc, .slice aA al.length ac]).alloc _).alloc _)
  have b1 := (Blk.new (w.alloc (.cells #[.slice qA ql.length qc, .slice aA al.length ac] 25)) 28 [.int .i64 fr, .int .i64 to, .slice sA sl.length sc]).alloc (.cells #[.slice none 0 0, .slice none 0 0] 25)
  have b2 := Blk.new ((w.alloc (.cells #[.slice qA ql.length qc, .slice aA al.length ac] 25)).alloc (.cells #[.int .i64 fr, .int .i64 to, .slice sA sl.length sc] 28)) 25 [.slice none 0 0, .slice none 0 0]
  simp only [World.size_alloc, Nat.add_assoc, Nat.reduceAdd] at b1 b2
  have HX1 := hide b1
  have HX2 := hide b2
  have HZ := hide (show w.heap.size < (((w.alloc (.cells #[.slice qA ql.length qc, .slice aA al.length ac] 25)).alloc (.cells #[.int .i64 fr, .int .i64 to, .slice sA sl.length sc] 28)).alloc (.cells #[.slice none 0 0, .slice none 0 0] 25)).heap.size ∧ w.heap.size + 1 < (((w.alloc (.cells #[.slice qA ql.length qc, .slice aA al.length ac] 25)).alloc (.cells #[.int .i64 fr, .int .i64 to, .slice sA sl.length sc] 28)).alloc (.cells #[.slice none 0 0, .slice none 0 0] 25)).heap.size ∧ (((w.alloc (.cells #[.slice qA ql.length qc, .slice aA al.length ac] 25)).alloc (.cells #[.int .i64 fr, .int .i64 to, .slice sA sl.length sc] 28)).alloc (.cells #[.slice none 0 0, .slice none 0 0] 25)).heap.size = w.heap.size + 3 ∧ w.heap.size + 2 < (((w.alloc (.cells #[.slice qA ql.length qc, .slice aA al.length ac] 25)).alloc (.cells #[.int .i64 fr, .int .i64 to, .slice sA sl.length sc] 28)).alloc (.cells #[.slice none 0 0, .slice none 0 0] 25)).heap.size by refine ⟨?_, ?_, ?_, ?_⟩ <;> simp only [World.size_alloc] <;> omega)
  clear b1 b2
  by_cases h1 : ql.length = 4096
  · have HX := hide (show (Net.d ⟨⟨qA, ql, qc⟩, ⟨aA, al, ac⟩⟩).put (Pkt.d ⟨fr, to, ⟨sA, sl, sc⟩⟩) = (Nt.zero, 2) by unfold Nt.put; rw [if_pos (by simpa [Net.d] using h1)])
    have h1' : ((ql.length : Int) == 4096) = true := by simp; omega
    clear h1 hi hp
    go_enter Try.func29, Try.ntmps29
    go_wp2_with fail
    exact bodyPost_ret (v := .tuple #[Net.zero.v, .int .i64 2]) (by simp [results, Try.results29, go_sem, Net.zero]) rfl (Ans.zero HX.out HB.out)
  · have h1' : ((ql.length : Int) == 4096) = false := by simp; omega
    have HFIN := hide (put_fin (p := ⟨fr, to, ⟨sA, sl, sc⟩⟩) HB.out hi hp h1)
    have HNEW := hide (show ∀ x, w.heap.size + 3 ≤ x → okX ok w.heap.size (w.heap.size + 3) x from okX_new hok (by omega))
    have HQ := hide (show SlIn Pkt.cs (okX ok w.heap.size (w.heap.size + 3)) ⟨subA qA 0 ql.length 3, ql, ql.length⟩ (((w.alloc (.cells #[.slice qA ql.length qc, .slice aA al.length ac] 25)).alloc (.cells #[.int .i64 fr, .int .i64 to, .slice sA sl.length sc] 28)).alloc (.cells #[.slice none 0 0, .slice none 0 0] 25)) from ((hi.q.q.weak okX_old).below HB.out).full (fun _ => rfl))
    obtain ⟨i28, hi28⟩ := hinfo28
    have HI28 := hide hi28
    have hsz28 := hi28.2.2.1
    have HSL := hide (show ∀ W, (Instr.sliceAt 22 (.slice qA ql.length qc) none (some (.int .i64 (ql.length : Int))) (some (.int .i64 (ql.length : Int)))).run Try.prog W = .ok (.slice (subA qA 0 ql.length 3) ql.length ql.length) W from fun W => by
      have := run_slice3 22 28 i28 Try.underlying22 hi28.1 qA ql.length qc ql.length hle W
      rw [hsz28] at this
      exact this)
    have HML := hide (show ql.length + 1 ≤ maxLen by unfold maxLen; omega)
    have HMB := hide (show (ql.length + 1) * 40 ≤ 140737488355328 by omega)
    clear hi28 hsz28 h1 hi hp
    go_enter Try.func29, Try.ntmps29
    go_wp2_with fail
    generalize hw3 : (((w.alloc (.cells #[.slice qA ql.length qc, .slice aA al.length ac] 25)).alloc (.cells #[.int .i64 fr, .int .i64 to, .slice sA sl.length sc] 28)).alloc (.cells #[.slice none 0 0, .slice none 0 0] 25)) = w3 at *
    clear hw3
    refine wp_region_plan4 (fun w' => Below w3.heap.size w3 w') (.take 0 (.take 1 (.take 2 (.take 3 (.take 4 (.take 5 (.run 6 (.run 7 (.take 8 (.last 9 .done)))))))))) (by kernel_rfl) (by kernel_rfl) ((Below.refl _ _).drew) ?_
    have HF0 := hide (show Below w3.heap.size w3 w3.drew from (Below.refl _ _).drew)
    generalize w3.drew = wD at HF0 ⊢
    (refine plan4_take (o := ?_) (v := ?_) (by simp only [List.getElem?_toArray, List.getElem?_cons_zero]; rfl) (yields_run (by rfl) ?_) ?_; rotate_left; (focus (intro w' hw'; skip; go_simp <;> with_reducible rfl)); (simp only [Act.put, List.setIfInBounds_toArray, List.set_cons_zero, List.set_cons_succ]))
    (refine plan4_take (o := ?_) (v := ?_) (by simp only [List.getElem?_toArray, List.getElem?_cons_succ, List.getElem?_cons_zero]; rfl) (yields_run (by rfl) ?_) ?_; rotate_left; (focus (intro w' hw'; have d0 := (hw'.cell (p := ⟨w.heap.size, 0, none⟩) HZ.out.1).trans HX0.out.c2.1; go_simp <;> with_reducible rfl)); (simp only [Act.put, List.setIfInBounds_toArray, List.set_cons_zero, List.set_cons_succ]))
    (refine plan4_take (o := ?_) (v := ?_) (by simp only [List.getElem?_toArray, List.getElem?_cons_succ, List.getElem?_cons_zero]; rfl) (yields_run (by rfl) ?_) ?_; rotate_left; (focus (intro w' hw'; skip; go_simp <;> with_reducible rfl)); (simp only [Act.put, List.setIfInBounds_toArray, List.set_cons_zero, List.set_cons_succ]))
    (refine plan4_take (o := ?_) (v := ?_) (by simp only [List.getElem?_toArray, List.getElem?_cons_succ, List.getElem?_cons_zero]; rfl) (yields_run (by rfl) ?_) ?_; rotate_left; (focus (intro w' hw'; skip; go_simp <;> with_reducible rfl)); (simp only [Act.put, List.setIfInBounds_toArray, List.set_cons_zero, List.set_cons_succ]))
    (refine plan4_take (o := ?_) (v := ?_) (by simp only [List.getElem?_toArray, List.getElem?_cons_succ, List.getElem?_cons_zero]; rfl) (yields_run (by rfl) ?_) ?_; rotate_left; (focus (intro w' hw'; have hsl := HSL.out; go_simp <;> with_reducible rfl)); (simp only [Act.put, List.setIfInBounds_toArray, List.set_cons_zero, List.set_cons_succ]))
    (refine plan4_take (o := ?_) (v := ?_) (by simp only [List.getElem?_toArray, List.getElem?_cons_succ, List.getElem?_cons_zero]; rfl) (yields_run (by rfl) ?_) ?_; rotate_left; (focus (intro w' hw'; have d0 := (hw'.cell (p := ⟨w.heap.size + 1, 0, none⟩) HZ.out.2.1).trans HX1.out.c3.1; have d1 := (hw'.cell (p := ⟨w.heap.size + 1, 1, none⟩) HZ.out.2.1).trans HX1.out.c3.2.1; have d2 := (hw'.cell (p := ⟨w.heap.size + 1, 2, none⟩) HZ.out.2.1).trans HX1.out.c3.2.2; go_simp <;> with_reducible rfl)); (simp only [Act.put, List.setIfInBounds_toArray, List.set_cons_zero, List.set_cons_succ]))
    refine plan4_run (o := ?_) (by simp only [List.getElem?_toArray, List.getElem?_cons_succ, List.getElem?_cons_zero]; rfl) ?_
    intro R HR
    go_wp2_with fail
    have HF1 := hide (HF0.out.alloc HF0.out.size (.cells #[.int .i64 fr, .int .i64 to, .slice sA sl.length sc] 28))
    have HBP := hide (Blk.new wD 28 [.int .i64 fr, .int .i64 to, .slice sA sl.length sc])
    have HXI := hide (show SlIn Pkt.cs (okX ok w.heap.size (w.heap.size + 3)) ⟨some ⟨wD.heap.size, 0, none⟩, [⟨fr, to, ⟨sA, sl, sc⟩⟩], 1⟩ (wD.alloc (.cells #[.int .i64 fr, .int .i64 to, .slice sA sl.length sc] 28)) from blk_sl HBP.out rfl (Nat.le_refl _) (by decide) (HNEW.out _ (by have := HF0.out.size; have := HZ.out.2.2.1; omega)))
    have HQ1 := hide (HQ.out.below (below_one HF0.out (below_new wD (.cells #[.int .i64 fr, .int .i64 to, .slice sA sl.length sc] 28))))
    refine HR.out _ _ HF1.out ?_
    clear HR
    refine plan4_run (o := ?_) (by simp only [List.getElem?_toArray, List.getElem?_cons_succ, List.getElem?_cons_zero]; rfl) ?_
    intro R HR
    refine wpList_app_full rfl (.tmp 17) (.tmp 19) 22 rfl 28 i28 _ 40 Try.underlying22 HI28.out rfl (by decide) (fun _ => rfl) pk_one ⟨subA qA 0 ql.length 3, ql, ql.length⟩ ⟨some ⟨wD.heap.size, 0, none⟩, [⟨fr, to, ⟨sA, sl, sc⟩⟩], 1⟩ ql.length 1 rfl 1 rfl rfl rfl HQ1.out HXI.out (fun b hb => HNEW.out b (by have := HF1.out.size; have := HZ.out.2.2.1; omega)) HML.out HMB.out ?_
    intro A' c' w4 hs4 hb4
    have HS4 := hide hs4
    have HF2 := hide (below_one HF1.out hb4)
    clear hs4 hb4
    refine HR.out _ _ HF2.out ?_
    clear HR
    (refine plan4_take (o := ?_) (v := ?_) (by simp only [List.getElem?_toArray, List.getElem?_cons_succ, List.getElem?_cons_zero]; rfl) (yields_run (by rfl) ?_) ?_; rotate_left; (focus (intro w' hw'; skip; go_simp <;> with_reducible rfl)); (simp only [Act.put, List.setIfInBounds_toArray, List.set_cons_zero, List.set_cons_succ]))
    refine plan4_last (o := ?_) (by simp only [List.getElem?_toArray, List.getElem?_cons_succ, List.getElem?_cons_zero]; rfl) ?_
    intro R HR
    have HA4 := hide (HX0.out.below HF2.out HZ.out.1)
    have HR4 := hide (HX2.out.below HF2.out HZ.out.2.2.2)
    obtain ⟨c0, c1⟩ := HA4.out.c2
    have f0 := HA4.out.free 0
    have HA5 := hide (HA4.out.set 0 (.slice A' (ql.length + 1) c'))
    have HR5 := hide (HR4.out.apart (p := ⟨w.heap.size, 0, none⟩) (by simp) (.slice A' (ql.length + 1) c'))
    simp only [List.set_cons_zero] at HA5
    go_wp2_with fail
    refine HR.out _ _ ?_
    clear HR
    refine plan4_done ?_
    clear c0 c1 f0
    go_wp2_with (first | (refine wpList_load_row rfl 25 (.tmp 2) rfl w.heap.size rfl 25 _ (0, 0) _ HA5.out Try.underlying25 rfl Try.size25 ?_) | (refine wpList_store_row rfl 25 (.tmp 4) (.tmp 22) rfl (w.heap.size + 2) #[.slice A' (ql.length + 1) c', .slice aA al.length ac] rfl rfl 25 _ HR5.out Try.size25 rfl (one25 _ _ _ _ _ _) ?_))
    refine bodyPost_ret (v := .tuple #[.agg #[.slice A' (ql.length + 1) c', .slice aA al.length ac], .int .i64 0]) (results_cell_row_tmp rfl _ _ (w.heap.size + 2) 25 #[.slice A' (ql.length + 1) c', .slice aA al.length ac] (0, 0) _ (.int .i64 0) rfl rfl (setRow_heap _ _ _ _ _ _ HR5.out) Try.underlying25 rfl Try.size25) rfl ?_
    exact HFIN.out _ _ _ HS4.out HF2.out
end Go.Proofs.Ythmaakiibgdigaa
