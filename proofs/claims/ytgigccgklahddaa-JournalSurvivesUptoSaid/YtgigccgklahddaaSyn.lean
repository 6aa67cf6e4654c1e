
/- Sync of the program. -/
import Derived.Test.YtgigccgklahddaaTea
namespace Go.Proofs.Ytgigccgklahddaa
open Go.RowKit
variable {n0 : Nat}

/-- What a disk that runs is. -/
theorem runs_facts {d : Dsk} (hr : d.d.runs = true) : d.stp = false ∧ (1 ≤ d.ss.length ∧ d.ss.length ≤ 4096) ∧ (∀ k (h : k < d.ss.length), (d.ss[k]).l.length = 128) ∧ d.ps.length ≤ 4096 ∧
    (∀ k (h : k < d.ps.length), 0 ≤ (d.ps[k]).pos ∧ (d.ps[k]).pos < d.ss.length ∧ (d.ps[k]).s.l.length = 128) ∧ -1 ≤ d.left ∧ d.left ≤ 65536 := by
  obtain ⟨hs, hv⟩ : d.stp = false ∧ d.d.valid = true := by
    have h2 : d.d.stp = d.stp := rfl
    simpa [Dk.runs, h2] using hr
  rw [valid_iff] at hv
  simp only [Bool.and_eq_true, decide_eq_true_eq] at hv
  have h1 := validPen_iff.1 hv.1.2
  have h2 := validSec_iff.1 hv.1.1
  refine ⟨hs, by have := h2.1; rw [secD_len] at this; exact this, fun k h => ?_, by have := h1.1; rw [wrD_len] at this; exact this, fun k h => ?_, hv.2⟩
  · have := h2.2 k (by rw [secD_len]; exact h)
    rw [secD_get] at this
    exact this
  · have := h1.2 k (by rw [wrD_len]; exact h)
    rw [wrD_get] at this
    exact this
theorem WrsIn.take {A : Option Addr} {l : List Wr} {c : Nat} {W : World} (h : WrsIn n0 A l c W) (k : Nat) (hk : k ≤ l.length) : WrsIn n0 A (l.take k) k W := by
  refine ⟨fun hne => ?_, fun p hp => h.each p (List.mem_of_mem_take hp), by rw [List.length_take]; omega, by have := h.le; have := h.top; omega, fun e => by have := h.nil e; have := h.le; omega⟩
  have hl : wrs l = wrs (l.take k) ++ wrs (l.drop k) := by rw [← wrs_app, List.take_append_drop]
  obtain ⟨b, o, e, hb, hk, hc⟩ := h.cels (by rw [hl]; intro e; exact hne (List.append_eq_nil_iff.1 e).1)
  refine ⟨b, o, e, hb, hk, fun i hi => ?_⟩
  have hi2 : i < (wrs l).length := by rw [hl, List.length_append]; omega
  rw [hc i hi2]
  have := List.getElem?_append_left (l₂ := wrs (l.drop k)) hi
  rw [← hl, List.getElem?_eq_getElem hi2, List.getElem?_eq_getElem hi] at this
  exact this
theorem secD_valid {ps : List (Int × List UInt8)} {s : List (List UInt8)} (hs : ∀ x ∈ s, x.length = 128) (hp : ∀ p ∈ ps, p.2.length = 128) : ∀ x ∈ perf s ps, x.length = 128 := by
  unfold perf
  induction ps generalizing s with
  | nil => exact hs
  | cons p ps ih =>
    rw [List.foldl_cons]
    refine ih (fun x hx => ?_) (fun q hq => hp q (by simp [hq]))
    rcases List.mem_or_eq_of_mem_set hx with hx | rfl
    · exact hs x hx
    · exact hp p (by simp)

set_option maxRecDepth 10000 in
set_option maxHeartbeats 3200000 in
theorem sync_bad (d : Dsk) (w : World) (hi : d.In n0 w) (hr : d.d.runs = false) :
    Calls Try.prog 29 #[d.v] w (Ans n0 w d.d.sync) := by
  have HI := hide hi
  have HT := hide (two_below d w)
  have HB := hide (two_boxes d w)
  clear hi
  have HC := hide (runs_is (two d w) hr (HI.out.below HT.out))
  have HX := hide (show d.d.sync = (Dk.zero, 40) by simp [Dk.sync, hr])
  clear hr
  go_enter Try.func29, Try.ntmps29
  go_wp2_with fail
  refine HC.out.mono ?_
  rintro e w1 ⟨rfl, hb⟩
  have HK := hide (show Below w.heap.size w w1 from HT.out.trans (hb.mono HT.out.size))
  have HR := hide (HB.out.2.below hb HB.out.2.lt)
  clear hb
  go_wp2_with (refine wpList_store_row rfl 25 (.tmp 2) (.tmp 8) rfl (w.heap.size + 1) #[.slice none 0 0, .slice none 0 0, .int .i64 0, .bool false] rfl rfl 25 _ HR.out Try.size25 rfl (one25 _ _ _ _ _ _ _ _) ?_)
  exact bodyPost_ret (v := .tuple #[Dsk.zero.v, .int .i64 40]) (results_cell_row_tmp rfl _ _ (w.heap.size + 1) 25 #[.slice none 0 0, .slice none 0 0, .int .i64 0, .bool false] (0, 0) _ (.int .i64 40) rfl rfl (setRow_heap _ _ _ _ _ _ HR.out) Try.underlying25 rfl Try.size25) rfl (Ans.zero HX.out (below_setRow HK.out (by omega) _))
/-- The two blocks of Sync. -/
structure SB (d : Dsk) (w : World) (r : List Value) (W : World) : Prop where
  box : Blk W w.heap.size 25 d.cs
  res : Blk W (w.heap.size + 1) 25 r
  bel : Below w.heap.size w W
theorem SB.below {d : Dsk} {w : World} {r : List Value} {W W' : World} (h : SB d w r W) (hb : Below W.heap.size W W') : SB d w r W' := ⟨h.box.below hb h.box.lt, h.res.below hb h.res.lt, below_one h.bel hb⟩

theorem PF.fin {w : World} {g : Nat} {cur : List Sec} {rest : List Value} {W Wf : World} {X c : Nat} {r : List Value} (h : PF n0 w g cur rest W) (hX : Blk W X 25 r) (hg : W.grownBy Wf (some X)) (hw : w.heap.size ≤ X) (hc : cur.length ≤ c ∧ c ≤ 9223372036854775807) :
    SecsIn n0 (some ⟨g, 0, none⟩) cur c Wf ∧ Below w.heap.size w Wf := by
  have hb := below_of_only h.bel hg hw
  refine ⟨⟨(h.row.only hg (h.row.ne hX (by omega))).cels (by omega), fun s hs => ?_, hc.1, hc.2, fun e => (by cases e)⟩, hb⟩
  rcases h.each s hs with k | k
  · exact k.below hb
  · exact (k.only hg hX (by omega)).in

set_option maxRecDepth 10000 in
set_option maxHeartbeats 6400000 in
theorem sync_ok (d : Dsk) (w : World) (hi : d.In n0 w) (hr : d.d.runs = true) (hm : d.many = d.ps.length) :
    Calls Try.prog 29 #[d.v] w (Ans n0 w d.d.sync) := by
  obtain ⟨hs, ⟨hn1, hn2⟩, hsl, hpl, hpv, hl1, hl2⟩ := runs_facts hr
  have HI := hide hi
  have HT := hide (two_below d w)
  have HB := hide (two_boxes d w)
  have HC := hide (runs_is (two d w) hr (HI.out.below HT.out))
  have HPE := hide (fun W (hW : Below w.heap.size w W) => performable_any d W (HI.out.below hW) hl1)
  rw [hm] at HPE
  have HWT := hide (show WrsIn n0 d.pa d.ps d.ps.length w by have := HI.out.pen.take d.ps.length (Nat.le_refl _); rwa [List.take_length] at this)
  have HPF := hide (fun W (hW : Below w.heap.size w W) => performed_any d.sa d.ss d.sc d.pa d.ps d.ps.length w W hW HI.out.sec HWT.out (by intro e; rw [e] at hn1; simp at hn1) hn2 hpv)
  have HS := hide hs
  clear hi hsl hpv hs
  go_enter Try.func29, Try.ntmps29
  go_wp2_with fail
  refine HC.out.mono ?_
  rintro e w1 ⟨rfl, hb⟩
  have H1 := hide (show SB d w [.slice none 0 0, .slice none 0 0, .int .i64 0, .bool false] w1 from ⟨HB.out.1.below hb HB.out.1.lt, HB.out.2.below hb HB.out.2.lt, HT.out.trans (hb.mono HT.out.size)⟩)
  clear hb
  obtain ⟨c0, c1, c2, c3⟩ := H1.out.box.c4
  go_wp2_with fail
  refine (HPE.out _ H1.out.bel).mono ?_
  rintro e w2 ⟨rfl, hb⟩
  have H2 := hide (H1.out.below hb)
  clear hb c0 c1 c2 c3
  obtain ⟨c0, c1, c2, c3⟩ := H2.out.box.c4
  have H3 := hide (show SB d w d.cs (w2.setRow (w.heap.size + 1) #[.slice d.sa d.ss.length d.sc, .slice d.pa d.ps.length d.pc, .int .i64 d.left, .bool d.stp]) from ⟨H2.out.box.far (by omega) _, H2.out.res.row _, below_setRow H2.out.bel (by omega) _⟩)
  obtain ⟨d0, d1, d2, d3⟩ := H3.out.box.c4
  go_wp2_with (refine wpList_store_row rfl 25 (.tmp 2) (.tmp 11) rfl (w.heap.size + 1) #[.slice d.sa d.ss.length d.sc, .slice d.pa d.ps.length d.pc, .int .i64 d.left, .bool d.stp] rfl rfl 25 _ H2.out.res Try.size25 rfl (one25 _ _ _ _ _ _ _ _) ?_)
  refine (HPF.out _ H3.out.bel).mono ?_
  rintro e w4 ⟨g, c, cur, rest, rfl, hcl, hc1, hc2, hP, hD, hb⟩
  have HP := hide hP
  have HD := hide hD
  have HCC := hide (show cur.length ≤ c ∧ c ≤ 9223372036854775807 by rw [hcl]; exact ⟨hc1, hc2⟩)
  have HCL := hide hcl
  have H4 := hide (H3.out.below hb)
  clear hP hD hcl hb c0 c1 c2 c3 d0 d1 d2 d3
  have c0 := H4.out.res.c4.1
  have f0 := H4.out.res.free 0
  have H5 := hide (show SB d w [.slice (some ⟨g, 0, none⟩) d.ss.length c, .slice d.pa d.ps.length d.pc, .int .i64 d.left, .bool d.stp] (w4.setCell ⟨w.heap.size + 1, 0, none⟩ (.slice (some ⟨g, 0, none⟩) d.ss.length c)) from ⟨H4.out.box.apart (by simp) _, H4.out.res.set 0 _, H4.out.bel.setCell (by simp) _⟩)
  have c1 := H5.out.res.c4.2.1
  have f1 := H5.out.res.free 1
  have H6 := hide (show SB d w [.slice (some ⟨g, 0, none⟩) d.ss.length c, .slice none 0 0, .int .i64 d.left, .bool d.stp] ((w4.setCell ⟨w.heap.size + 1, 0, none⟩ (.slice (some ⟨g, 0, none⟩) d.ss.length c)).setCell ⟨w.heap.size + 1, 1, none⟩ (.slice none 0 0)) from ⟨H5.out.box.apart (by simp) _, H5.out.res.set 1 _, H5.out.bel.setCell (by simp) _⟩)
  obtain ⟨_, b1, b2, _⟩ := H6.out.box.c4
  have r2 := H6.out.res.c4.2.2.1
  by_cases hl : d.left = -1
  · have hl' : (d.left != -1) = false := by simp [hl]
    have HX := hide (show d.d.sync = (⟨perf d.d.sec d.d.pen, [], -1, false⟩, 0) by simp [Dk.sync, hr, show d.d.left = d.left from rfl, hl])
    have HF := hide (HP.out.fin H4.out.res (only_setRow (only_setCell (only_setCell (only_refl w4 (some (w.heap.size + 1))) (p := ⟨w.heap.size + 1, 0, none⟩) (.inl rfl) (.slice (some ⟨g, 0, none⟩) d.ss.length c)) (p := ⟨w.heap.size + 1, 1, none⟩) (.inl rfl) (.slice none 0 0)) (.inl rfl) #[.slice (some ⟨g, 0, none⟩) d.ss.length c, .slice none 0 0, .int .i64 d.left, .bool d.stp]) (by omega) HCC.out)
    have HL := hide hl
    clear hl
    go_wp2_with (first | (refine wpList_load_row rfl 25 (.tmp 2) rfl (w.heap.size + 1) rfl 25 _ (0, 0) _ H6.out.res Try.underlying25 rfl Try.size25 ?_) | (refine wpList_store_row rfl 25 (.tmp 2) (.tmp 45) rfl (w.heap.size + 1) #[.slice (some ⟨g, 0, none⟩) d.ss.length c, .slice none 0 0, .int .i64 d.left, .bool d.stp] rfl rfl 25 _ H6.out.res Try.size25 rfl (one25 _ _ _ _ _ _ _ _) ?_))
    refine bodyPost_ret (v := .tuple #[.agg #[.slice (some ⟨g, 0, none⟩) d.ss.length c, .slice none 0 0, .int .i64 d.left, .bool d.stp], .int .i64 0]) (results_cell_row_tmp rfl _ _ (w.heap.size + 1) 25 #[.slice (some ⟨g, 0, none⟩) d.ss.length c, .slice none 0 0, .int .i64 d.left, .bool d.stp] (0, 0) _ (.int .i64 0) rfl rfl (setRow_heap _ _ _ _ _ _ H6.out.res) Try.underlying25 rfl Try.size25) rfl ?_
    rw [HX.out]
    refine ⟨⟨some ⟨g, 0, none⟩, cur, c, none, [], 0, d.left, d.stp⟩, by simp [Dsk.v, HCL.out], ?_, ⟨HF.out.1, wrsIn_nil _, HI.out.left⟩, HF.out.2⟩
    show (⟨secD cur, [], d.left, d.stp⟩ : Dk) = _
    rw [HD.out, HL.out, HS.out]
    rfl
  · have hl' : (d.left != -1) = true := by simp [hl]
    have hln : (d.ps.length : Int) ≤ d.left := by
      unfold Dsk.many at hm
      rw [if_neg hl] at hm
      omega
    have HX := hide (show d.d.sync = (⟨perf d.d.sec d.d.pen, [], d.left - d.ps.length, false⟩, 0) by
      have e : d.d.pen.length = d.ps.length := wrD_len d.ps
      have e2 : d.d.left = d.left := rfl
      unfold Dk.sync
      rw [if_pos hr, e2, if_neg hl, e, if_pos hln])
    have f2 := H6.out.res.free 2
    have H7 := hide (show SB d w [.slice (some ⟨g, 0, none⟩) d.ss.length c, .slice none 0 0, .int .i64 (d.left - d.ps.length), .bool d.stp] (((w4.setCell ⟨w.heap.size + 1, 0, none⟩ (.slice (some ⟨g, 0, none⟩) d.ss.length c)).setCell ⟨w.heap.size + 1, 1, none⟩ (.slice none 0 0)).setCell ⟨w.heap.size + 1, 2, none⟩ (.int .i64 (d.left - d.ps.length))) from ⟨H6.out.box.apart (by simp) _, H6.out.res.set 2 _, H6.out.bel.setCell (by simp) _⟩)
    have HF := hide (HP.out.fin H4.out.res (only_setRow (only_setCell (only_setCell (only_setCell (only_refl w4 (some (w.heap.size + 1))) (p := ⟨w.heap.size + 1, 0, none⟩) (.inl rfl) (.slice (some ⟨g, 0, none⟩) d.ss.length c)) (p := ⟨w.heap.size + 1, 1, none⟩) (.inl rfl) (.slice none 0 0)) (p := ⟨w.heap.size + 1, 2, none⟩) (.inl rfl) (.int .i64 (d.left - d.ps.length))) (.inl rfl) #[.slice (some ⟨g, 0, none⟩) d.ss.length c, .slice none 0 0, .int .i64 (d.left - d.ps.length), .bool d.stp]) (by omega) HCC.out)
    have hLR := hide (show -9223372036854775808 ≤ d.left - d.ps.length ∧ d.left - d.ps.length ≤ 9223372036854775807 by omega)
    clear hl
    go_wp2_with (first | (refine wpList_load_row rfl 25 (.tmp 2) rfl (w.heap.size + 1) rfl 25 _ (0, 0) _ H7.out.res Try.underlying25 rfl Try.size25 ?_) | (refine wpList_store_row rfl 25 (.tmp 2) (.tmp 45) rfl (w.heap.size + 1) #[.slice (some ⟨g, 0, none⟩) d.ss.length c, .slice none 0 0, .int .i64 (d.left - d.ps.length), .bool d.stp] rfl rfl 25 _ H7.out.res Try.size25 rfl (one25 _ _ _ _ _ _ _ _) ?_))
    refine bodyPost_ret (v := .tuple #[.agg #[.slice (some ⟨g, 0, none⟩) d.ss.length c, .slice none 0 0, .int .i64 (d.left - d.ps.length), .bool d.stp], .int .i64 0]) (results_cell_row_tmp rfl _ _ (w.heap.size + 1) 25 #[.slice (some ⟨g, 0, none⟩) d.ss.length c, .slice none 0 0, .int .i64 (d.left - d.ps.length), .bool d.stp] (0, 0) _ (.int .i64 0) rfl rfl (setRow_heap _ _ _ _ _ _ H7.out.res) Try.underlying25 rfl Try.size25) rfl ?_
    rw [HX.out]
    refine ⟨⟨some ⟨g, 0, none⟩, cur, c, none, [], 0, d.left - d.ps.length, d.stp⟩, by simp [Dsk.v, HCL.out], ?_, ⟨HF.out.1, wrsIn_nil _, hLR.out⟩, HF.out.2⟩
    show (⟨secD cur, [], d.left - d.ps.length, d.stp⟩ : Dk) = _
    rw [HD.out, HS.out]
    rfl
end Go.Proofs.Ytgigccgklahddaa
