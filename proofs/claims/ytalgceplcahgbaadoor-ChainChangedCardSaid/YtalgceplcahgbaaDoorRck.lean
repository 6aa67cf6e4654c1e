/- The reference's Head. -/
import Derived.Test.YtalgceplcahgbaaDoorRtx
import Derived.Test.YtalgceplcahgbaaDoorRTag
import Derived.Deep.QuietTactic
import Derived.BigQuiet
namespace Go.Proofs.YtalgceplcahgbaaDoor
open Go.RowKit Go.Shelf

set_option maxRecDepth 20000 in
set_option maxHeartbeats 3200000 in
theorem rhead_any (A : Option Addr) (l : List Lr) (cap : Nat) (w : World) (hl : Lks w A l) (hc : l.length ≤ cap) (hc2 : cap ≤ 9223372036854775807) (hs : Short l) :
    Calls Tryd.prog 38 #[.slice A l.length cap] w fun e w' => e = .returned (dv (hdA (lnks l))) ∧ Below w.heap.size w w' := by
  have HX := hide (Blk.new w 26 (List.replicate 32 (.int .u8 0)))
  have HB := hide (below_new w (.cells (List.replicate 32 (.int .u8 0)).toArray 26))
  have HZ := hide (fun (r : List UInt8) (hr : r.length = 32) => show (Tryd.prog.info? 26).map (·.size) = some ((bc r).toArray).size by rw [dv_size _ hr]; exact Tryd.size26)
  have HTX := hide (rtext_any A l cap _ (hl.below HB.out) hc hc2 hs)
  by_cases h0 : l = []
  · have HG := hide (show hdA (lnks l) = tagd [110, 111, 110, 101] [] by rw [h0]; rfl)
    have HTN := hide (HTX.out.mono fun e w' (h : TxP l _ e w') => (show e = .returned (.tuple #[.string ⟨#[110, 111, 110, 101]⟩, .slice none 0 0]) ∧ Below _ _ w' from ⟨h.1 h0, h.2.2⟩))
    clear hl HTX h0
    go_enter Tryd.func38, Tryd.ntmps38
    go_wp2_with fail
    refine HTN.out.mono ?_
    rintro e w1 ⟨rfl, hb⟩
    have HX1 := hide (HX.out.below hb HX.out.lt)
    have HB1 := hide (below_one HB.out hb)
    clear hb HX HB HTN
    go_wp2_with fail
    refine (rtagged_any ⟨#[110, 111, 110, 101]⟩ none 0 0 [] w1 ⟨rfl, fun h => absurd rfl h, fun _ => rfl⟩ (by decide) (by omega)).mono ?_
    rintro e w2 ⟨rfl, hb⟩
    have HX2 := hide (HX1.out.below hb HX1.out.lt)
    have HB2 := hide (below_one HB1.out hb)
    clear hb HX1 HB1
    go_wp2_with (refine wpList_store_row rfl 26 (.tmp 2) (.tmp 12) rfl w.heap.size (bc (tagd [110, 111, 110, 101] [])).toArray rfl rfl 26 _ HX2.out (HZ.out _ (tagd_32 _ _)) (by rw [dv_size _ (tagd_32 _ _)]; rfl) (all_oneCell_toArray (bc_one _)) ?_)
    refine bodyPost_ret (v := dv (tagd [110, 111, 110, 101] [])) (results_cell_row rfl _ _ w.heap.size 26 _ (0, 0) _ rfl (setRow_heap _ _ _ _ _ _ HX2.out) Tryd.underlying26 rfl (HZ.out _ (tagd_32 _ _))) rfl ?_
    exact ⟨by rw [HG.out], below_setRow HB2.out (Nat.le_refl _) _⟩
  · have HG := hide (headL_last h0)
    have HP := hide (lenc_len (l.getLast h0).x)
    have HSH := hide (hs _ (List.getLast_mem h0))
    have HPR := hide (hl.each _ (List.getLast_mem h0)).p32
    have HTN := hide (HTX.out.mono fun e w' (h : TxP l _ e w') => (show ∃ (A1 : Option Addr) (c1 : Nat), e = .returned (.tuple #[.string ⟨#[108, 105, 110, 107]⟩, .slice A1 (lenc (l.getLast h0).x).length c1]) ∧ Src w' A1 (lenc (l.getLast h0).x).length c1 (lenc (l.getLast h0).x) ∧ Below _ _ w' from by
      obtain ⟨A1, c1, h1, h2, h3, h4, h5⟩ := h.2.1 h0
      exact ⟨A1, c1, h1, ⟨rfl, h2, h5⟩, h.2.2⟩))
    clear hl HTX
    go_enter Tryd.func38, Tryd.ntmps38
    go_wp2_with fail
    refine HTN.out.mono ?_
    rintro e w1 ⟨A1, c1, rfl, s1, hb⟩
    have HX1 := hide (HX.out.below hb HX.out.lt)
    have HB1 := hide (below_one HB.out hb)
    have HS1 := hide s1
    clear hb HX HB HTN s1
    go_wp2_with fail
    refine (rtagged_any ⟨#[108, 105, 110, 107]⟩ A1 (lenc (l.getLast h0).x).length c1 (lenc (l.getLast h0).x) w1 HS1.out (by decide) (by have := HP.out; have := HSH.out; have := HPR.out; omega)).mono ?_
    rintro e w2 ⟨rfl, hb⟩
    have HX2 := hide (HX1.out.below hb HX1.out.lt)
    have HB2 := hide (below_one HB1.out hb)
    have HD := hide (show hdA (lnks l) = tagd [108, 105, 110, 107] (lenc (l.getLast h0).x) by rw [HG.out]; rfl)
    clear hb HX1 HB1
    go_wp2_with (refine wpList_store_row rfl 26 (.tmp 2) (.tmp 12) rfl w.heap.size (bc (tagd [108, 105, 110, 107] (lenc (l.getLast h0).x))).toArray rfl rfl 26 _ HX2.out (HZ.out _ (tagd_32 _ _)) (by rw [dv_size _ (tagd_32 _ _)]; rfl) (all_oneCell_toArray (bc_one _)) ?_)
    refine bodyPost_ret (v := dv (tagd [108, 105, 110, 107] (lenc (l.getLast h0).x))) (results_cell_row rfl _ _ w.heap.size 26 _ (0, 0) _ rfl (setRow_heap _ _ _ _ _ _ HX2.out) Tryd.underlying26 rfl (HZ.out _ (tagd_32 _ _))) rfl ?_
    exact ⟨by rw [HD.out], below_setRow HB2.out (Nat.le_refl _) _⟩
end Go.Proofs.YtalgceplcahgbaaDoor

/- The reference's Check. -/
namespace Go.Proofs.YtalgceplcahgbaaDoor
open Go.RowKit Go.Shelf

theorem wpList_neqG {ops : Array Oper} {Q : Exit → Act → World → Prop} {o : Oper} {rest : List Oper} {a : Act} {w : World} (hw : Region.wanted o (yielded ops a.tmps) = true) (x y : Operand) (T : TypeId) (ho : o.op = .binOp .neq 26 x y T) (X Y : List UInt8) (hx : a.eval x = dv X) (hy : a.eval y = dv Y)
    (h1 : X.length = 32) (h2 : Y.length = 32) (v : Bool) (hv : v = !(X == Y)) (h : wpList Tryd.prog ops Q rest (a.put o.dst (.bool v)) w) : wpList Tryd.prog ops Q (o :: rest) a w :=
  wpList_of_wp hw (by unfold Oper.wp; rw [run_neqD x y T ho X Y hx hy h1 h2 v hv w]; exact h)
/-! ## plain -/
section
variable (H0 : List UInt8) (HL : Ln → List UInt8)
/-- The link with the index k, as the reference asks of it. -/
def refB (l : List Ln) (k : Nat) (x : Ln) : Bool := decide (0 ≤ x.node) && decide (x.node < 24) && decide ((l.getD 0 ⟨0, 0, [], []⟩).node = x.node) && decide (x.no = k) && decide (x.data.length ≤ 65536) && decide (x.prev = headL H0 HL (l.take k))
theorem ref_lnk {l : List Ln} {k : Nat} (h : k < l.length) : lnkB H0 HL (l.take k) l[k] = refB H0 HL l k l[k] := by
  have hl : (l.take k).length = k := by rw [List.length_take]; omega
  unfold lnkB refB admB
  rw [hl]
  cases k with
  | zero =>
    cases l with
    | nil => simp at h
    | cons x l =>
      simp
      cases decide (0 ≤ x.node) <;> cases decide (x.node < 24) <;> cases decide (x.no = 0) <;> cases decide (x.data.length ≤ 65536) <;> simp
  | succ k =>
    cases l with
    | nil => simp at h
    | cons x l =>
      simp only [List.take_succ_cons, List.isEmpty_cons, Bool.false_or, List.getD_cons_zero]
      generalize (x :: l)[k + 1] = y
      cases decide (0 ≤ y.node) <;> cases decide (y.node < 24) <;> cases decide (x.node = y.node) <;> cases decide (y.no = ((k + 1 : Nat) : Int)) <;> cases decide (y.data.length ≤ 65536) <;> simp
theorem chk_no {l : List Ln} {k : Nat} (h : k < l.length) (hl : l.length ≤ 1024) (hr : refB H0 HL l k l[k] = false) : chkA H0 HL l = 80 := by
  unfold chkA
  rw [if_neg (by omega), if_neg]
  intro hc
  have := (chain_get H0 HL).1 hc k h
  rw [ref_lnk H0 HL h, hr] at this
  cases this
theorem up_next {l : List Ln} {k : Nat} (h : k < l.length) (hu : upB H0 HL l k = true) (hr : refB H0 HL l k l[k] = true) : upB H0 HL l (k + 1) = true := by
  rw [upB, hu, List.getElem?_eq_getElem h]
  simp only [Bool.true_and]
  rw [ref_lnk H0 HL h, hr]
theorem chk_yes {l : List Ln} (hl : l.length ≤ 1024) (hu : upB H0 HL l l.length = true) : chkA H0 HL l = 0 := by
  unfold chkA
  rw [if_neg (by omega), if_pos (show chainB H0 HL l = true from hu)]
end

set_option maxRecDepth 20000 in
set_option maxHeartbeats 6400000 in
theorem rcheck_any (A : Option Addr) (l : List Lr) (cap : Nat) (w : World) (hl : Lks w A l) (hc : l.length ≤ cap) (hc2 : cap ≤ 9223372036854775807) (hs : ∀ r ∈ l, r.x.data.length ≤ 300) (h16 : l.length ≤ 16) :
    Calls Tryd.prog 36 #[.slice A l.length cap] w fun e w' => e = .returned (.int .i64 (chkA hd0 hdL (lnks l))) ∧ Below w.heap.size w w' := by
  have HL := hide hl
  have HS := hide hs
  have HSS := hide (show Short l from fun r hr => Nat.le_trans (hs r hr) (by omega))
  have hlim : ¬ (1024 : Int) < (l.length : Int) := by omega
  have hlimd : decide (1024 < l.length) = false := by simp; omega
  clear hl hs
  go_enter Tryd.func36, Tryd.ntmps36
  go_wp2_with fail
  go_loopw [3, 4] (fun i _ wr => ∃ k : Nat, k ≤ l.length ∧ i = .int .i64 k ∧ Hid (Below w.heap.size w wr) ∧ Hid (upB hd0 hdL (lnks l) k = true)) (fun i _ _ => l.length - (intOf i).toNat)
  case atStart => exact ⟨0, Nat.zero_le _, rfl, hide (Below.refl _ _), hide rfl⟩
  case round =>
    obtain ⟨k, hk, rfl, hb, hq⟩ := hrel
    by_cases hlt : k < l.length
    · have hlt' : (k : Int) < l.length := by omega
      have hltn : k < (lnks l).length := by rw [lnks_len]; exact hlt
      have h0l : 0 < l.length := by omega
      obtain ⟨b, o, hA, hb0, hrg, hin⟩ := (HL.out.below hb.out).at hlt
      obtain ⟨b', o', hA', _, hrg0, hin0⟩ := (HL.out.below hb.out).at h0l
      have hAA := hA.symm.trans hA'
      injection hAA with hAA
      injection hAA with hbb hoo
      subst hbb hoo
      have HXK := hide (show (lnks l)[k]'hltn = (l[k]).x from by simp [lnks])
      have HX0 := hide (show (lnks l).getD 0 ⟨0, 0, [], []⟩ = (l[0]'h0l).x from by simp [lnks, h0l])
      have HNO := hide (fun h => chk_no hd0 hdL hltn (by rw [lnks_len]; omega) h)
      have HUP := hide (fun h => up_next hd0 hdL hltn hq.out h)
      rw [HXK.out] at HNO HUP
      have HRB := hide (show refB hd0 hdL (lnks l) k (l[k]).x = (decide (0 ≤ (l[k]).x.node) && decide ((l[k]).x.node < 24) && decide ((l[0]'h0l).x.node = (l[k]).x.node) && decide ((l[k]).x.no = k) && decide ((l[k]).x.data.length ≤ 65536) && decide ((l[k]).x.prev = hdA ((lnks l).take k))) from by unfold refB; rw [HX0.out])
      have HDL := hide (HS.out _ (List.getElem_mem hlt))
      have HR := hide hin
      have HRG := hide hrg
      have hn0 : wr.cell? ⟨b, o, none⟩ = some (.int .i64 (l[0]'h0l).x.node) := by
        have := hrg0 0 _ (Lr.c0 _)
        simpa using this
      have HN0 := hide hn0
      have HB0 := hide hb0
      generalize (l[0]'h0l).x.node = n0 at *
      generalize l[k] = r at *
      subst hA
      clear hrg hrg0 hin hin0 hb0 HXK HX0 hn0
      have HZ60 := hide (size60 HR.out)
      have HXB := hide (show Blk ((wr.alloc (.cells z60.toArray 60)).setRow wr.heap.size r.cs.toArray) wr.heap.size 60 r.cs from (Blk.new wr 60 z60).row _)
      have HBB := hide (show Below wr.heap.size wr ((wr.alloc (.cells z60.toArray 60)).setRow wr.heap.size r.cs.toArray) from below_setRow (below_new wr _) (Nat.le_refl _) _)
      go_upto_region 7 with (first | (refine wpList_load_mid rfl 60 (.tmp 16) rfl b (o + k * 35) rfl r.cs _ HRG.out Tryd.underlying60 rfl HZ60.out ?_) | (refine wpList_store_row rfl 60 (.tmp 4) (.tmp 17) rfl wr.heap.size r.cs.toArray rfl rfl 60 _ (heap_alloc_new wr _) HZ60.out (by rw [show r.cs.toArray.size = 35 from by rw [List.size_toArray, Lr.cs_len HR.out]]; rfl) (all_oneCell_toArray (Lr.cs_one r)) ?_))
      refine name_code ?_
      intro V hV
      have HXV := hide (show Blk V wr.heap.size 60 r.cs from by rw [hV.out]; exact HXB.out)
      have HBV := hide (show Below wr.heap.size wr V from by rw [hV.out]; exact HBB.out)
      have HF := hide (fun (W : World) (h : Below V.heap.size V W) => show W.cell? ⟨wr.heap.size, 0, none⟩ = some (.int .i64 r.x.node) ∧ W.cell? ⟨wr.heap.size, 1, none⟩ = some (.int .i64 r.x.no) ∧ W.cell? ⟨wr.heap.size, 34, none⟩ = some r.dv ∧ W.cell? ⟨b, o, none⟩ = some (.int .i64 n0) from
        have hx := HXV.out.below h HXV.out.lt
        ⟨(hx.cell 0).trans r.c0, (hx.cell 1).trans r.c1, (hx.cell 34).trans (Lr.c34 HR.out), ((h.cell (p := ⟨b, o, none⟩) (Nat.lt_of_lt_of_le HB0.out HBV.out.size)).trans ((HBV.out.cell (p := ⟨b, o, none⟩) HB0.out).trans HN0.out))⟩)
      clear hV HXB HBB HN0
      have f0 := (HF.out V (Below.refl _ _)).1
      have f1 := (HF.out V (Below.refl _ _)).2.1
      have f2 := (HF.out V (Below.refl _ _)).2.2.1
      have f3 := (HF.out V (Below.refl _ _)).2.2.2
      have h0l' : (0 : Int) < (l.length : Int) := by omega
      have HBW := hide (below_one hb.out HBV.out)
      by_cases g1 : r.x.node < 0
      · have HC := hide (HNO.out (by rw [HRB.out, decide_eq_false (show ¬ 0 ≤ r.x.node by omega)]; rfl))
        clear HRB HUP HNO
        go_wp2_with fail
        go_quiet (fail)
        go_wp2_with fail
        go_ret
        exact ⟨by rw [HC.out]; rfl, below_drewN HBW.out _⟩
      · have g1d : decide (r.x.node < 0) = false := by simpa using g1
        by_cases g2 : 24 ≤ r.x.node
        · have HC := hide (HNO.out (by rw [HRB.out, decide_eq_false (show ¬ r.x.node < 24 by omega)]; simp))
          clear HRB HUP HNO
          go_wp2_with fail
          go_quiet (fail)
          go_wp2_with fail
          go_ret
          exact ⟨by rw [HC.out]; rfl, below_drewN HBW.out _⟩
        · have g2d : decide (24 ≤ r.x.node) = false := by simpa using g2
          by_cases g3 : r.x.node = n0
          · subst g3
            have g3d : (r.x.node != r.x.node) = false := by simp
            by_cases g4 : r.x.no = k
            · have g4d : (r.x.no != (k : Int)) = false := by simp [g4]
              have HG4 := hide g4
              clear g4
              have g5 : ¬ (65536 : Int) < (r.x.data.length : Int) := by have := HDL.out; omega
              have g5d : decide ((65536 : Int) < (r.x.data.length : Int)) = false := decide_eq_false (by have := HDL.out; omega)
              clear g5
              have HPV := hide (fun (W : World) (h : Below V.heap.size V W) => show W.rangeAt wr.heap.size 2 (bc r.x.prev) from fun j v hv => by
                have hj : j < 32 := by have := (List.getElem?_eq_some_iff.1 hv).1; rw [bc_len, HR.out.p32] at this; exact this
                rw [(HXV.out.below h HXV.out.lt).cell (2 + j), Lr.cp HR.out j hj]
                exact hv)
              have HS26 := hide (show (Tryd.prog.info? 26).map (·.size) = some (bc r.x.prev).length by rw [bc_len, HR.out.p32]; exact Tryd.size26)
              have hkc : k ≤ cap := by omega
              have HHD := hide (fun (W : World) (h : Below V.heap.size V W) => show Calls Tryd.prog 38 #[.slice (some ⟨b, o, none⟩) k cap] W fun e w' => e = .returned (dv (hdA ((lnks l).take k))) ∧ Below W.heap.size W w' from by
                have e1 : (l.take k).length = k := by rw [List.length_take]; omega
                have := rhead_any (some ⟨b, o, none⟩) (l.take k) cap W ((HL.out.below (below_one HBW.out h)).take k) (by omega) hc2 (HSS.out.take k)
                rw [e1, show lnks (l.take k) = (lnks l).take k by simp [lnks, List.map_take]] at this
                exact this)
              have H32 := hide (And.intro HR.out.p32 (hdA_32 ((lnks l).take k)))
              generalize hdA ((lnks l).take k) = g at *
              obtain ⟨v, hv⟩ : ∃ v : Bool, v = !(r.x.prev == g) := ⟨_, rfl⟩
              have HVE := hide hv
              clear hv
              have HS0 := hide (show Below V.heap.size V V.drew from (Below.refl _ _).drew)
              go_wp2_with fail
              refine wp_region_plan4 (fun W' => Below V.heap.size V W') (.take 0 (.take 1 (.take 2 (.take 3 (.take 4 (.take 5 (.take 6 (.take 7 (.take 8 (.take 9 (.take 10 (.take 11 (.take 12 (.take 13 (.take 14 (.take 15 (.take 16 (.take 17 (.take 18 (.take 19 (.take 20 (.take 21 (.take 22 (.take 23 (.take 24 (.take 25 (.take 26 (.take 27 (.take 28 (.take 29 (.take 30 (.take 31 (.take 32 (.take 33 (.take 34 (.run 35 (.run 36 (.run 37 .done)))))))))))))))))))))))))))))))))))))) (by kernel_rfl) (by kernel_rfl) HS0.out ?_
              generalize V.drew = wD at HS0 ⊢
              (refine plan4_take (o := ?_) (v := ?_) (by simp only [List.getElem?_toArray, List.getElem?_cons_zero]; rfl) (yields_run (by rfl) ?_) ?_; rotate_left; (focus (intro w' hw'; go_simp <;> with_reducible rfl)); (simp only [Act.put, List.setIfInBounds_toArray, List.set_cons_zero, List.set_cons_succ]))
              (refine plan4_take (o := ?_) (v := ?_) (by simp only [List.getElem?_toArray, List.getElem?_cons_succ, List.getElem?_cons_zero]; rfl) (yields_run (by rfl) ?_) ?_; rotate_left; (focus (intro w' hw'; have q0 := (HF.out w' hw').1; go_simp <;> with_reducible rfl)); (simp only [Act.put, List.setIfInBounds_toArray, List.set_cons_zero, List.set_cons_succ]))
              (refine plan4_take (o := ?_) (v := ?_) (by simp only [List.getElem?_toArray, List.getElem?_cons_succ, List.getElem?_cons_zero]; rfl) (yields_run (by rfl) ?_) ?_; rotate_left; (focus (intro w' hw'; go_simp <;> with_reducible rfl)); (simp only [Act.put, List.setIfInBounds_toArray, List.set_cons_zero, List.set_cons_succ]))
              (refine plan4_take (o := ?_) (v := ?_) (by simp only [List.getElem?_toArray, List.getElem?_cons_succ, List.getElem?_cons_zero]; rfl) (yields_run (by rfl) ?_) ?_; rotate_left; (focus (intro w' hw'; go_simp <;> with_reducible rfl)); (simp only [Act.put, List.setIfInBounds_toArray, List.set_cons_zero, List.set_cons_succ]))
              (refine plan4_take (o := ?_) (v := ?_) (by simp only [List.getElem?_toArray, List.getElem?_cons_succ, List.getElem?_cons_zero]; rfl) (yields_run (by rfl) ?_) ?_; rotate_left; (focus (intro w' hw'; go_simp <;> with_reducible rfl)); (simp only [Act.put, List.setIfInBounds_toArray, List.set_cons_zero, List.set_cons_succ]))
              (refine plan4_take (o := ?_) (v := ?_) (by simp only [List.getElem?_toArray, List.getElem?_cons_succ, List.getElem?_cons_zero]; rfl) (yields_run (by rfl) ?_) ?_; rotate_left; (focus (intro w' hw'; have q0 := (HF.out w' hw').1; go_simp <;> with_reducible rfl)); (simp only [Act.put, List.setIfInBounds_toArray, List.set_cons_zero, List.set_cons_succ]))
              (refine plan4_take (o := ?_) (v := ?_) (by simp only [List.getElem?_toArray, List.getElem?_cons_succ, List.getElem?_cons_zero]; rfl) (yields_run (by rfl) ?_) ?_; rotate_left; (focus (intro w' hw'; go_simp <;> with_reducible rfl)); (simp only [Act.put, List.setIfInBounds_toArray, List.set_cons_zero, List.set_cons_succ]))
              (refine plan4_take (o := ?_) (v := ?_) (by simp only [List.getElem?_toArray, List.getElem?_cons_succ, List.getElem?_cons_zero]; rfl) (yields_run (by rfl) ?_) ?_; rotate_left; (focus (intro w' hw'; go_simp <;> with_reducible rfl)); (simp only [Act.put, List.setIfInBounds_toArray, List.set_cons_zero, List.set_cons_succ]))
              (refine plan4_take (o := ?_) (v := ?_) (by simp only [List.getElem?_toArray, List.getElem?_cons_succ, List.getElem?_cons_zero]; rfl) (yields_run (by rfl) ?_) ?_; rotate_left; (focus (intro w' hw'; go_simp <;> with_reducible rfl)); (simp only [Act.put, List.setIfInBounds_toArray, List.set_cons_zero, List.set_cons_succ]))
              (refine plan4_take (o := ?_) (v := ?_) (by simp only [List.getElem?_toArray, List.getElem?_cons_succ, List.getElem?_cons_zero]; rfl) (yields_run (by rfl) ?_) ?_; rotate_left; (focus (intro w' hw'; go_simp <;> with_reducible rfl)); (simp only [Act.put, List.setIfInBounds_toArray, List.set_cons_zero, List.set_cons_succ]))
              (refine plan4_take (o := ?_) (v := ?_) (by simp only [List.getElem?_toArray, List.getElem?_cons_succ, List.getElem?_cons_zero]; rfl) (yields_run (by rfl) ?_) ?_; rotate_left; (focus (intro w' hw'; have q0 := (HF.out w' hw').1; go_simp <;> with_reducible rfl)); (simp only [Act.put, List.setIfInBounds_toArray, List.set_cons_zero, List.set_cons_succ]))
              (refine plan4_take (o := ?_) (v := ?_) (by simp only [List.getElem?_toArray, List.getElem?_cons_succ, List.getElem?_cons_zero]; rfl) (yields_run (by rfl) ?_) ?_; rotate_left; (focus (intro w' hw'; go_simp <;> with_reducible rfl)); (simp only [Act.put, List.setIfInBounds_toArray, List.set_cons_zero, List.set_cons_succ]))
              (refine plan4_take (o := ?_) (v := ?_) (by simp only [List.getElem?_toArray, List.getElem?_cons_succ, List.getElem?_cons_zero]; rfl) (yields_run (by rfl) ?_) ?_; rotate_left; (focus (intro w' hw'; go_simp <;> with_reducible rfl)); (simp only [Act.put, List.setIfInBounds_toArray, List.set_cons_zero, List.set_cons_succ]))
              (refine plan4_take (o := ?_) (v := ?_) (by simp only [List.getElem?_toArray, List.getElem?_cons_succ, List.getElem?_cons_zero]; rfl) (yields_run (by rfl) ?_) ?_; rotate_left; (focus (intro w' hw'; go_simp <;> with_reducible rfl)); (simp only [Act.put, List.setIfInBounds_toArray, List.set_cons_zero, List.set_cons_succ]))
              (refine plan4_take (o := ?_) (v := ?_) (by simp only [List.getElem?_toArray, List.getElem?_cons_succ, List.getElem?_cons_zero]; rfl) (yields_run (by rfl) ?_) ?_; rotate_left; (focus (intro w' hw'; have q0 := (HF.out w' hw').2.2.2; go_simp <;> with_reducible rfl)); (simp only [Act.put, List.setIfInBounds_toArray, List.set_cons_zero, List.set_cons_succ]))
              (refine plan4_take (o := ?_) (v := ?_) (by simp only [List.getElem?_toArray, List.getElem?_cons_succ, List.getElem?_cons_zero]; rfl) (yields_run (by rfl) ?_) ?_; rotate_left; (focus (intro w' hw'; go_simp <;> with_reducible rfl)); (simp only [Act.put, List.setIfInBounds_toArray, List.set_cons_zero, List.set_cons_succ]))
              (refine plan4_take (o := ?_) (v := ?_) (by simp only [List.getElem?_toArray, List.getElem?_cons_succ, List.getElem?_cons_zero]; rfl) (yields_run (by rfl) ?_) ?_; rotate_left; (focus (intro w' hw'; go_simp <;> with_reducible rfl)); (simp only [Act.put, List.setIfInBounds_toArray, List.set_cons_zero, List.set_cons_succ]))
              (refine plan4_take (o := ?_) (v := ?_) (by simp only [List.getElem?_toArray, List.getElem?_cons_succ, List.getElem?_cons_zero]; rfl) (yields_run (by rfl) ?_) ?_; rotate_left; (focus (intro w' hw'; go_simp <;> with_reducible rfl)); (simp only [Act.put, List.setIfInBounds_toArray, List.set_cons_zero, List.set_cons_succ]))
              (refine plan4_take (o := ?_) (v := ?_) (by simp only [List.getElem?_toArray, List.getElem?_cons_succ, List.getElem?_cons_zero]; rfl) (yields_run (by rfl) ?_) ?_; rotate_left; (focus (intro w' hw'; go_simp <;> with_reducible rfl)); (simp only [Act.put, List.setIfInBounds_toArray, List.set_cons_zero, List.set_cons_succ]))
              (refine plan4_take (o := ?_) (v := ?_) (by simp only [List.getElem?_toArray, List.getElem?_cons_succ, List.getElem?_cons_zero]; rfl) (yields_run (by rfl) ?_) ?_; rotate_left; (focus (intro w' hw'; have q0 := (HF.out w' hw').2.1; go_simp <;> with_reducible rfl)); (simp only [Act.put, List.setIfInBounds_toArray, List.set_cons_zero, List.set_cons_succ]))
              (refine plan4_take (o := ?_) (v := ?_) (by simp only [List.getElem?_toArray, List.getElem?_cons_succ, List.getElem?_cons_zero]; rfl) (yields_run (by rfl) ?_) ?_; rotate_left; (focus (intro w' hw'; go_simp <;> with_reducible rfl)); (simp only [Act.put, List.setIfInBounds_toArray, List.set_cons_zero, List.set_cons_succ]))
              (refine plan4_take (o := ?_) (v := ?_) (by simp only [List.getElem?_toArray, List.getElem?_cons_succ, List.getElem?_cons_zero]; rfl) (yields_run (by rfl) ?_) ?_; rotate_left; (focus (intro w' hw'; go_simp <;> with_reducible rfl)); (simp only [Act.put, List.setIfInBounds_toArray, List.set_cons_zero, List.set_cons_succ]))
              (refine plan4_take (o := ?_) (v := ?_) (by simp only [List.getElem?_toArray, List.getElem?_cons_succ, List.getElem?_cons_zero]; rfl) (yields_run (by rfl) ?_) ?_; rotate_left; (focus (intro w' hw'; go_simp <;> with_reducible rfl)); (simp only [Act.put, List.setIfInBounds_toArray, List.set_cons_zero, List.set_cons_succ]))
              (refine plan4_take (o := ?_) (v := ?_) (by simp only [List.getElem?_toArray, List.getElem?_cons_succ, List.getElem?_cons_zero]; rfl) (yields_run (by rfl) ?_) ?_; rotate_left; (focus (intro w' hw'; go_simp <;> with_reducible rfl)); (simp only [Act.put, List.setIfInBounds_toArray, List.set_cons_zero, List.set_cons_succ]))
              (refine plan4_take (o := ?_) (v := ?_) (by simp only [List.getElem?_toArray, List.getElem?_cons_succ, List.getElem?_cons_zero]; rfl) (yields_run (by rfl) ?_) ?_; rotate_left; (focus (intro w' hw'; go_simp <;> with_reducible rfl)); (simp only [Act.put, List.setIfInBounds_toArray, List.set_cons_zero, List.set_cons_succ]))
              (refine plan4_take (o := ?_) (v := ?_) (by simp only [List.getElem?_toArray, List.getElem?_cons_succ, List.getElem?_cons_zero]; rfl) (yields_run (by rfl) ?_) ?_; rotate_left; (focus (intro w' hw'; have q0 := (HF.out w' hw').2.2.1; go_simp <;> with_reducible rfl)); (simp only [Act.put, List.setIfInBounds_toArray, List.set_cons_zero, List.set_cons_succ]))
              (refine plan4_take (o := ?_) (v := ?_) (by simp only [List.getElem?_toArray, List.getElem?_cons_succ, List.getElem?_cons_zero]; rfl) (yields_run (by rfl) ?_) ?_; rotate_left; (focus (intro w' hw'; go_simp <;> with_reducible rfl)); (simp only [Act.put, List.setIfInBounds_toArray, List.set_cons_zero, List.set_cons_succ]))
              (refine plan4_take (o := ?_) (v := ?_) (by simp only [List.getElem?_toArray, List.getElem?_cons_succ, List.getElem?_cons_zero]; rfl) (yields_run (by rfl) ?_) ?_; rotate_left; (focus (intro w' hw'; go_simp <;> with_reducible rfl)); (simp only [Act.put, List.setIfInBounds_toArray, List.set_cons_zero, List.set_cons_succ]))
              (refine plan4_take (o := ?_) (v := ?_) (by simp only [List.getElem?_toArray, List.getElem?_cons_succ, List.getElem?_cons_zero]; rfl) (yields_run (by rfl) ?_) ?_; rotate_left; (focus (intro w' hw'; go_simp <;> with_reducible rfl)); (simp only [Act.put, List.setIfInBounds_toArray, List.set_cons_zero, List.set_cons_succ]))
              (refine plan4_take (o := ?_) (v := ?_) (by simp only [List.getElem?_toArray, List.getElem?_cons_succ, List.getElem?_cons_zero]; rfl) (yields_run (by rfl) ?_) ?_; rotate_left; (focus (intro w' hw'; go_simp <;> with_reducible rfl)); (simp only [Act.put, List.setIfInBounds_toArray, List.set_cons_zero, List.set_cons_succ]))
              (refine plan4_take (o := ?_) (v := ?_) (by simp only [List.getElem?_toArray, List.getElem?_cons_succ, List.getElem?_cons_zero]; rfl) (yields_run (by rfl) ?_) ?_; rotate_left; (focus (intro w' hw'; go_simp <;> with_reducible rfl)); (simp only [Act.put, List.setIfInBounds_toArray, List.set_cons_zero, List.set_cons_succ]))
              (refine plan4_take (o := ?_) (v := .agg (bc r.x.prev).toArray) (by simp only [List.getElem?_toArray, List.getElem?_cons_succ, List.getElem?_cons_zero]; rfl) ?_ ?_; (focus (exact yieldsIf_load_mid (by rfl) 26 (.tmp 48) rfl wr.heap.size 2 rfl (bc r.x.prev) _ HPV.out Tryd.underlying26 rfl HS26.out)); (simp only [Act.put, List.setIfInBounds_toArray, List.set_cons_zero, List.set_cons_succ]))
              (refine plan4_take (o := ?_) (v := ?_) (by simp only [List.getElem?_toArray, List.getElem?_cons_succ, List.getElem?_cons_zero]; rfl) (yields_run (by rfl) ?_) ?_; rotate_left; (focus (intro w' hw'; go_simp <;> with_reducible rfl)); (simp only [Act.put, List.setIfInBounds_toArray, List.set_cons_zero, List.set_cons_succ]))
              (refine plan4_take (o := ?_) (v := ?_) (by simp only [List.getElem?_toArray, List.getElem?_cons_succ, List.getElem?_cons_zero]; rfl) (yields_run (by rfl) ?_) ?_; rotate_left; (focus (intro w' hw'; go_simp <;> with_reducible rfl)); (simp only [Act.put, List.setIfInBounds_toArray, List.set_cons_zero, List.set_cons_succ]))
              (refine plan4_take (o := ?_) (v := ?_) (by simp only [List.getElem?_toArray, List.getElem?_cons_succ, List.getElem?_cons_zero]; rfl) (yields_run (by rfl) ?_) ?_; rotate_left; (focus (intro w' hw'; go_simp <;> with_reducible rfl)); (simp only [Act.put, List.setIfInBounds_toArray, List.set_cons_zero, List.set_cons_succ]))
              refine plan4_run (o := ?_) (by simp only [List.getElem?_toArray, List.getElem?_cons_succ, List.getElem?_cons_zero]; rfl) ?_
              intro R' HK
              go_wp2_with fail
              refine (HHD.out _ HS0.out).mono ?_
              rintro e wN ⟨rfl, hbn⟩
              have HSn := hide (below_one HS0.out hbn)
              have HBn := hide (below_one HBW.out HSn.out)
              clear hbn
              go_wp2_with fail
              refine HK.out _ _ HSn.out ?_
              clear HK
              refine plan4_run (o := ?_) (by simp only [List.getElem?_toArray, List.getElem?_cons_succ, List.getElem?_cons_zero]; rfl) ?_
              intro R' HK
              refine wpList_neqG rfl (.tmp 49) (.tmp 53) 26 rfl r.x.prev g rfl rfl H32.out.1 H32.out.2 v HVE.out ?_
              go_wp2_with fail
              refine HK.out _ _ HSn.out ?_
              clear HK
              refine plan4_run (o := ?_) (by simp only [List.getElem?_toArray, List.getElem?_cons_succ, List.getElem?_cons_zero]; rfl) ?_
              intro R' HK
              go_wp2_with fail
              refine HK.out _ _ HSn.out ?_
              clear HK
              refine plan4_done ?_
              cases v with
              | true =>
                have HC := hide (HNO.out (by
                  have hv := HVE.out
                  have : r.x.prev ≠ g := by simpa using hv
                  rw [HRB.out, decide_eq_false this]; simp))
                clear HRB HUP HNO
                go_wp2_with fail
                go_ret
                exact ⟨by rw [HC.out]; rfl, HBn.out⟩
              | false =>
                have HC := hide (HUP.out (by
                  have hv := HVE.out
                  have : r.x.prev = g := by simpa using hv
                  rw [HRB.out]
                  have e1 : 0 ≤ r.x.node := by omega
                  have e2 : r.x.node < 24 := by omega
                  have e3 := HG4.out
                  have e4 : r.x.data.length ≤ 65536 := by have := HDL.out; omega
                  simp [this, e1, e2, e3, e4]))
                clear HRB HUP HNO
                go_wp2_with fail
                go_roundw
                case rel => exact ⟨k + 1, by omega, by go_num, HBn, HC⟩
                case measure => simp [intOf]; omega
            · have g4d : (r.x.no != (k : Int)) = true := by simpa using g4
              have HC := hide (HNO.out (by rw [HRB.out, decide_eq_false g4]; simp))
              clear HRB HUP HNO
              go_wp2_with fail
              go_quiet (fail)
              go_wp2_with fail
              go_ret
              exact ⟨by rw [HC.out]; rfl, below_drewN HBW.out _⟩
          · have g3d : (r.x.node != n0) = true := by simpa using g3
            have HC := hide (HNO.out (by rw [HRB.out, decide_eq_false (show ¬ n0 = r.x.node from fun h => g3 h.symm)]; simp))
            clear HRB HUP HNO
            go_wp2_with fail
            go_quiet (fail)
            go_wp2_with fail
            go_ret
            exact ⟨by rw [HC.out]; rfl, below_drewN HBW.out _⟩
    · obtain rfl : k = l.length := by omega
      have hlt' : ¬ ((l.length : Nat) : Int) < l.length := by omega
      have HX := hide (show chkA hd0 hdL (lnks l) = 0 from chk_yes hd0 hdL (by rw [lnks_len]; omega) (by rw [lnks_len]; exact hq.out))
      go_wp2_with fail
      go_ret
      exact ⟨by rw [HX.out]; rfl, hb.out⟩
end Go.Proofs.YtalgceplcahgbaaDoor
