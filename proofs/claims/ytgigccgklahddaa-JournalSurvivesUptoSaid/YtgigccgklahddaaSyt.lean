
/- Sync of the program, where the disk stops. -/
import Derived.Test.YtgigccgklahddaaSyn
namespace Go.Proofs.Ytgigccgklahddaa
open Go.RowKit
variable {n0 : Nat}

theorem left_0 : -9223372036854775808 ≤ (0 : Int) ∧ (0 : Int) ≤ 9223372036854775807 := by decide
theorem PF.only {w : World} {g : Nat} {cur : List Sec} {rest : List Value} {W W' : World} {X : Nat} {r : List Value} (h : PF n0 w g cur rest W) (hX : Blk W X 25 r) (hg : W.grownBy W' (some X)) (hw : w.heap.size ≤ X) : PF n0 w g cur rest W' :=
  ⟨fun s hs => (h.each s hs).imp_right fun k => k.only hg hX (by omega), h.row.only hg (h.row.ne hX (by omega)), below_of_only h.bel hg hw, h.ge⟩
theorem SB.only {d : Dsk} {w : World} {r : List Value} {W W' : World} {g : Nat} {cs : List Value} (h : SB d w r W) (hG : Blk W g 35 cs) (hg : W.grownBy W' (some g)) (hw : w.heap.size ≤ g) : SB d w r W' :=
  ⟨h.box.only hg (h.box.ne hG (by omega)), h.res.only hg (h.res.ne hG (by omega)), below_of_only h.bel hg hw⟩

set_option maxRecDepth 10000 in
set_option maxHeartbeats 6400000 in
theorem sync_torn (d : Dsk) (w : World) (hi : d.In n0 w) (hr : d.d.runs = true) (k : Nat) (hk : d.left = k) (hkl : k < d.ps.length) :
    Calls Try.prog 29 #[d.v] w (Ans n0 w d.d.sync) := by
  obtain ⟨hs, ⟨hn1, hn2⟩, hsl, hpl, hpv, hl1, hl2⟩ := runs_facts hr
  have HI := hide hi
  have HT := hide (two_below d w)
  have HB := hide (two_boxes d w)
  have HC := hide (runs_is (two d w) hr (HI.out.below HT.out))
  have HPE := hide (fun W (hW : Below w.heap.size w W) => performable_any d W (HI.out.below hW) hl1)
  have hm : d.many = k := by unfold Dsk.many; rw [hk, if_neg (by omega)]; omega
  rw [hm] at HPE
  have hlt : (d.ps.take k).length = k := by rw [List.length_take]; omega
  have HWT := hide (HI.out.pen.take k (by omega))
  have HPF : Hid (∀ W (hW : Below w.heap.size w W), Calls Try.prog 55 #[.slice d.sa d.ss.length d.sc, .slice d.pa k k] W fun e w' => ∃ g c cur rest, e = .returned (.slice (some ⟨g, 0, none⟩) d.ss.length c) ∧ cur.length = d.ss.length ∧ d.ss.length ≤ c ∧ c ≤ 9223372036854775807 ∧ PF n0 w g cur rest w' ∧ secD cur = perf (secD d.ss) ((wrD d.ps).take k) ∧ Below W.heap.size W w') := hide (fun W (hW : Below w.heap.size w W) => by
    have := performed_any d.sa d.ss d.sc d.pa (d.ps.take k) k w W hW HI.out.sec HWT.out (by intro e; rw [e] at hn1; simp at hn1) hn2 (fun j hj => by rw [List.getElem_take]; exact hpv j (by omega))
    rw [hlt, show wrD (d.ps.take k) = (wrD d.ps).take k by simp [wrD, List.map_take]] at this
    exact this)
  have HS := hide hs
  have HSL := hide hsl
  have HPV := hide (hpv k hkl)
  have HPI := hide ((HI.out.pen.each _ (List.getElem_mem hkl)).1)
  have HPA := hide (fun W (hW : Below w.heap.size w W) => (HI.out.pen.below hW).at hkl)
  have HPX : Hid (∀ p ∈ wrD d.ps, p.2.length = 128) := hide (fun p hp => by
    obtain ⟨j, hj, rfl⟩ := List.getElem_of_mem hp
    rw [wrD_get]
    rw [wrD_len] at hj
    exact (hpv j hj).2.2)
  have HX : Hid (d.d.sync = (⟨tornS (perf (secD d.ss) ((wrD d.ps).take k)) ((d.ps[k]).pos, (d.ps[k]).s.l), [], 0, true⟩, 40)) := hide (by
    have e : d.d.pen.length = d.ps.length := wrD_len d.ps
    have e2 : d.d.left = d.left := rfl
    have e3 : d.d.pen.getD k (0, []) = ((d.ps[k]).pos, (d.ps[k]).s.l) := by
      show (wrD d.ps).getD k (0, []) = _
      rw [List.getD_eq_getElem?_getD, List.getElem?_eq_getElem (by rw [wrD_len]; exact hkl), wrD_get]
      rfl
    unfold Dk.sync
    rw [if_pos hr, e2, hk, if_neg (by omega), e, if_neg (by omega), Int.toNat_natCast, e3]
    rfl)
  clear hi hsl hpv hs hr hm hlt hk
  generalize d.ps[k] = p at *
  obtain ⟨pos, ps⟩ := p
  simp only at HPV HPI HX HPA
  obtain ⟨j, rfl⟩ := Int.eq_ofNat_of_zero_le HPV.out.1
  have hkl' : (k : Int) < d.ps.length := by omega
  have hk0 : (0 : Int) ≤ k := by omega
  go_enter Try.func29, Try.ntmps29
  go_wp2_with fail
  refine HC.out.mono ?_
  rintro e w1 ⟨rfl, hb⟩
  have H1 := hide (show SB d w [.slice none 0 0, .slice none 0 0, .int .i64 0, .bool false] w1 from ⟨HB.out.1.below hb HB.out.1.lt, HB.out.2.below hb HB.out.2.lt, HT.out.trans (hb.mono HT.out.size)⟩)
  clear hb
  obtain ⟨c0, c1, c2, c3⟩ := H1.out.box.c4
  go_wp2_with fail
  refine (HPE.out _ H1.out.bel).mono ?_
  rintro e w2 ⟨rfl, hb⟩
  have H2 := hide (H1.out.below hb)
  clear hb c0 c1 c2 c3
  obtain ⟨c0, c1, c2, c3⟩ := H2.out.box.c4
  have H3 := hide (show SB d w d.cs (w2.setRow (w.heap.size + 1) #[.slice d.sa d.ss.length d.sc, .slice d.pa d.ps.length d.pc, .int .i64 d.left, .bool d.stp]) from ⟨H2.out.box.far (by omega) _, H2.out.res.row _, below_setRow H2.out.bel (by omega) _⟩)
  obtain ⟨d0, d1, d2, d3⟩ := H3.out.box.c4
  go_wp2_with (refine wpList_store_row rfl 25 (.tmp 2) (.tmp 11) rfl (w.heap.size + 1) #[.slice d.sa d.ss.length d.sc, .slice d.pa d.ps.length d.pc, .int .i64 d.left, .bool d.stp] rfl rfl 25 _ H2.out.res Try.size25 rfl (one25 _ _ _ _ _ _ _ _) ?_)
  refine (HPF.out _ H3.out.bel).mono ?_
  rintro e w4 ⟨g, c, cur, rest, rfl, hcl, hc1, hc2, hP, hD, hb⟩
  have HP := hide hP
  have HD := hide hD
  have HCC := hide (show cur.length ≤ c ∧ c ≤ 9223372036854775807 by rw [hcl]; exact ⟨hc1, hc2⟩)
  have HCL := hide hcl
  have H4 := hide (H3.out.below hb)
  clear hP hD hcl hb c0 c1 c2 c3 d0 d1 d2 d3
  have c0 := H4.out.res.c4.1
  have f0 := H4.out.res.free 0
  have H5 := hide (show SB d w [.slice (some ⟨g, 0, none⟩) d.ss.length c, .slice d.pa d.ps.length d.pc, .int .i64 d.left, .bool d.stp] (w4.setCell ⟨w.heap.size + 1, 0, none⟩ (.slice (some ⟨g, 0, none⟩) d.ss.length c)) from ⟨H4.out.box.apart (by simp) _, H4.out.res.set 0 _, H4.out.bel.setCell (by simp) _⟩)
  have c1 := H5.out.res.c4.2.1
  have f1 := H5.out.res.free 1
  have H6 := hide (show SB d w [.slice (some ⟨g, 0, none⟩) d.ss.length c, .slice none 0 0, .int .i64 d.left, .bool d.stp] ((w4.setCell ⟨w.heap.size + 1, 0, none⟩ (.slice (some ⟨g, 0, none⟩) d.ss.length c)).setCell ⟨w.heap.size + 1, 1, none⟩ (.slice none 0 0)) from ⟨H5.out.box.apart (by simp) _, H5.out.res.set 1 _, H5.out.bel.setCell (by simp) _⟩)
  obtain ⟨_, b1, b2, _⟩ := H6.out.box.c4
  have r0 := H6.out.res.c4.1
  obtain ⟨pb, po, hpa, hpb, q0, q1⟩ := HPA.out w (Below.refl _ _)
  have p0 := (H6.out.bel.cell (p := ⟨pb, po + k * 2, none⟩) hpb).trans q0
  have p1 := (H6.out.bel.cell (p := ⟨pb, po + k * 2 + 1, none⟩) hpb).trans q1
  clear q0 q1
  have HG4 := hide (show w4.grownBy ((w4.setCell ⟨w.heap.size + 1, 0, none⟩ (.slice (some ⟨g, 0, none⟩) d.ss.length c)).setCell ⟨w.heap.size + 1, 1, none⟩ (.slice none 0 0)) (some (w.heap.size + 1)) from only_setCell (only_setCell (only_refl w4 (some (w.heap.size + 1))) (p := ⟨w.heap.size + 1, 0, none⟩) (.inl rfl) _) (p := ⟨w.heap.size + 1, 1, none⟩) (.inl rfl) _)
  go_wp2_with fail
  generalize ((w4.setCell ⟨w.heap.size + 1, 0, none⟩ (.slice (some ⟨g, 0, none⟩) d.ss.length c)).setCell ⟨w.heap.size + 1, 1, none⟩ (.slice none 0 0)) = W6 at *
  have HP6 := hide (HP.out.only H4.out.res HG4.out (by omega))
  have HVA : Hid (∀ h : j < cur.length, (cur[j]).l.length = 128) := hide (fun h => by
    refine secD_valid (s := secD d.ss) (ps := (wrD d.ps).take k) (fun x hx => ?_) (fun p hp => HPX.out p (List.mem_of_mem_take hp)) _ ?_
    · obtain ⟨i, hi, rfl⟩ := List.getElem_of_mem hx
      rw [secD_get]
      exact HSL.out i (by rw [secD_len] at hi; exact hi)
    · rw [← HD.out]
      exact List.mem_map.2 ⟨_, List.getElem_mem h, rfl⟩)
  have HTE := hide (tear_any w g cur rest d.ss.length c j ps W6.drew (HP6.out.below (Below.refl _ _).drew) HCL.out (by have := HCC.out.1; rw [HCL.out] at this; exact this) (by have := HPV.out.2.1; omega) HVA.out HPI.out HPV.out.2.2)
  have b1' : W6.cell? ⟨w.heap.size, 1, none⟩ = some (.slice (some ⟨pb, po, none⟩) d.ps.length d.pc) := by rw [← hpa]; exact b1
  refine wp_region_hoist (fun w' => w'.cell? ⟨w.heap.size + 1, 0, none⟩ = some (.slice (some ⟨g, 0, none⟩) d.ss.length c) ∧ w'.cell? ⟨w.heap.size, 1, none⟩ = some (.slice (some ⟨pb, po, none⟩) d.ps.length d.pc) ∧ w'.cell? ⟨pb, po + k * 2, none⟩ = some (.int .i64 j) ∧ w'.cell? ⟨pb, po + k * 2 + 1, none⟩ = some ps.v) [true, true, true, true, true, true, true, true, false] (by kernel_rfl) (by kernel_rfl) ⟨r0, b1', p0, p1⟩ ?_
  repeat (refine head_take (v := ?_) (yields_run (by rfl) ?_) ?_; rotate_left; (focus (rintro w' ⟨hw0, hw1, hw2, hw3⟩; go_simp <;> with_reducible rfl)); (simp only [Act.put, List.setIfInBounds_toArray, List.set_cons_zero, List.set_cons_succ]))
  refine head_skip (head_done ?_)
  repeat refine tail_skip ?_
  refine tail_step ?_
  intro R HR
  go_wp2_with fail
  refine HTE.out.mono ?_
  rintro e w7 ⟨⟨v, rfl⟩, sx, hsx, hP7, hg7⟩
  have hg7 : W6.grownBy w7 (some g) := ⟨hg7.os, hg7.tape, hg7.output, hg7.size, hg7.block⟩
  have hge : w.heap.size ≤ g := hP7.ge
  have H7 := hide (H6.out.only HP6.out.row hg7 hge)
  have HP7 := hide hP7
  have HSX := hide hsx
  have s0 := H7.out.res.c4.1
  have s1 := H7.out.box.c4.2.1
  rw [hpa] at s1
  have s2 : w7.cell? ⟨pb, po + k * 2, none⟩ = some (.int .i64 j) := (World.cell?_of_block (a := ⟨pb, po + k * 2, none⟩) (hg7.block pb (Nat.lt_of_lt_of_le hpb H6.out.bel.size) (by intro e; injection e with e; omega))).trans p0
  have s3 : w7.cell? ⟨pb, po + k * 2 + 1, none⟩ = some ps.v := (World.cell?_of_block (a := ⟨pb, po + k * 2 + 1, none⟩) (hg7.block pb (Nat.lt_of_lt_of_le hpb H6.out.bel.size) (by intro e; injection e with e; omega))).trans p1
  have HSS := hide (And.intro s0 (And.intro s1 (And.intro s2 s3)))
  clear s0 s1 s2 s3 hP7 hg7 hsx p0 p1 b1 b1' b2 r0
  have t2 := H7.out.res.c4.2.2.1
  have f2 := H7.out.res.free 2
  have H8 := hide (show SB d w [.slice (some ⟨g, 0, none⟩) d.ss.length c, .slice none 0 0, .int .i64 0, .bool d.stp] (w7.setCell ⟨w.heap.size + 1, 2, none⟩ (.int .i64 0)) from ⟨H7.out.box.apart (by simp) _, H7.out.res.set 2 _, H7.out.bel.setCell (by simp) _⟩)
  have t3 := H8.out.res.c4.2.2.2
  have f3 := H8.out.res.free 3
  have H9 := hide (show SB d w [.slice (some ⟨g, 0, none⟩) d.ss.length c, .slice none 0 0, .int .i64 0, .bool true] ((w7.setCell ⟨w.heap.size + 1, 2, none⟩ (.int .i64 0)).setCell ⟨w.heap.size + 1, 3, none⟩ (.bool true)) from ⟨H8.out.box.apart (by simp) _, H8.out.res.set 3 _, H8.out.bel.setCell (by simp) _⟩)
  have HF := hide (HP7.out.fin H7.out.res (only_setRow (only_setCell (only_setCell (only_refl w7 (some (w.heap.size + 1))) (p := ⟨w.heap.size + 1, 2, none⟩) (.inl rfl) (.int .i64 0)) (p := ⟨w.heap.size + 1, 3, none⟩) (.inl rfl) (.bool true)) (.inl rfl) #[.slice (some ⟨g, 0, none⟩) d.ss.length c, .slice none 0 0, .int .i64 0, .bool true]) (by omega) (by rw [List.length_set]; exact HCC.out))
  go_wp2_with fail
  refine HR.out _ _ HSS.out ?_
  clear HR
  refine tail_done ?_
  go_wp2_with (first | (refine wpList_load_row rfl 25 (.tmp 2) rfl (w.heap.size + 1) rfl 25 _ (0, 0) _ H9.out.res Try.underlying25 rfl Try.size25 ?_) | (refine wpList_store_row rfl 25 (.tmp 2) (.tmp 35) rfl (w.heap.size + 1) #[.slice (some ⟨g, 0, none⟩) d.ss.length c, .slice none 0 0, .int .i64 0, .bool true] rfl rfl 25 _ H9.out.res Try.size25 rfl (one25 _ _ _ _ _ _ _ _) ?_))
  refine bodyPost_ret (v := .tuple #[.agg #[.slice (some ⟨g, 0, none⟩) d.ss.length c, .slice none 0 0, .int .i64 0, .bool true], .int .i64 40]) (results_cell_row_tmp rfl _ _ (w.heap.size + 1) 25 #[.slice (some ⟨g, 0, none⟩) d.ss.length c, .slice none 0 0, .int .i64 0, .bool true] (0, 0) _ (.int .i64 40) rfl rfl (setRow_heap _ _ _ _ _ _ H9.out.res) Try.underlying25 rfl Try.size25) rfl ?_
  rw [HX.out]
  refine ⟨⟨some ⟨g, 0, none⟩, cur.set j sx, c, none, [], 0, 0, true⟩, by simp [Dsk.v, HCL.out], ?_, ⟨HF.out.1, wrsIn_nil _, left_0⟩, HF.out.2⟩
  show (⟨secD (cur.set j sx), [], 0, true⟩ : Dk) = _
  rw [secD_set, HSX.out, HD.out]
  rfl

theorem sync_any (d : Dsk) (w : World) (hi : d.In n0 w) : Calls Try.prog 29 #[d.v] w (Ans n0 w d.d.sync) := by
  cases hr : d.d.runs with
  | false => exact sync_bad d w hi hr
  | true =>
    obtain ⟨_, _, _, _, _, hl1, _⟩ := runs_facts hr
    by_cases h1 : d.left = -1
    · exact sync_ok d w hi hr (by unfold Dsk.many; rw [if_pos h1])
    · obtain ⟨k, hk⟩ := Int.eq_ofNat_of_zero_le (show 0 ≤ d.left by omega)
      by_cases hkl : k < d.ps.length
      · exact sync_torn d w hi hr k hk hkl
      · exact sync_ok d w hi hr (by unfold Dsk.many; rw [if_neg h1, hk]; omega)
end Go.Proofs.Ytgigccgklahddaa
