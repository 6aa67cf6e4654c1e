
/- tear. -/
import Derived.Test.YtgigccgklahddaaPrf
namespace Go.Proofs.Ytgigccgklahddaa
open Go.RowKit
variable {n0 : Nat}

theorem tear_splice (a b : List UInt8) (ha : a.length = 128) : splice (bs b) 0 (bs (a.take 64)) = bs (a.take 64 ++ b.drop 64) := by
  unfold splice
  rw [List.take_zero, List.nil_append, bs_len, List.length_take, bs_app]
  congr 1
  simp only [bs, List.map_drop]
  congr 1
  omega

set_option maxRecDepth 10000 in
set_option maxHeartbeats 3200000 in
theorem tear_any (w : World) (g : Nat) (cur : List Sec) (rest : List Value) (n c : Nat) (j : Nat) (ps : Sec) (W : World) (hP : PF n0 w g cur rest W) (hn : cur.length = n) (hnc : n ≤ c) (hj : j < n) (hcj : ∀ h : j < cur.length, (cur[j]).l.length = 128) (hs : ps.In n0 w) (hl : ps.l.length = 128) :
    Calls Try.prog 56 #[.slice (some ⟨g, 0, none⟩) n c, .agg #[.int .i64 (j : Nat), ps.v]] W fun e w' => (∃ v, e = .returned v) ∧ ∃ s : Sec, s.l = ps.l.take 64 ++ ((secD cur).getD j []).drop 64 ∧ PF n0 w g (cur.set j s) rest w' ∧ W.grownBy w' (some g) := by
  subst hn
  have HP0 := hide hP
  have HP1 := hide (hP.below (below_new W (.cells (Wr.mk j ps).cs.toArray 77)))
  have HB1 := hide (Blk.new W 77 (Wr.mk j ps).cs)
  have HCJ := hide (hcj hj)
  have HGD := hide (show (secD cur).getD j [] = (cur[j]).l by rw [List.getD_eq_getElem?_getD, List.getElem?_eq_getElem (by rw [secD_len]; exact hj), secD_get]; rfl)
  have HSE := hide (show (cur[j]).In n0 (W.alloc (.cells (Wr.mk j ps).cs.toArray 77)) from HP1.out.in (List.getElem_mem hj))
  have HS := hide (sectorOf_any (cur[j]) _ HSE.out)
  have HL := hide hl
  have HSI := hide hs
  have e0 := HB1.out.c2.1
  have e1 := HB1.out.c2.2
  have cr := HP1.out.row.cell j
  rw [List.getElem?_append_left (by rw [secs_len]; exact hj), List.getElem?_eq_getElem (by rw [secs_len]; exact hj), secs_get] at cr
  clear hP hcj hs hl
  have hj' : (j : Int) < cur.length := by omega
  generalize cur[j] = sj at cr HS HSE HCJ HGD
  have HMIN := hide (show (bs (ps.l.take 64)).length = Nat.min ps.l.length 64 by rw [bs_len, List.length_take]; exact Nat.min_comm _ _)
  have HFIT := hide (show 0 + (bs (ps.l.take 64)).length ≤ (bs (padS sj.l)).length by rw [bs_len, bs_len, padS_len, List.length_take]; omega)
  go_enter Try.func56, Try.ntmps56
  go_wp2_with fail
  refine HS.out.mono ?_
  rintro e w1 ⟨rfl, hB, hb⟩
  have hB : Blk w1 (W.heap.size + 1) 5 (bs (padS sj.l)) := by have := hB; rwa [show (W.alloc (.cells (Wr.mk j ps).cs.toArray 77)).heap.size = W.heap.size + 1 from World.size_alloc _ _] at this
  have HB := hide hB
  have HP2 := hide (HP1.out.below hb)
  have HB2 := hide (HB1.out.below hb HB1.out.lt)
  have HSP := hide (HSI.out.below HP2.out.bel)
  have HBW := hide (show Below (W.heap.size + 1) (W.alloc (.cells (Wr.mk j ps).cs.toArray 77)) w1 from hb.mono (by simp))
  clear hB hb e0 e1 cr
  have e0 := HB2.out.c2.1
  have e1 := HB2.out.c2.2
  go_wp2_with fail
  refine wp_region_hoist (fun w' => w'.cell? ⟨W.heap.size, 0, none⟩ = some (.int .i64 j) ∧ w'.cell? ⟨W.heap.size, 1, none⟩ = some ps.v) [true, true, true, true, false] (by kernel_rfl) (by kernel_rfl) ⟨e0, e1⟩ ?_
  repeat (refine head_take (v := ?_) (yields_run (by rfl) ?_) ?_; rotate_left; (focus (rintro w' ⟨hw0, hw1⟩; go_simp <;> with_reducible rfl)); (simp only [Act.put, List.setIfInBounds_toArray, List.set_cons_zero, List.set_cons_succ]))
  refine head_skip (head_done ?_)
  repeat refine tail_skip ?_
  refine tail_step ?_
  intro R HR
  have HPOS := hide (show 0 < (bs (ps.l.take 64)).length → ∃ ad, ps.A = some ad ∧ ∀ k v, (bs (ps.l.take 64))[k]? = some v → w1.drew.cell? (ad.add k) = some v by
    intro hp
    obtain ⟨b, o, ea, hlt, hc⟩ := HSP.out.cels.at (k := 0) (by rw [bs_len, HL.out]; omega)
    refine ⟨_, ea, fun k v hv => ?_⟩
    have hk : k < (bs (ps.l.take 64)).length := (List.getElem?_eq_some_iff.1 hv).1
    rw [bs_len, List.length_take] at hk
    have hk2 : k < (bs ps.l).length := by rw [bs_len]; omega
    rw [Addr.add_mid]
    refine (hc k hk2).trans ?_
    rw [← hv, ← List.getElem?_eq_getElem hk2]
    simp only [bs, List.map_take]
    rw [List.getElem?_take_of_lt (by omega)])
  refine wpList_copy_splice rfl (.tmp 12) (.tmp 14) 35 35 rfl 5 Try.underlying35 Try.size5 (some ⟨W.heap.size + 1, 0, none⟩) ps.A 64 128 ps.l.length ps.cap rfl rfl (W.heap.size + 1) 0 (bs (padS sj.l)) 5 HB.out (bs (ps.l.take 64)) HMIN.out (fun h => ⟨rfl, HPOS.out h⟩) HFIT.out (bs_one _) (W.heap.size + 1) w1 ((Below.refl _ _).drew) (Nat.le_refl _) ?_
  intro w2 hb2 hbel2
  rw [tear_splice _ _ HL.out, padS_full HCJ.out] at hb2
  have HB3 : Hid (Blk w2 (W.heap.size + 1) 5 (bs (ps.l.take 64 ++ sj.l.drop 64))) := hb2
  have HK2 := hide (HBW.out.trans hbel2)
  have HX2 := hide (HB1.out.below HK2.out (by simp))
  have HOG := hide (only_setCell (g := g) (only_of_below ((below_new W (.cells (Wr.mk j ps).cs.toArray 77)).trans (HK2.out.mono (by omega))) (some g)) (p := ⟨g, j, none⟩) (.inl rfl) (.slice (some ⟨W.heap.size + 1, 0, none⟩) 128 128))
  have HP3 := hide (HP0.out.below ((below_new W (.cells (Wr.mk j ps).cs.toArray 77)).trans (HK2.out.mono (by omega))))
  refine HR.out _ _ HX2.out.c2 ?_
  clear HR hb2 hbel2 e0 e1
  refine tail_done ?_
  have e0 := HX2.out.c2.1
  have hcu : j < cur.length := hj
  have cr := HP3.out.row.cell j
  rw [List.getElem?_append_left (by rw [secs_len]; exact hcu), List.getElem?_eq_getElem (by rw [secs_len]; exact hcu), secs_get] at cr
  have fr := HP3.out.row.free j
  have HLT := hide (show (ps.l.take 64 ++ sj.l.drop 64).length = 128 by rw [List.length_append, List.length_take, List.length_drop, HL.out, HCJ.out]; rfl)
  have HP4 := hide (HP3.out.put hcu (Sec.Own.of HB3.out HLT.out))
  generalize (cur[j]'hcu) = sk at cr
  go_wp2_with fail
  go_end0
  simp only [Sec.v, HLT.out] at HP4
  refine ⟨⟨_, rfl⟩, _, ?_, HP4.out, HOG.out⟩
  have := HGD.out
  rw [List.getD_eq_getElem?_getD] at this
  rw [this]
end Go.Proofs.Ytgigccgklahddaa
