
/- Clone, performed, tear. -/
import Derived.Test.YtgigccgklahddaaPer
import Derived.WalkSpells
namespace Go.Proofs.Ytgigccgklahddaa
open Go.RowKit
variable {n0 : Nat}

set_option maxRecDepth 10000 in
set_option maxHeartbeats 800000 in
theorem clone_any (A : Option Addr) (l : List Sec) (cap : Nat) (w : World) (hi : SecsIn n0 A l cap w) (hne : l ≠ []) (hl : l.length ≤ 4096) :
    Calls Try.prog 68 #[.slice A l.length cap] w fun e w' => ∃ g c, e = .returned (.slice (some ⟨g, 0, none⟩) l.length c) ∧ w'.ownsRow w.heap.size 35 1 (.slice (some ⟨g, 0, none⟩) l.length c) l.length (secs l) ∧ Below w.heap.size w w' := by
  obtain ⟨b, o, rfl, hb, hcell0⟩ := hi.at (k := 0) (List.length_pos_iff.2 hne)
  have h0 : 0 < l.length := List.length_pos_iff.2 hne
  obtain ⟨i35, HI35⟩ := hinfo35
  have HI35 := hide HI35
  have HO := hide (own_empty w w.heap.size 35 1 (Nat.le_refl _))
  have HN := hide ((hi.cels.below (below_new w (.cells #[] 35))).opt)
  have HL := hide (show (secs l).length = l.length * 1 by rw [secs_len, Nat.mul_one])
  have hz : w.heap.size ≤ (w.alloc (.cells #[] 35)).heap.size := by simp
  have hnl := fun w' => @Lib.run_eql_slice_nil Try.prog w' 22 35 (some ⟨b, o, none⟩) l.length cap 0 0 Try.underlying22
  clear hcell0
  clear hi hne
  go_enter Try.func68, Try.ntmps68
  go_wp2_with (at_builtin; refine wpList_app rfl (.tmp 5) (.tmp 6) 22 rfl w.heap.size 35 i35 _ 1 24 Try.underlying22 HI35.out rfl (by omega) _ 0 [] rfl HO.out (some ⟨b, o, none⟩) l.length cap (secs l) rfl (fun h => by cases h) HL.out HN.out (secs_one _) (by unfold maxLen; omega) (by omega) hz ?_; intro A2 cap2 w2 hown hg; rw [Nat.zero_add, List.nil_append] at hown; obtain ⟨g, c', he, _, _⟩ := hown.form h0; obtain ⟨rfl, rfl⟩ := slice_inj he; have HO2 := hide hown; have HK2 := hide (below_app (B := w.heap.size) (below_new w (.cells #[] 35)) HO.out hg (Nat.le_refl _) hz); clear hown hg he)
  go_ret
  exact ⟨g, _, rfl, HO2.out, HK2.out⟩

/-- A row of sectors under way: some are those of the disk, some are the call's own. -/
structure PF (n0 : Nat) (w : World) (g : Nat) (cur : List Sec) (rest : List Value) (W : World) : Prop where
  each : ∀ s ∈ cur, s.In n0 w ∨ s.Own W
  row : Blk W g 35 (secs cur ++ rest)
  bel : Below w.heap.size w W
  ge : w.heap.size ≤ g
theorem PF.below {w : World} {g : Nat} {cur : List Sec} {rest : List Value} {W W' : World} (h : PF n0 w g cur rest W) (hb : Below W.heap.size W W') : PF n0 w g cur rest W' :=
  ⟨fun s hs => (h.each s hs).imp_right fun k => k.below hb, h.row.below hb h.row.lt, below_one h.bel hb, h.ge⟩
theorem PF.in {w : World} {g : Nat} {cur : List Sec} {rest : List Value} {W : World} (h : PF n0 w g cur rest W) {s : Sec} (hs : s ∈ cur) : s.In n0 W := by
  rcases h.each s hs with k | k
  · exact k.below h.bel
  · exact k.in
theorem secs_set (l : List Sec) (i : Nat) (s : Sec) : secs (l.set i s) = (secs l).set i s.v := by simp [secs, List.map_set]
theorem secD_set (l : List Sec) (i : Nat) (s : Sec) : secD (l.set i s) = (secD l).set i s.l := by simp [secD, List.map_set]
theorem PF.put {w : World} {g : Nat} {cur : List Sec} {rest : List Value} {W : World} (h : PF n0 w g cur rest W) {j : Nat} (hj : j < cur.length) {s : Sec} (hs : s.Own W) :
    PF n0 w g (cur.set j s) rest (W.setCell ⟨g, j, none⟩ s.v) := by
  refine ⟨fun t ht => ?_, ?_, h.bel.setCell h.ge _, h.ge⟩
  · rcases List.mem_or_eq_of_mem_set ht with ht | rfl
    · exact (h.each t ht).imp_right fun k => k.set h.row (by omega) _ _
    · exact .inr (hs.set h.row (by omega) _ _)
  · have := h.row.set j s.v
    rwa [List.set_append_left _ _ (by rw [secs_len]; exact hj), ← secs_set] at this
theorem perf_take {s : List (List UInt8)} {p : List (Int × List UInt8)} {k : Nat} (h : k < p.length) : perf s (p.take (k + 1)) = (perf s (p.take k)).set (p[k]).1.toNat (p[k]).2 := by
  unfold perf
  rw [List.take_succ_eq_append_getElem h, List.foldl_append]
  rfl
theorem perf_len (s : List (List UInt8)) (p : List (Int × List UInt8)) : (perf s p).length = s.length := by
  unfold perf
  induction p generalizing s with
  | nil => rfl
  | cons x p ih => rw [List.foldl_cons, ih, List.length_set]

set_option maxRecDepth 10000 in
set_option maxHeartbeats 3200000 in
theorem performed_any (A : Option Addr) (l : List Sec) (cap : Nat) (A2 : Option Addr) (qs : List Wr) (cap2 : Nat) (w0 w : World) (hw : Below w0.heap.size w0 w) (hi : SecsIn n0 A l cap w0) (hq : WrsIn n0 A2 qs cap2 w0) (hne : l ≠ []) (hl : l.length ≤ 4096)
    (hv : ∀ k (h : k < qs.length), 0 ≤ (qs[k]).pos ∧ (qs[k]).pos < l.length ∧ (qs[k]).s.l.length = 128) :
    Calls Try.prog 55 #[.slice A l.length cap, .slice A2 qs.length cap2] w fun e w' => ∃ g c cur rest, e = .returned (.slice (some ⟨g, 0, none⟩) l.length c) ∧ cur.length = l.length ∧ l.length ≤ c ∧ c ≤ 9223372036854775807 ∧ PF n0 w0 g cur rest w' ∧ secD cur = perf (secD l) (wrD qs) ∧ Below w.heap.size w w' := by
  have HW := hide hw
  have HI := hide hi
  have HQ := hide hq
  have HV := hide hv
  have hq1 := hq.le
  have hq2 := hq.top
  have HC := hide (clone_any A l cap w (hi.below hw) hne hl)
  have HWL := hide (wrD_len qs)
  clear hi hq hv hne hw
  go_enter Try.func55, Try.ntmps55
  go_wp2_with fail
  refine HC.out.mono ?_
  rintro e w1 ⟨g, c, rfl, hown, hb⟩
  obtain ⟨rest, hrow⟩ := own_blk hown
  have HCP := hide (own_caps hown)
  have HGE := hide (hown.lt g rfl).1
  have HP0 : Hid (PF n0 w0 g l rest w1 ∧ secD l = perf (secD l) ((wrD qs).take 0)) := hide ⟨⟨fun s hs => .inl (HI.out.each s hs), hrow, below_one HW.out hb, Nat.le_trans HW.out.size HGE.out⟩, rfl⟩
  have HB0 := hide hb
  clear hown hrow hb
  go_wp2_with fail
  go_loopw [12, 7] (fun i _ wr => ∃ (k : Nat) (cur : List Sec), k ≤ qs.length ∧ i = .int .i64 k ∧ Hid (cur.length = l.length) ∧ Hid (PF n0 w0 g cur rest wr ∧ secD cur = perf (secD l) ((wrD qs).take k)) ∧ Hid (Below w.heap.size w wr)) (fun i _ _ => qs.length - (intOf i).toNat)
  case atStart => exact ⟨0, l, Nat.zero_le _, rfl, hide rfl, HP0, HB0⟩
  case round =>
    obtain ⟨k, cur, hk, rfl, hcl, hP, hBW⟩ := hrel
    clear HP0 HB0
    by_cases hlt : k < qs.length
    · obtain ⟨b, o, rfl, hbb, d0, d1⟩ := (HQ.out.below hP.out.1.bel).at hlt
      obtain ⟨v1, v2, v3⟩ := HV.out k hlt
      have HN := hide (show ∀ s : Sec, s.l = (qs[k]).s.l → secD (cur.set (qs[k]).pos.toNat s) = perf (secD l) ((wrD qs).take (k + 1)) from fun s hs => by
        rw [secD_set, hP.out.2, perf_take (by rw [HWL.out]; exact hlt), wrD_get, hs]
        rfl)
      have HSI := hide ((HQ.out.each _ (List.getElem_mem hlt)).1)
      generalize hp : qs[k] = p at d0 d1 v1 v2 v3 HN HSI
      clear hp
      obtain ⟨pos, ps⟩ := p
      simp only at d0 d1 v1 v2 v3 HN HSI
      obtain ⟨j, rfl⟩ := Int.eq_ofNat_of_zero_le v1
      rw [Int.toNat_natCast] at HN
      have HP1 := hide (hP.out.1.below (below_new wr (.cells (Wr.mk j ps).cs.toArray 77)))
      have HB1 := hide (Blk.new wr 77 (Wr.mk j ps).cs)
      have HS := hide (fun W (hW : Below wr.heap.size wr W) => sectorOf_any ps W ((HSI.out.below hP.out.1.bel).below hW))
      have HV3 := hide v3
      have hjl : j < l.length := by omega
      have e0 := HB1.out.c2.1
      have e1 := HB1.out.c2.2
      clear v3
      go_wp2_with fail
      refine wp_region_hoist (fun w' => w'.cell? ⟨wr.heap.size, 0, none⟩ = some (.int .i64 j) ∧ w'.cell? ⟨wr.heap.size, 1, none⟩ = some ps.v) [true, true, true, true, true, false, false, false] (by kernel_rfl) (by kernel_rfl) ⟨e0, e1⟩ ?_
      repeat (refine head_take (v := ?_) (yields_run (by rfl) ?_) ?_; rotate_left; (focus (rintro w' ⟨hw0, hw1⟩; go_simp <;> with_reducible rfl)); (simp only [Act.put, List.setIfInBounds_toArray, List.set_cons_zero, List.set_cons_succ]))
      refine head_skip (head_skip (head_skip (head_done ?_)))
      repeat refine tail_skip ?_
      refine tail_step ?_
      intro R HR
      go_wp2_with fail
      refine (HS.out _ ((below_new wr (.cells (Wr.mk j ps).cs.toArray 77)).drew)).mono ?_
      rintro e w2 ⟨rfl, hB, hb⟩
      have hb := below_ofdrew hb
      have hB : Blk w2 (wr.heap.size + 1) 5 (bs (padS ps.l)) := by have := hB; rwa [show (wr.alloc (.cells (Wr.mk j ps).cs.toArray 77)).drew.heap.size = wr.heap.size + 1 from World.size_alloc _ _] at this
      have HP2 := hide (HP1.out.below hb)
      have HBN := hide (((hBW.out.alloc hBW.out.size (.cells (Wr.mk j ps).cs.toArray 77)).trans (hb.mono (by have := hBW.out.size; simp; omega))).setCell (p := ⟨g, j, none⟩) HGE.out (.slice (some ⟨wr.heap.size + 1, 0, none⟩) 128 128))
      have HB2 := hide (HB1.out.below hb HB1.out.lt)
      have HOS := hide (Sec.Own.of hB (padS_len _))
      have HP3 := hide (HP2.out.put (j := j) (by rw [hcl.out]; exact hjl) HOS.out)
      have HB3 := hide (HB2.out.apart (p := ⟨g, j, none⟩) (HB2.out.ne HP2.out.row (by omega)) (Sec.v ⟨some ⟨wr.heap.size + 1, 0, none⟩, padS ps.l, 128⟩))
      have hcj : j < cur.length := by rw [hcl.out]; exact hjl
      have cr := HP2.out.row.cell j
      rw [List.getElem?_append_left (by rw [secs_len]; exact hcj), List.getElem?_eq_getElem (by rw [secs_len]; exact hcj), secs_get] at cr
      have fr := HP2.out.row.free j
      have HNN := hide (HN.out ⟨some ⟨wr.heap.size + 1, 0, none⟩, padS ps.l, 128⟩ (padS_full HV3.out))
      have HPL := hide (show (padS ps.l).length = 128 from padS_len _)
      generalize (cur[j]'hcj) = sj at cr
      clear hB hb e0 e1 hcj
      go_wp2_with fail
      refine HR.out _ _ HB2.out.c2 ?_
      clear HR
      refine tail_step ?_
      intro R HR
      go_wp2_with fail
      refine HR.out _ _ HB2.out.c2 ?_
      clear HR
      refine tail_step ?_
      intro R HR
      go_wp2_with fail
      simp only [Sec.v, HPL.out] at HP3 HB3
      refine HR.out _ _ HB3.out.c2 ?_
      clear HR
      refine tail_done ?_
      go_wp2_with fail
      go_roundw
      case rel => exact ⟨k + 1, _, by omega, by go_num, hide (by rw [List.length_set]; exact hcl.out), hide ⟨HP3.out, HNN.out⟩, HBN⟩
      case measure => simp [intOf]; omega
    · obtain rfl : k = qs.length := by omega
      have HF := hide hP.out.2
      rw [List.take_of_length_le (by rw [HWL.out]; exact Nat.le_refl _)] at HF
      go_wp2_with fail
      go_ret
      exact ⟨g, c, cur, rest, rfl, hcl.out, HCP.out.1, HCP.out.2, hP.out.1, HF.out, hBW.out⟩
end Go.Proofs.Ytgigccgklahddaa
