/- Open of the reference. -/
import Derived.Test.YtgigccgklahddaaRrs
import Derived.Test.YtgigccgklahddaaJsm
namespace Go.Proofs.Ytgigccgklahddaa
open Go.RowKit
variable {n0 : Nat}

theorem recs_few {l : List Sec} {ss : List (List UInt8)} (h : secD l = recordsB ss) (hn : ss.length ≤ 4096) : l.length ≤ 4096 := by
  have h1 := congrArg List.length h
  rw [secD_len] at h1
  have h2 := recsFrom_len (ss := ss) ss.length 0 0
  unfold recordsB at h1
  omega
set_option maxRecDepth 100000 in
set_option maxHeartbeats 6400000 in
theorem ropen_any (d : Dsk) (w : World) (hi : d.In n0 w) : Calls Try.prog 13 #[d.v] w (JAns n0 w d.d.jopen) := by
  have HI := hide hi
  have HB := hide ((Blk.new w 25 d.cs).alloc (.cells #[.slice none 0 0, .int .i64 0, .int .i64 0] 29))
  have HR := hide (Blk.new (w.alloc (.cells d.cs.toArray 25)) 29 [.slice none 0 0, .int .i64 0, .int .i64 0])
  rw [World.size_alloc] at HR
  have HW := hide (show Below w.heap.size w ((w.alloc (.cells d.cs.toArray 25)).alloc (.cells #[.slice none 0 0, .int .i64 0, .int .i64 0] 29)) from (below_new w _).alloc (by simp) _)
  have HC := hide (rcheck_any d _ (hi.below HW.out))
  obtain ⟨c0, c1, c2, c3⟩ := HB.out.c4
  have hle1 : d.ss.length ≤ d.sc := hi.sec.le
  have hcap1 : d.sc ≤ 9223372036854775807 := hi.sec.top
  have hle2 : d.ps.length ≤ d.pc := hi.pen.le
  have hcap2 : d.pc ≤ 9223372036854775807 := hi.pen.top
  have hpl : d.d.pen.length = d.ps.length := wrD_len _
  clear hi
  by_cases hv : d.d.valid = true
  · rw [show chk d.d = 0 by simp [chk, hv]] at HC
    by_cases hs : d.stp = true
    · have HX := hide (show d.d.jopen = (Jk.zero, 40) by
        have := cdk_stp hv hs
        unfold Dk.jopen
        rw [this, if_neg (by decide)])
      have HS := hide hs
      clear hv hs
      go_enter Try.func13, Try.ntmps13
      go_wp2_with fail
      refine HC.out.mono ?_
      rintro e w1 ⟨rfl, hb⟩
      have HF := hide (below_one HW.out hb)
      have HR1 := hide (HR.out.below hb HR.out.lt)
      replace c3 := (hb.cell (p := ⟨w.heap.size, 3, none⟩) HB.out.lt).trans c3
      rw [HS.out] at c3
      clear hb HC
      go_wp2_with (refine wpList_store_row rfl 29 (.tmp 2) (.tmp 14) rfl (w.heap.size + 1) #[.slice none 0 0, .int .i64 0, .int .i64 0] rfl rfl 29 _ HR1.out Try.size29 rfl (one29 _ _ _ _ _) ?_)
      exact bodyPost_ret (v := .tuple #[Jr.zero.v, .int .i64 40]) (results_cell_row_tmp rfl _ _ (w.heap.size + 1) 29 #[.slice none 0 0, .int .i64 0, .int .i64 0] (0, 0) _ (.int .i64 40) rfl rfl (setRow_heap _ _ _ _ _ _ HR1.out) Try.underlying29 rfl Try.size29) rfl (JAns.zero HX.out (below_setRow HF.out (by omega) _))
    · replace hs : d.stp = false := by simpa using hs
      have HS := hide hs
      by_cases hp : d.ps.length = 0
      · have hpn : d.d.pen = [] := List.eq_nil_of_length_eq_zero (by omega)
        have HX := hide (show d.d.jopen = (⟨recordsB d.d.sec, d.d.sec.length, (recordsB d.d.sec).length⟩, 0) by
          unfold Dk.jopen
          rw [if_pos (cdk_ok hv hs hpn)])
        have hv2 := hv
        rw [valid_iff] at hv2
        simp only [Bool.and_eq_true] at hv2
        obtain ⟨⟨hn1, hn2⟩, hsl⟩ := validSec_iff.1 hv2.1.1
        rw [secD_len] at hn1 hn2
        have HSL := hide (show ∀ i (h : i < d.ss.length), (d.ss[i]).l.length = 128 from fun i h => by
          have := hsl i (by rw [secD_len]; exact h)
          rw [secD_get] at this
          exact this)
        have d1 : decide ((0 : Int) < (d.ps.length : Int)) = false := decide_eq_false (by omega)
        have d2 : decide (0 < d.ps.length) = false := decide_eq_false (by omega)
        have HDL := hide (show d.d.sec.length = d.ss.length from secD_len _)
        have HN2 := hide hn2
        clear hv hv2 hsl hpn hs hp hpl
        go_enter Try.func13, Try.ntmps13
        go_wp2_with fail
        refine HC.out.mono ?_
        rintro e w1 ⟨rfl, hb⟩
        have HF := hide (below_one HW.out hb)
        have HB1 := hide (HB.out.below hb HB.out.lt)
        have HR1 := hide (HR.out.below hb HR.out.lt)
        clear hb HC c0 c1 c2 c3
        obtain ⟨c0, c1, c2, c3⟩ := HB1.out.c4
        have HRR := hide (rrecords_any d.sa d.ss d.sc w1 (HI.out.sec.below HF.out) HSL.out hn2)
        rw [HS.out] at c3
        clear c2
        go_wp2_with fail
        refine HRR.out.mono ?_
        rintro e w2 ⟨B, c, l, rfl, hsd, hri⟩
        have HRI := hide hri
        have HSD := hide hsd
        have HLF := hide (recs_few hsd (by rw [secD_len]; exact HN2.out))
        have HF2 := hide (below_one HF.out hri.bel)
        have HR2 := hide (HR1.out.below hri.bel HR1.out.lt)
        have c0' := (hri.bel.cell (p := ⟨w.heap.size, 0, none⟩) HB1.out.lt).trans c0
        have hcl : l.length ≤ c := (own_caps hri.own).1
        have hcl2 : c ≤ 9223372036854775807 := (own_caps hri.own).2
        clear hsd hri HRR c0 c1 c3
        go_wp2_with (refine wpList_store_row rfl 29 (.tmp 2) (.tmp 29) rfl (w.heap.size + 1) #[.slice B l.length c, .int .i64 d.ss.length, .int .i64 l.length] rfl rfl 29 _ HR2.out Try.size29 rfl (one29 _ _ _ _ _) ?_)
        refine bodyPost_ret (v := .tuple #[.agg #[.slice B l.length c, .int .i64 d.ss.length, .int .i64 l.length], .int .i64 0]) (results_cell_row_tmp rfl _ _ (w.heap.size + 1) 29 #[.slice B l.length c, .int .i64 d.ss.length, .int .i64 l.length] (0, 0) _ (.int .i64 0) rfl rfl (setRow_heap _ _ _ _ _ _ HR2.out) Try.underlying29 rfl Try.size29) rfl ?_
        rw [HX.out]
        have hg : w2.grownBy (w2.setRow (w.heap.size + 1) #[.slice B l.length c, .int .i64 d.ss.length, .int .i64 l.length]) (some (w.heap.size + 1)) := only_setRow (only_refl _ _) (.inl rfl) _
        refine ⟨⟨B, l, c, d.ss.length, l.length⟩, rfl, ?_, ⟨⟨?_, fun s hs => ((HRI.out.each s hs).1.only hg HR2.out (by omega)).in, hcl, hcl2, ?_⟩, ⟨by simp only; omega, by have := HN2.out; simp only; omega⟩, ⟨by simp only; omega, by simp only; omega⟩, fun s hs => by have := (HRI.out.each s hs).2; omega, by have := HLF.out; simp only; omega⟩, below_setRow HF2.out (by omega) _⟩
        · show (⟨secD l, (d.ss.length : Int), (l.length : Int)⟩ : Jk) = ⟨recordsB d.d.sec, d.d.sec.length, (recordsB d.d.sec).length⟩
          rw [← show secD l = recordsB d.d.sec from HSD.out, HDL.out, secD_len]
        · show Cels n0 _ B (secs l)
          intro hne
          obtain ⟨g, c', he, _, _⟩ := HRI.out.own.form (by
            rcases Nat.eq_zero_or_pos l.length with h | h
            · rw [List.eq_nil_of_length_eq_zero h] at hne
              exact absurd rfl hne
            · exact h)
          obtain ⟨rfl, rfl⟩ := slice_inj he
          obtain ⟨cs, hcs⟩ := own_blk HRI.out.own
          exact (hcs.only hg (hcs.ne HR2.out (by omega))).cels (by omega) hne
        · intro e
          have := HRI.out.own
          simp only at e
          subst e
          rcases this.2 with ⟨h, _⟩ | ⟨g, cap', cur, hv, _⟩
          · injection h
          · cases hv
      · have HX := hide (show d.d.jopen = (Jk.zero, 1) by
          have := cdk_pen hv hs (fun e => hp (by rw [← hpl, e]; rfl))
          unfold Dk.jopen
          rw [this, if_neg (by decide)])
        have d1 : decide ((0 : Int) < (d.ps.length : Int)) = true := decide_eq_true (by omega)
        have d2 : decide (0 < d.ps.length) = true := decide_eq_true (by omega)
        have d3 : 0 < d.ps.length := by omega
        clear hv hp hs
        go_enter Try.func13, Try.ntmps13
        go_wp2_with fail
        refine HC.out.mono ?_
        rintro e w1 ⟨rfl, hb⟩
        have HF := hide (below_one HW.out hb)
        have HR1 := hide (HR.out.below hb HR.out.lt)
        replace c3 := (hb.cell (p := ⟨w.heap.size, 3, none⟩) HB.out.lt).trans c3
        rw [HS.out] at c3
        replace c1 := (hb.cell (p := ⟨w.heap.size, 1, none⟩) HB.out.lt).trans c1
        clear hb HC
        go_wp2_with (refine wpList_store_row rfl 29 (.tmp 2) (.tmp 19) rfl (w.heap.size + 1) #[.slice none 0 0, .int .i64 0, .int .i64 0] rfl rfl 29 _ HR1.out Try.size29 rfl (one29 _ _ _ _ _) ?_)
        exact bodyPost_ret (v := .tuple #[Jr.zero.v, .int .i64 1]) (results_cell_row_tmp rfl _ _ (w.heap.size + 1) 29 #[.slice none 0 0, .int .i64 0, .int .i64 0] (0, 0) _ (.int .i64 1) rfl rfl (setRow_heap _ _ _ _ _ _ HR1.out) Try.underlying29 rfl Try.size29) rfl (JAns.zero HX.out (below_setRow HF.out (by omega) _))
  · have hv' : d.d.valid = false := by simpa using hv
    rw [show chk d.d = 40 by simp [chk, hv']] at HC
    have HX := hide (show d.d.jopen = (Jk.zero, 40) by
      unfold Dk.jopen
      rw [cdk_no hv', if_neg (by decide)])
    clear hv hv'
    go_enter Try.func13, Try.ntmps13
    go_wp2_with fail
    refine HC.out.mono ?_
    rintro e w1 ⟨rfl, hb⟩
    have HF := hide (below_one HW.out hb)
    have HR1 := hide (HR.out.below hb HR.out.lt)
    clear hb HC
    go_wp2_with (refine wpList_store_row rfl 29 (.tmp 2) (.tmp 10) rfl (w.heap.size + 1) #[.slice none 0 0, .int .i64 0, .int .i64 0] rfl rfl 29 _ HR1.out Try.size29 rfl (one29 _ _ _ _ _) ?_)
    exact bodyPost_ret (v := .tuple #[Jr.zero.v, .int .i64 40]) (results_cell_row_tmp rfl _ _ (w.heap.size + 1) 29 #[.slice none 0 0, .int .i64 0, .int .i64 0] (0, 0) _ (.int .i64 40) rfl rfl (setRow_heap _ _ _ _ _ _ HR1.out) Try.underlying29 rfl Try.size29) rfl (JAns.zero HX.out (below_setRow HF.out (by omega) _))
end Go.Proofs.Ytgigccgklahddaa
