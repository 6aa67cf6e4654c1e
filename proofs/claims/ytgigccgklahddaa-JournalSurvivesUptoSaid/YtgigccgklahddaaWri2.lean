
/- Write of the program. -/
import Derived.Test.YtgigccgklahddaaWri
namespace Go.Proofs.Ytgigccgklahddaa
open Go.RowKit
variable {n0 : Nat}

theorem has_d {d : Dsk} {i : Int} {b : Bool} (h : d.d.has i = b) (w : World) : Calls Try.prog 52 #[d.v, .int .i64 i] w fun e w' => e = .returned (.bool b) ∧ Below w.heap.size w w' := by
  rw [has_eq] at h
  exact has_is _ _ _ _ _ _ _ _ _ h w
/-- A write more. -/
theorem wrs_more (l : List Wr) (i : Int) (B : Nat) (b : List UInt8) (hb : b.length = 128) : wrs (l ++ [⟨i, ⟨some ⟨B, 0, none⟩, b, 128⟩⟩]) = wrs l ++ [.int .i64 i, .slice (some ⟨B, 0, none⟩) 128 128] := by rw [wrs_app]; simp [wrs, Wr.cs, hb]
theorem WrsIn.more {w0 w : World} {A A' : Option Addr} {l : List Wr} {c cap B : Nat} {i : Int} {b : List UInt8} (h : WrsIn n0 A l c w0) (hk : Below w0.heap.size w0 w) (hi : -9223372036854775808 ≤ i ∧ i ≤ 9223372036854775807) (hB : Blk w B 5 (bs b)) (hb : b.length = 128)
    (hc : Cels n0 w A' (wrs l ++ [.int .i64 i, .slice (some ⟨B, 0, none⟩) 128 128])) (hA : A' ≠ none) (hcap : l.length + 1 ≤ cap ∧ cap ≤ 9223372036854775807) :
    WrsIn n0 A' (l ++ [⟨i, ⟨some ⟨B, 0, none⟩, b, 128⟩⟩]) cap w := by
  refine ⟨by rw [wrs_more _ _ _ _ hb]; exact hc, fun p hp => ?_, by rw [List.length_append]; simp; omega, hcap.2, fun h => absurd h hA⟩
  rcases List.mem_append.1 hp with hp | hp
  · exact ⟨(h.each p hp).1.below hk, (h.each p hp).2⟩
  · obtain rfl : p = _ := by simpa using hp
    exact ⟨(Sec.Own.of hB hb).in, hi⟩

set_option maxRecDepth 10000 in
set_option maxHeartbeats 3200000 in
theorem write_any (d : Dsk) (i : Int) (b : Sec) (w : World) (hi : d.In n0 w) (hb0 : b.In n0 w) (hri : -9223372036854775808 ≤ i ∧ i ≤ 9223372036854775807) :
    Calls Try.prog 28 #[d.v, .int .i64 i, b.v] w (Ans n0 w (d.d.write i b.l)) := by
  have HI := hide hi
  have HI0 := hide hb0
  have HRI := hide hri
  have HT := hide (two_below d w)
  have HB := hide (two_boxes d w)
  clear hi hb0 hri
  cases hr : d.d.runs with
  | false =>
    have HC := hide (runs_is (two d w) hr (HI.out.below HT.out))
    have HX := hide (show d.d.write i b.l = (Dk.zero, 40) by simp [Dk.write, hr])
    clear hr
    go_enter Try.func28, Try.ntmps28
    go_wp2_with fail
    refine HC.out.mono ?_
    rintro e w1 ⟨rfl, hb⟩
    have HK := hide (show Below w.heap.size w w1 from HT.out.trans (hb.mono HT.out.size))
    have HR := hide (HB.out.2.below hb HB.out.2.lt)
    clear hb
    go_wp2_with (refine wpList_store_row rfl 25 (.tmp 6) (.tmp 19) rfl (w.heap.size + 1) #[.slice none 0 0, .slice none 0 0, .int .i64 0, .bool false] rfl rfl 25 _ HR.out Try.size25 rfl (one25 _ _ _ _ _ _ _ _) ?_)
    exact bodyPost_ret (v := .tuple #[Dsk.zero.v, .int .i64 40]) (results_cell_row_tmp rfl _ _ (w.heap.size + 1) 25 #[.slice none 0 0, .slice none 0 0, .int .i64 0, .bool false] (0, 0) _ (.int .i64 40) rfl rfl (setRow_heap _ _ _ _ _ _ HR.out) Try.underlying25 rfl Try.size25) rfl (Ans.zero HX.out (below_setRow HK.out (by omega) _))
  | true =>
    have HC := hide (runs_is (two d w) hr (HI.out.below HT.out))
    cases hh : d.d.has i with
    | false =>
      have HX := hide (show d.d.write i b.l = (Dk.zero, 40) by simp [Dk.write, hr, hh])
      have HH := hide (fun W => has_d hh W)
      clear hr hh
      go_enter Try.func28, Try.ntmps28
      go_wp2_with fail
      refine HC.out.mono ?_
      rintro e w1 ⟨rfl, hb⟩
      have HK := hide (show Below w.heap.size w w1 from HT.out.trans (hb.mono HT.out.size))
      have HA := hide (HB.out.1.below hb HB.out.1.lt)
      have HR := hide (HB.out.2.below hb HB.out.2.lt)
      clear hb
      obtain ⟨c0, c1, c2, c3⟩ := HA.out.c4
      go_wp2_with fail
      refine (HH.out _).mono ?_
      rintro e w2 ⟨rfl, hb⟩
      have HK2 := hide (below_one HK.out hb)
      have HR2 := hide (HR.out.below hb HR.out.lt)
      clear hb
      go_wp2_with (refine wpList_store_row rfl 25 (.tmp 6) (.tmp 19) rfl (w.heap.size + 1) #[.slice none 0 0, .slice none 0 0, .int .i64 0, .bool false] rfl rfl 25 _ HR2.out Try.size25 rfl (one25 _ _ _ _ _ _ _ _) ?_)
      exact bodyPost_ret (v := .tuple #[Dsk.zero.v, .int .i64 40]) (results_cell_row_tmp rfl _ _ (w.heap.size + 1) 25 #[.slice none 0 0, .slice none 0 0, .int .i64 0, .bool false] (0, 0) _ (.int .i64 40) rfl rfl (setRow_heap _ _ _ _ _ _ HR2.out) Try.underlying25 rfl Try.size25) rfl (Ans.zero HX.out (below_setRow HK2.out (by omega) _))
    | true =>
      have HH := hide (fun W => has_d hh W)
      by_cases h1 : 128 < b.l.length
      · have HX := hide (show d.d.write i b.l = (Dk.zero, 1) by simp [Dk.write, hr, hh, h1])
        have h1' : (128 : Int) < b.l.length := by omega
        clear hr hh
        go_enter Try.func28, Try.ntmps28
        go_wp2_with fail
        refine HC.out.mono ?_
        rintro e w1 ⟨rfl, hb⟩
        have HK := hide (show Below w.heap.size w w1 from HT.out.trans (hb.mono HT.out.size))
        have HA := hide (HB.out.1.below hb HB.out.1.lt)
        have HR := hide (HB.out.2.below hb HB.out.2.lt)
        clear hb
        obtain ⟨c0, c1, c2, c3⟩ := HA.out.c4
        go_wp2_with fail
        refine (HH.out _).mono ?_
        rintro e w2 ⟨rfl, hb⟩
        have HK2 := hide (below_one HK.out hb)
        have HR2 := hide (HR.out.below hb HR.out.lt)
        clear hb c0 c1 c2 c3
        go_wp2_with (refine wpList_store_row rfl 25 (.tmp 6) (.tmp 24) rfl (w.heap.size + 1) #[.slice none 0 0, .slice none 0 0, .int .i64 0, .bool false] rfl rfl 25 _ HR2.out Try.size25 rfl (one25 _ _ _ _ _ _ _ _) ?_)
        exact bodyPost_ret (v := .tuple #[Dsk.zero.v, .int .i64 1]) (results_cell_row_tmp rfl _ _ (w.heap.size + 1) 25 #[.slice none 0 0, .slice none 0 0, .int .i64 0, .bool false] (0, 0) _ (.int .i64 1) rfl rfl (setRow_heap _ _ _ _ _ _ HR2.out) Try.underlying25 rfl Try.size25) rfl (Ans.zero HX.out (below_setRow HK2.out (by omega) _))
      · have h1' : (b.l.length : Int) ≤ 128 := by omega
        have HPL := hide (show d.d.pen.length = d.ps.length from wrD_len d.ps)
        by_cases h2 : d.ps.length = 4096
        · have HX := hide (show d.d.write i b.l = (Dk.zero, 2) by simp [Dk.write, hr, hh, h1, HPL.out, h2])
          have h2' : ((d.ps.length : Int) == 4096) = true := by simp; omega
          clear hr hh h2
          go_enter Try.func28, Try.ntmps28
          go_wp2_with fail
          refine HC.out.mono ?_
          rintro e w1 ⟨rfl, hb⟩
          have HK := hide (show Below w.heap.size w w1 from HT.out.trans (hb.mono HT.out.size))
          have HA := hide (HB.out.1.below hb HB.out.1.lt)
          have HR := hide (HB.out.2.below hb HB.out.2.lt)
          clear hb
          obtain ⟨c0, c1, c2, c3⟩ := HA.out.c4
          go_wp2_with fail
          refine (HH.out _).mono ?_
          rintro e w2 ⟨rfl, hb⟩
          have HK2 := hide (below_one HK.out hb)
          have HA2 := hide (HA.out.below hb HA.out.lt)
          have HR2 := hide (HR.out.below hb HR.out.lt)
          clear hb c0 c1 c2 c3
          obtain ⟨c0, c1, c2, c3⟩ := HA2.out.c4
          go_wp2_with (refine wpList_store_row rfl 25 (.tmp 6) (.tmp 30) rfl (w.heap.size + 1) #[.slice none 0 0, .slice none 0 0, .int .i64 0, .bool false] rfl rfl 25 _ HR2.out Try.size25 rfl (one25 _ _ _ _ _ _ _ _) ?_)
          exact bodyPost_ret (v := .tuple #[Dsk.zero.v, .int .i64 2]) (results_cell_row_tmp rfl _ _ (w.heap.size + 1) 25 #[.slice none 0 0, .slice none 0 0, .int .i64 0, .bool false] (0, 0) _ (.int .i64 2) rfl rfl (setRow_heap _ _ _ _ _ _ HR2.out) Try.underlying25 rfl Try.size25) rfl (Ans.zero HX.out (below_setRow HK2.out (by omega) _))
        · have HX := hide (show d.d.write i b.l = ({ d.d with pen := d.d.pen ++ [(i, padS b.l)] }, 0) by simp [Dk.write, hr, hh, h1, HPL.out, h2])
          have h2' : ((d.ps.length : Int) == 4096) = false := by simp; omega
          have HVL := hide (show d.ps.length ≤ 4096 by
            have : d.d.valid = true := by simp [Dk.runs] at hr; exact hr.2
            rw [valid_iff] at this
            simp only [Bool.and_eq_true] at this
            have := (validPen_iff.1 this.1.2).1
            rw [wrD_len] at this
            exact this)
          have HCL := hide (fun W => clip_any d.pa d.ps.length d.pc W HI.out.pen.le HI.out.pen.top (fun h => by
            have := HI.out.pen.nil h
            have := HI.out.pen.le
            omega))
          have HSO := hide (fun W (hW : Below w.heap.size w W) => sectorOf_any b W (HI0.out.below hW))
          obtain ⟨i0, hi0, hz0, hz1, hz2⟩ := hinfo77
          have HIN := hide (And.intro hi0 (And.intro hz0 (And.intro hz1 hz2)))
          clear hr hh h2 hi0 hz0 hz1 hz2
          go_enter Try.func28, Try.ntmps28
          go_wp2_with fail
          refine HC.out.mono ?_
          rintro e w1 ⟨rfl, hb⟩
          have HK := hide (show Below w.heap.size w w1 from HT.out.trans (hb.mono HT.out.size))
          have HA := hide (HB.out.1.below hb HB.out.1.lt)
          have HR := hide (HB.out.2.below hb HB.out.2.lt)
          clear hb
          obtain ⟨c0, c1, c2, c3⟩ := HA.out.c4
          go_wp2_with fail
          refine (HH.out _).mono ?_
          rintro e w2 ⟨rfl, hb⟩
          have HK2 := hide (below_one HK.out hb)
          have HA2 := hide (HA.out.below hb HA.out.lt)
          have HR2 := hide (HR.out.below hb HR.out.lt)
          clear hb c0 c1 c2 c3
          obtain ⟨c0, c1, c2, c3⟩ := HA2.out.c4
          go_wp2_with fail
          refine (HCL.out _).mono ?_
          rintro e w' ⟨rfl, rfl⟩
          go_wp2_with fail
          refine (HSO.out _ HK2.out).mono ?_
          rintro e w3 ⟨rfl, hB, hb⟩
          have HK3 := hide (below_one HK2.out hb)
          have HA3 := hide (HA2.out.below hb HA2.out.lt)
          have HR3 := hide (HR2.out.below hb HR2.out.lt)
          have HB3 := hide hB
          clear hb hB c0 c1 c2 c3
          have hX4 := Blk.new w3 77 [.int .i64 i, .slice (some ⟨w2.heap.size, 0, none⟩) 128 128]
          have HOLD := hide (((HI.out.pen.cels.below HK3.out).below (below_new w3 (.cells #[.int .i64 i, .slice (some ⟨w2.heap.size, 0, none⟩) 128 128] 77))).opt)
          have HNEW := hide (show ∀ j u, [Value.int .i64 i, .slice (some ⟨w2.heap.size, 0, none⟩) 128 128][j]? = some u → (w3.alloc (.cells #[.int .i64 i, .slice (some ⟨w2.heap.size, 0, none⟩) 128 128] 77)).cell? ((⟨w3.heap.size, 0, none⟩ : Addr).add j) = some u from fun j u hu => by
            rw [Addr.add_mid, Nat.zero_add]
            exact (hX4.cell j).trans hu)
          have HLEN := hide (wrs_len d.ps)
          clear hX4
          have hnil : d.pa = none → d.ps.length = 0 ∧ d.ps.length = 0 := fun h => by
            have := HI.out.pen.nil h
            have := HI.out.pen.le
            omega
          have HNIL := hide hnil
          clear hnil
          have hvl := HVL.out
          go_wp2_with (first | (at_builtin; refine wpList_append_grows _ rfl (.tmp 34) (.tmp 39) 23 rfl 77 i0 _ 2 32 Try.underlying23 HIN.out.1 HIN.out.2.1 HIN.out.2.2.1 HIN.out.2.2.2 rfl (by omega) d.pa d.ps.length d.ps.length (wrs d.ps) rfl HNIL.out HLEN.out HOLD.out ⟨w3.heap.size, 0, none⟩ 1 1 [.int .i64 i, .slice (some ⟨w2.heap.size, 0, none⟩) 128 128] rfl rfl HNEW.out (by simp [Value.oneCell']) (by omega) (by unfold maxLen; omega) (by omega) ?_; intro v' w4 hown hg; obtain ⟨g, cap, rfl, hbase, hlt⟩ := hown.form (by omega); have HO := hide hown; have HG := hide (only_none hg); have HA4 := hide ((HA3.out.alloc (.cells #[.int .i64 i, .slice (some ⟨w2.heap.size, 0, none⟩) 128 128] 77)).below (only_none hg) ((HA3.out.alloc (.cells #[.int .i64 i, .slice (some ⟨w2.heap.size, 0, none⟩) 128 128] 77)).lt)); have HR4 := hide ((HR3.out.alloc (.cells #[.int .i64 i, .slice (some ⟨w2.heap.size, 0, none⟩) 128 128] 77)).below (only_none hg) ((HR3.out.alloc (.cells #[.int .i64 i, .slice (some ⟨w2.heap.size, 0, none⟩) 128 128] 77)).lt)); have c1 := HA4.out.c4.2.1; have f1 := HA4.out.free 1; have HA5 := hide (HA4.out.set 1 (.slice (some ⟨g, 0, none⟩) (d.ps.length + 1) cap)); have HR5 := hide (HR4.out.apart (p := ⟨w.heap.size, 1, none⟩) (by simp) (.slice (some ⟨g, 0, none⟩) (d.ps.length + 1) cap)); simp only [List.set_cons_zero, List.set_cons_succ] at HA5; clear hown hg hbase hlt) | (refine wpList_load_row rfl 25 (.tmp 3) rfl w.heap.size rfl 25 _ (0, 0) _ HA5.out Try.underlying25 rfl Try.size25 ?_) | (refine wpList_store_row rfl 25 (.tmp 6) (.tmp 42) rfl (w.heap.size + 1) #[.slice d.sa d.ss.length d.sc, .slice (some ⟨g, 0, none⟩) (d.ps.length + 1) cap, .int .i64 d.left, .bool d.stp] rfl rfl 25 _ HR5.out Try.size25 rfl (one25 _ _ _ _ _ _ _ _) ?_))
          have HF : Hid (Below w.heap.size w ((w4.setCell ⟨w.heap.size, 1, none⟩ (.slice (some ⟨g, 0, none⟩) (d.ps.length + 1) cap)).setRow (w.heap.size + 1) #[.slice d.sa d.ss.length d.sc, .slice (some ⟨g, 0, none⟩) (d.ps.length + 1) cap, .int .i64 d.left, .bool d.stp])) :=
            hide (below_setRow ((((HK3.out.alloc HK3.out.size _).trans (HG.out.mono (by simp; have := HK3.out.size; omega))).setCell (p := ⟨w.heap.size, 1, none⟩) (Nat.le_refl _) _)) (by omega) _)
          refine bodyPost_ret (v := .tuple #[Dsk.v { d with pa := some ⟨g, 0, none⟩, ps := d.ps ++ [⟨i, ⟨some ⟨w2.heap.size, 0, none⟩, padS b.l, 128⟩⟩], pc := cap }, .int .i64 0]) (by
            rw [show Dsk.v { d with pa := some ⟨g, 0, none⟩, ps := d.ps ++ [⟨i, ⟨some ⟨w2.heap.size, 0, none⟩, padS b.l, 128⟩⟩], pc := cap } = .agg #[.slice d.sa d.ss.length d.sc, .slice (some ⟨g, 0, none⟩) (d.ps.length + 1) cap, .int .i64 d.left, .bool d.stp] by simp]
            exact results_cell_row_tmp rfl _ _ (w.heap.size + 1) 25 #[.slice d.sa d.ss.length d.sc, .slice (some ⟨g, 0, none⟩) (d.ps.length + 1) cap, .int .i64 d.left, .bool d.stp] (0, 0) _ (.int .i64 0) rfl rfl (setRow_heap _ _ _ _ _ _ HR5.out) Try.underlying25 rfl Try.size25) rfl ?_
          rw [HX.out]
          refine ⟨_, rfl, ?_, ⟨HI.out.sec.below HF.out, ?_, HI.out.left⟩, HF.out⟩
          · simp [Dsk.d, wrD, Wr.d]
          · obtain ⟨cs, hcs⟩ := own_blk HO.out
            have hg1 := ((hcs.apart (p := ⟨w.heap.size, 1, none⟩) (hcs.ne HA4.out (by omega)) (.slice (some ⟨g, 0, none⟩) (d.ps.length + 1) cap))).far (hcs.ne HR4.out (by omega)) #[.slice d.sa d.ss.length d.sc, .slice (some ⟨g, 0, none⟩) (d.ps.length + 1) cap, .int .i64 d.left, .bool d.stp]
            have hb4 := (HB3.out.alloc (.cells #[.int .i64 i, .slice (some ⟨w2.heap.size, 0, none⟩) 128 128] 77)).below HG.out (HB3.out.alloc (.cells #[.int .i64 i, .slice (some ⟨w2.heap.size, 0, none⟩) 128 128] 77)).lt
            have hb5 := ((hb4.apart (p := ⟨w.heap.size, 1, none⟩) (hb4.ne HA4.out (by omega)) (.slice (some ⟨g, 0, none⟩) (d.ps.length + 1) cap))).far (hb4.ne HR4.out (by omega)) #[.slice d.sa d.ss.length d.sc, .slice (some ⟨g, 0, none⟩) (d.ps.length + 1) cap, .int .i64 d.left, .bool d.stp]
            exact HI.out.pen.more HF.out HRI.out hb5 (padS_len _) (hg1.cels (by omega)) (by simp) (own_caps HO.out)
end Go.Proofs.Ytgigccgklahddaa
