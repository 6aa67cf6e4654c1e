
/- Write of the reference, where the disk runs. -/
import Derived.Test.YtgigccgklahddaaRWri
namespace Go.Proofs.Ytgigccgklahddaa
open Go.RowKit
variable {n0 : Nat}

theorem slice_inj {A B : Option Addr} {n m c d : Nat} (h : Value.slice A n c = .slice B m d) : A = B ∧ c = d := by
  injection h with h1 _ h2
  exact ⟨h1, h2⟩
/-- Bytes under way, and the two blocks of the call. -/
structure RW (w : World) (d : Dsk) (l : List UInt8) (A : Option Addr) (cap : Nat) (W : World) : Prop where
  own : W.ownsRow w.heap.size 5 1 (.slice A l.length cap) l.length (bs l)
  bel : Below w.heap.size w W
  box : Blk W w.heap.size 25 d.cs
  res : Blk W (w.heap.size + 1) 25 [.slice none 0 0, .slice none 0 0, .int .i64 0, .bool false]
theorem RW.alloc {w : World} {d : Dsk} {l : List UInt8} {A : Option Addr} {cap : Nat} {W : World} (h : RW w d l A cap W) (o : Obj) : RW w d l A cap (W.alloc o) :=
  ⟨own_later h.own (below_new _ _), h.bel.alloc h.bel.size _, h.box.alloc _, h.res.alloc _⟩

theorem WrsIn.more1 {w0 w : World} {A A' : Option Addr} {l : List Wr} {c cap : Nat} {i : Int} {s : Sec} (h : WrsIn n0 A l c w0) (hk : Below w0.heap.size w0 w) (hi : -9223372036854775808 ≤ i ∧ i ≤ 9223372036854775807) (hs : s.In n0 w)
    (hc : Cels n0 w A' (wrs l ++ [.int .i64 i, s.v])) (hA : A' ≠ none) (hcap : l.length + 1 ≤ cap ∧ cap ≤ 9223372036854775807) :
    WrsIn n0 A' (l ++ [⟨i, s⟩]) cap w := by
  have e : wrs (l ++ [⟨i, s⟩]) = wrs l ++ [.int .i64 i, s.v] := by rw [wrs_app]; simp [wrs, Wr.cs]
  refine ⟨by rw [e]; exact hc, fun p hp => ?_, by rw [List.length_append]; simp; omega, hcap.2, fun h => absurd h hA⟩
  rcases List.mem_append.1 hp with hp | hp
  · exact ⟨(h.each p hp).1.below hk, (h.each p hp).2⟩
  · obtain rfl : p = _ := by simpa using hp
    exact ⟨hs, hi⟩

set_option maxRecDepth 10000 in
set_option maxHeartbeats 6400000 in
theorem rwrite_ok (d : Dsk) (i : Int) (b : Sec) (w : World) (hi : d.In n0 w) (hb0 : b.In n0 w) (hri : -9223372036854775808 ≤ i ∧ i ≤ 9223372036854775807) (hr : d.d.runs = true) (hh : d.d.has i = true) :
    Calls Try.prog 47 #[d.v, .int .i64 i, b.v] w (Ans n0 w (d.d.write i b.l)) := by
  have HI := hide hi
  have HI0 := hide hb0
  have HRI := hide hri
  have HT := hide (two_below d w)
  have HB := hide (two_boxes d w)
  obtain ⟨hs, hv⟩ : d.stp = false ∧ d.d.valid = true := by
    have h2 : d.d.stp = d.stp := rfl
    simpa [Dk.runs, h2] using hr
  have HS := hide hs
  have HC := hide (rcheck_ok (two d w) hv (HI.out.below HT.out))
  have hh2 := hh
  rw [has_eq] at hh2
  obtain ⟨q1, q2⟩ := hasB_iff.1 hh2
  have q2' : decide ((d.ss.length : Int) ≤ i) = false := by simp; omega
  have HPL := hide (show d.d.pen.length = d.ps.length from wrD_len d.ps)
  have HVL := hide (show d.ps.length ≤ 4096 by
    have := hv
    rw [valid_iff] at this
    simp only [Bool.and_eq_true] at this
    have := (validPen_iff.1 this.1.2).1
    rw [wrD_len] at this
    exact this)
  clear hi hb0 hri hs hv hh2
  by_cases h1 : 128 < b.l.length
  · have HX := hide (show d.d.write i b.l = (Dk.zero, 1) by simp [Dk.write, hr, hh, h1])
    have h1' : (128 : Int) < b.l.length := by omega
    clear hr hh
    go_enter Try.func47, Try.ntmps47
    go_wp2_with fail
    refine HC.out.mono ?_
    rintro e w1 ⟨rfl, hb⟩
    have HK := hide (show Below w.heap.size w w1 from HT.out.trans (hb.mono HT.out.size))
    have HR := hide (HB.out.2.below hb HB.out.2.lt)
    obtain ⟨c0, c1, c2, c3⟩ := (HB.out.1.below hb HB.out.1.lt).c4
    rw [HS.out] at c3
    clear hb
    go_wp2_with (refine wpList_store_row rfl 25 (.tmp 6) (.tmp 31) rfl (w.heap.size + 1) #[.slice none 0 0, .slice none 0 0, .int .i64 0, .bool false] rfl rfl 25 _ HR.out Try.size25 rfl (one25 _ _ _ _ _ _ _ _) ?_)
    exact bodyPost_ret (v := .tuple #[Dsk.zero.v, .int .i64 1]) (results_cell_row_tmp rfl _ _ (w.heap.size + 1) 25 #[.slice none 0 0, .slice none 0 0, .int .i64 0, .bool false] (0, 0) _ (.int .i64 1) rfl rfl (setRow_heap _ _ _ _ _ _ HR.out) Try.underlying25 rfl Try.size25) rfl (Ans.zero HX.out (below_setRow HK.out (by omega) _))
  · have h1' : (b.l.length : Int) ≤ 128 := by omega
    by_cases h2 : d.ps.length = 4096
    · have HX := hide (show d.d.write i b.l = (Dk.zero, 2) by simp [Dk.write, hr, hh, h1, HPL.out, h2])
      have h2' : ((d.ps.length : Int) == 4096) = true := by simp; omega
      clear hr hh h2
      go_enter Try.func47, Try.ntmps47
      go_wp2_with fail
      refine HC.out.mono ?_
      rintro e w1 ⟨rfl, hb⟩
      have HK := hide (show Below w.heap.size w w1 from HT.out.trans (hb.mono HT.out.size))
      have HR := hide (HB.out.2.below hb HB.out.2.lt)
      obtain ⟨c0, c1, c2, c3⟩ := (HB.out.1.below hb HB.out.1.lt).c4
      rw [HS.out] at c3
      clear hb
      go_wp2_with (refine wpList_store_row rfl 25 (.tmp 6) (.tmp 36) rfl (w.heap.size + 1) #[.slice none 0 0, .slice none 0 0, .int .i64 0, .bool false] rfl rfl 25 _ HR.out Try.size25 rfl (one25 _ _ _ _ _ _ _ _) ?_)
      exact bodyPost_ret (v := .tuple #[Dsk.zero.v, .int .i64 2]) (results_cell_row_tmp rfl _ _ (w.heap.size + 1) 25 #[.slice none 0 0, .slice none 0 0, .int .i64 0, .bool false] (0, 0) _ (.int .i64 2) rfl rfl (setRow_heap _ _ _ _ _ _ HR.out) Try.underlying25 rfl Try.size25) rfl (Ans.zero HX.out (below_setRow HK.out (by omega) _))
    · have HX := hide (show d.d.write i b.l = ({ d.d with pen := d.d.pen ++ [(i, padS b.l)] }, 0) by simp [Dk.write, hr, hh, h1, HPL.out, h2])
      have h2' : ((d.ps.length : Int) == 4096) = false := by simp; omega
      obtain ⟨i5, HI5⟩ := hinfo5
      obtain ⟨i77, HI77⟩ := hinfo77
      have HI5 := hide HI5
      have HI77 := hide HI77
      have HBN := hide HI0.out.nil
      have HBL := hide (show b.A = none → b.l.length = 0 ∧ b.cap = 0 from fun h => by
        have h3 := HI0.out.nil h
        have h4 := HI0.out.le
        omega)
      have HPN := hide (show d.pa = none → d.ps.length = 0 ∧ d.pc = 0 from fun h => by
        have h3 := HI.out.pen.nil h
        have h4 := HI.out.pen.le
        omega)
      clear hr hh h2
      go_enter Try.func47, Try.ntmps47
      go_wp2_with fail
      refine HC.out.mono ?_
      rintro e w1 ⟨rfl, hb⟩
      have HK := hide (show Below w.heap.size w w1 from HT.out.trans (hb.mono HT.out.size))
      have HA := hide (HB.out.1.below hb HB.out.1.lt)
      have HR := hide (HB.out.2.below hb HB.out.2.lt)
      obtain ⟨c0, c1, c2, c3⟩ := HA.out.c4
      rw [HS.out] at c3
      have HO1 := hide (own_empty w1 w.heap.size 5 1 HK.out.size)
      have HN1 := hide ((HI0.out.cels.below (HK.out.trans ((below_new w1 (.cells #[] 5)).mono HK.out.size))).opt)
      have HL1 := hide (show (bs b.l).length = b.l.length * 1 by rw [bs_len, Nat.mul_one])
      have hz1 : w.heap.size ≤ (w1.alloc (.cells #[] 5)).heap.size := by have := HK.out.size; simp; omega
      have hbl : b.l.length ≤ 128 := by omega
      clear hb
      go_wp2_with (at_builtin; refine wpList_app rfl (.tmp 37) (.tmp 38) 35 rfl w.heap.size 5 i5 _ 1 1 Try.underlying35 HI5.out rfl (by omega) _ 0 [] rfl HO1.out b.A b.l.length b.cap (bs b.l) rfl HBL.out HL1.out HN1.out (bs_one _) (by unfold maxLen; omega) (by omega) hz1 ?_; intro A2 cap2 w2 hown hg; have HO2 := hide hown; have HK2 := hide (below_app (B := w.heap.size) (HK.out.alloc HK.out.size (.cells #[] 5)) HO1.out hg (Nat.le_refl _) hz1); have HA2 := hide ((HA.out.alloc (.cells #[] 5)).app HO1.out hg (by omega)); have HR2 := hide ((HR.out.alloc (.cells #[] 5)).app HO1.out hg (by omega)); clear hown hg)
      have HRW : Hid (RW w d (b.l ++ List.replicate 0 0) A2 cap2 w2) := hide ⟨by simpa using HO2.out, HK2.out, HA2.out, HR2.out⟩
      clear c0 c1 c2 c3 hz1 HO2 HK2 HA2 HR2 HN1 HO1
      go_loopw [8, 43, 44, 45] (fun v _ _ _ wr => ∃ (k : Nat) (A : Option Addr) (cap : Nat), b.l.length + k ≤ 128 ∧ v = .slice A (b.l.length + k) cap ∧ Hid (RW w d (b.l ++ List.replicate k 0) A cap wr)) (fun v _ _ _ _ => 128 - lenV v)
      case atStart => exact ⟨0, A2, cap2, by omega, rfl, HRW⟩
      case round =>
        obtain ⟨k, A3, cap3, hk, rfl, HI3⟩ := hrel
        clear HRW
        by_cases hlt : b.l.length + k < 128
        · have hlt' : ((b.l.length + k : Nat) : Int) < 128 := by omega
          have HO4 := hide ((HI3.out.alloc (.cells #[.int .u8 0] 5)).own)
          have HLN := hide (show (b.l ++ List.replicate k 0).length = b.l.length + k by simp)
          rw [HLN.out] at HO4
          have hz4 : w.heap.size ≤ (wr.alloc (.cells #[.int .u8 0] 5)).heap.size := (HI3.out.alloc (.cells #[.int .u8 0] 5)).bel.size
          go_wp2_with (at_builtin; refine wpList_app rfl (.tmp 43) (.tmp 44) 35 rfl w.heap.size 5 i5 _ 1 1 Try.underlying35 HI5.out rfl (by omega) _ (b.l.length + k) (bs (b.l ++ List.replicate k 0)) rfl HO4.out (some ⟨wr.heap.size, 0, none⟩) 1 1 [.int .u8 0] rfl (fun h => by cases h) rfl (new_cells wr 5 [.int .u8 0]) (by simp [Value.oneCell']) (by unfold maxLen; omega) (by omega) hz4 ?_; intro A5 cap5 w5 hown hg; have HRW : Hid (RW w d (b.l ++ List.replicate (k + 1) 0) A5 cap5 w5) := hide ⟨by
            have e : bs (b.l ++ List.replicate (k + 1) 0) = bs (b.l ++ List.replicate k 0) ++ [.int .u8 0] := by rw [List.replicate_succ', ← List.append_assoc, bs_app]; rfl
            have e2 : (b.l ++ List.replicate (k + 1) 0).length = b.l.length + k + 1 := by simp; omega
            rw [e, e2]
            exact hown, below_app (HI3.out.alloc _).bel HO4.out hg (Nat.le_refl _) hz4, (HI3.out.alloc _).box.app HO4.out hg (by omega), (HI3.out.alloc _).res.app HO4.out hg (by omega)⟩; clear hown hg)
          go_roundw
          case rel => exact ⟨k + 1, A5, cap5, by omega, rfl, HRW⟩
          case measure => simp [lenV]; omega
        · have hlt' : ¬ ((b.l.length + k : Nat) : Int) < 128 := by omega
          have HLN := hide (show (b.l ++ List.replicate k 0) = padS b.l from padS_of _ _ (by omega))
          have HL2 := hide (show b.l.length + k = 128 by omega)
          obtain ⟨g3, c3', he3, _, _⟩ := HI3.out.own.form (by rw [HLN.out, padS_len]; omega)
          obtain ⟨rfl, rfl⟩ : A3 = some ⟨g3, 0, none⟩ ∧ cap3 = c3' := by
            injection he3 with e1 _ e2
            exact ⟨e1, e2⟩
          clear he3
          have HI4 := hide (HI3.out.alloc (.cells #[] 77))
          obtain ⟨_, c1, _, _⟩ := HI4.out.box.c4
          have HO4 := hide (own_empty wr wr.heap.size 77 2 (Nat.le_refl _))
          have HN4 := hide ((HI.out.pen.cels.below HI4.out.bel).opt)
          have HL4 := hide (wrs_len d.ps)
          have hz4 : wr.heap.size ≤ (wr.alloc (.cells #[] 77)).heap.size := by simp
          have hvl := HVL.out
          have hkk : b.l.length + k = 128 := HL2.out
          have HB4 := hide (below_new wr (.cells #[] 77))
          go_wp2_with (first | (at_builtin; refine wpList_app rfl (.tmp 46) (.tmp 48) 23 rfl wr.heap.size 77 i77 _ 2 32 Try.underlying23 HI77.out rfl (by omega) _ 0 [] rfl HO4.out d.pa d.ps.length d.pc (wrs d.ps) rfl HPN.out HL4.out HN4.out (wrs_one _) (by unfold maxLen; omega) (by omega) hz4 ?_; intro A6 cap6 w6 hown hg; rw [Nat.zero_add, List.nil_append] at hown; have HO6 := hide (own_later hown (below_new w6 (.cells #[.int .i64 i, .slice (some ⟨g3, 0, none⟩) 128 cap3] 77))); have HB6 := hide ((below_app HB4.out HO4.out hg (Nat.le_refl _) hz4).alloc ((below_app HB4.out HO4.out hg (Nat.le_refl _) hz4).size) (.cells #[.int .i64 i, .slice (some ⟨g3, 0, none⟩) 128 cap3] 77)); have hz6 := HB6.out.size; clear hown hg) | (at_builtin; refine wpList_app rfl (.tmp 49) (.tmp 53) 23 rfl wr.heap.size 77 i77 _ 2 32 Try.underlying23 HI77.out rfl (by omega) _ d.ps.length (wrs d.ps) rfl HO6.out (some ⟨w6.heap.size, 0, none⟩) 1 1 [.int .i64 i, .slice (some ⟨g3, 0, none⟩) 128 cap3] rfl (fun h => by cases h) rfl (new_cells w6 77 [.int .i64 i, .slice (some ⟨g3, 0, none⟩) 128 cap3]) (by simp [Value.oneCell']) (by unfold maxLen; omega) (by omega) hz6 ?_; intro A7 cap7 w7 hown hg; have HO7 := hide hown; have HB7 := hide (below_app HB6.out HO6.out hg (Nat.le_refl _) hz6); obtain ⟨g7, c7', he7, hg7, _⟩ := hown.form (by omega); obtain ⟨rfl, rfl⟩ := slice_inj he7; have HA7 := hide (HI3.out.box.below HB7.out HI3.out.box.lt); have HR7 := hide (HI3.out.res.below HB7.out HI3.out.res.lt); have c1 := HA7.out.c4.2.1; have f1 := HA7.out.free 1; have HA8 := hide (HA7.out.set 1 (.slice (some ⟨g7, 0, none⟩) (d.ps.length + 1) cap7)); have HR8 := hide (HR7.out.apart (p := ⟨w.heap.size, 1, none⟩) (by simp) (.slice (some ⟨g7, 0, none⟩) (d.ps.length + 1) cap7)); simp only [List.set_cons_zero, List.set_cons_succ] at HA8; clear hown hg he7 hg7) | (refine wpList_load_row rfl 25 (.tmp 3) rfl w.heap.size rfl 25 _ (0, 0) _ HA8.out Try.underlying25 rfl Try.size25 ?_) | (refine wpList_store_row rfl 25 (.tmp 6) (.tmp 56) rfl (w.heap.size + 1) #[.slice d.sa d.ss.length d.sc, .slice (some ⟨g7, 0, none⟩) (d.ps.length + 1) cap7, .int .i64 d.left, .bool d.stp] rfl rfl 25 _ HR8.out Try.size25 rfl (one25 _ _ _ _ _ _ _ _) ?_))
          have HF : Hid (Below w.heap.size w ((w7.setCell ⟨w.heap.size, 1, none⟩ (.slice (some ⟨g7, 0, none⟩) (d.ps.length + 1) cap7)).setRow (w.heap.size + 1) #[.slice d.sa d.ss.length d.sc, .slice (some ⟨g7, 0, none⟩) (d.ps.length + 1) cap7, .int .i64 d.left, .bool d.stp])) :=
            hide (below_setRow ((HI3.out.bel.trans (HB7.out.mono HI3.out.bel.size)).setCell (p := ⟨w.heap.size, 1, none⟩) (Nat.le_refl _) _) (by omega) _)
          have HP := hide (show (padS b.l).length = 128 from padS_len _)
          refine bodyPost_ret (v := .tuple #[Dsk.v { d with pa := some ⟨g7, 0, none⟩, ps := d.ps ++ [⟨i, ⟨some ⟨g3, 0, none⟩, padS b.l, cap3⟩⟩], pc := cap7 }, .int .i64 0]) (by
            rw [show Dsk.v { d with pa := some ⟨g7, 0, none⟩, ps := d.ps ++ [⟨i, ⟨some ⟨g3, 0, none⟩, padS b.l, cap3⟩⟩], pc := cap7 } = .agg #[.slice d.sa d.ss.length d.sc, .slice (some ⟨g7, 0, none⟩) (d.ps.length + 1) cap7, .int .i64 d.left, .bool d.stp] by simp]
            exact results_cell_row_tmp rfl _ _ (w.heap.size + 1) 25 #[.slice d.sa d.ss.length d.sc, .slice (some ⟨g7, 0, none⟩) (d.ps.length + 1) cap7, .int .i64 d.left, .bool d.stp] (0, 0) _ (.int .i64 0) rfl rfl (setRow_heap _ _ _ _ _ _ HR8.out) Try.underlying25 rfl Try.size25) rfl ?_
          rw [HX.out]
          refine ⟨_, rfl, ?_, ⟨HI.out.sec.below HF.out, ?_, HI.out.left⟩, HF.out⟩
          · simp [Dsk.d, wrD, Wr.d]
          · obtain ⟨cs, hcs⟩ := own_blk HO7.out
            have hg1 := ((hcs.apart (p := ⟨w.heap.size, 1, none⟩) (hcs.ne HA7.out (by omega)) (.slice (some ⟨g7, 0, none⟩) (d.ps.length + 1) cap7))).far (hcs.ne HR7.out (by omega)) #[.slice d.sa d.ss.length d.sc, .slice (some ⟨g7, 0, none⟩) (d.ps.length + 1) cap7, .int .i64 d.left, .bool d.stp]
            have ho3 := own_later HI3.out.own HB7.out
            rw [HLN.out] at ho3
            obtain ⟨ds, hds⟩ := own_blk ho3
            have hb5 := ((hds.apart (p := ⟨w.heap.size, 1, none⟩) (hds.ne HA7.out (by omega)) (.slice (some ⟨g7, 0, none⟩) (d.ps.length + 1) cap7))).far (hds.ne HR7.out (by omega)) #[.slice d.sa d.ss.length d.sc, .slice (some ⟨g7, 0, none⟩) (d.ps.length + 1) cap7, .int .i64 d.left, .bool d.stp]
            refine HI.out.pen.more1 HF.out HRI.out ⟨(hb5.cels (by omega)), (own_caps ho3).1, (own_caps ho3).2, fun h => (by cases h)⟩ ?_ (by simp) (own_caps HO7.out)
            have := hg1.cels (n0 := n0) (by omega)
            show Cels n0 _ _ (wrs d.ps ++ [.int .i64 i, .slice (some ⟨g3, 0, none⟩) (padS b.l).length cap3])
            rw [HP.out]
            exact this
end Go.Proofs.Ytgigccgklahddaa
