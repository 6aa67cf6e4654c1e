/- Append of the reference. -/
import Derived.Test.YtgigccgklahddaaJsm
import Derived.Test.YtgigccgklahddaaApd
namespace Go.Proofs.Ytgigccgklahddaa
open Go.RowKit
variable {n0 : Nat}

set_option maxRecDepth 100000 in
set_option maxHeartbeats 6400000 in
theorem jrappend_any (j : Jr) (b : Sec) (w : World) (hi : j.In n0 w) (hb : b.In n0 w) (hl : b.l.length ≤ 140737488355328) :
    Calls Try.prog 16 #[j.v, b.v] w (JAns n0 w (j.k.append b.l)) := by
  obtain ⟨A, rs, cap, many, synced⟩ := j
  have HI := hide hi
  have HI0 := hide hb
  have HLB := hide hl
  have HB := hide ((Blk.new w 29 [.slice A rs.length cap, .int .i64 many, .int .i64 synced]).alloc (.cells #[.slice none 0 0, .int .i64 0, .int .i64 0] 29))
  have HR := hide (Blk.new (w.alloc (.cells #[.slice A rs.length cap, .int .i64 many, .int .i64 synced] 29)) 29 [.slice none 0 0, .int .i64 0, .int .i64 0])
  rw [World.size_alloc] at HR
  have HW := hide (show Below w.heap.size w ((w.alloc (.cells #[.slice A rs.length cap, .int .i64 many, .int .i64 synced] 29)).alloc (.cells #[.slice none 0 0, .int .i64 0, .int .i64 0] 29)) from (below_new w _).alloc (by simp) _)
  have HC := hide (jrcheck_any _ _ (hi.below HW.out))
  have c0 := HB.out.cell 0
  have c1 := HB.out.cell 1
  have c2 := HB.out.cell 2
  clear hi hb
  cases hk : (Jr.mk A rs cap many synced).k.ok with
  | false =>
    rw [jchk_no hk] at HC
    have HX := hide (show (Jr.mk A rs cap many synced).k.append b.l = (Jk.zero, 1) by unfold Jk.append; rw [if_neg (by simp [hk])])
    clear hk
    go_enter Try.func16, Try.ntmps16
    go_wp2_with fail
    refine HC.out.mono ?_
    rintro e w1 ⟨rfl, hb⟩
    have HF := hide (below_one HW.out hb)
    have HR1 := hide (HR.out.below hb HR.out.lt)
    clear hb
    go_wp2_with (refine wpList_store_row rfl 29 (.tmp 4) (.tmp 11) rfl (w.heap.size + 1) #[.slice none 0 0, .int .i64 0, .int .i64 0] rfl rfl 29 _ HR1.out Try.size29 rfl (one29 _ _ _ _ _) ?_)
    exact bodyPost_ret (v := .tuple #[Jr.zero.v, .int .i64 1]) (results_cell_row_tmp rfl _ _ (w.heap.size + 1) 29 #[.slice none 0 0, .int .i64 0, .int .i64 0] (0, 0) _ (.int .i64 1) rfl rfl (setRow_heap _ _ _ _ _ _ HR1.out) Try.underlying29 rfl Try.size29) rfl (JAns.zero HX.out (below_setRow HF.out (by omega) _))
  | true =>
    rw [jchk_yes hk] at HC
    obtain ⟨h1, h2, h3, h4, h5⟩ := ok_iff.1 hk
    replace h1 : 1 ≤ many := h1
    replace h2 : many ≤ 4096 := h2
    replace h5 : (usedB (secD rs) : Int) ≤ many := h5
    have HXF := hide (show (Jr.mk A rs cap many synced).k.append b.l = if many - usedB (secD rs) < secN b.l.length then (Jk.zero, 2) else (⟨secD rs ++ [b.l], many, synced⟩, 0) by
      unfold Jk.append
      rw [if_pos hk]
      rfl)
    have HRL := hide (show rs.length ≤ 4096 by have := usedB_ge (secD rs); rw [secD_len] at this; omega)
    clear hk h3 h4
    go_enter Try.func16, Try.ntmps16
    go_wp2_with fail
    refine HC.out.mono ?_
    rintro e w1 ⟨rfl, hb⟩
    have HF := hide (below_one HW.out hb)
    have HR1 := hide (HR.out.below hb HR.out.lt)
    have HB1 := hide (HB.out.below hb HB.out.lt)
    have HOn : Hid (∀ n, Calls Try.prog 40 #[.slice A rs.length cap] (w1.drewN n) fun e w' => e = .returned (.int .i64 (usedB (secD rs) : Nat)) ∧ w' = w1.drewN n) := hide (fun n => (used_any A rs cap (w1.drewN n) ((HI.out.recs.below HF.out).below (below_dn _ w1 n)) HI.out.short HI.out.few).mono fun _ _ h => ⟨h.1, h.2.symm⟩)
    have HSC : Hid (∀ n, Calls Try.prog 39 #[.int .i64 (b.l.length : Nat)] (w1.drewN n) fun e w' => e = .returned (.int .i64 (secN b.l.length : Nat)) ∧ w' = w1.drewN n) := hide (fun n => (sectors_any b.l.length (w1.drewN n) HLB.out).mono fun _ _ h => ⟨h.1, h.2.symm⟩)
    have c0 := HB1.out.cell 0
    have c1 := HB1.out.cell 1
    simp only [List.getElem?_cons_zero, List.getElem?_cons_succ] at c0 c1
    clear hb HC
    have HFn := hide (fun n => below_drewN HF.out n)
    have HRn := hide (fun n => HR1.out.below (below_dn _ w1 n) HR1.out.lt)
    have HBn := hide (fun n => HB1.out.below (below_dn _ w1 n) HB1.out.lt)
    have hsn := secN_le HLB.out
    by_cases hs : many - (usedB (secD rs) : Int) < secN b.l.length
    · have HX := hide (show (Jr.mk A rs cap many synced).k.append b.l = (Jk.zero, 2) by rw [HXF.out, if_pos hs])
      have d1 : decide (many - (usedB (secD rs) : Int) < secN b.l.length) = true := decide_eq_true hs
      clear HXF hs
      generalize usedB (secD rs) = u at *
      generalize secN b.l.length = sn at *
      go_wp2_with fail
      go_quiet (first | (go_at_call 39; refine Calls.quiet_of_same (HSC.out _)) | (go_at_call 40; refine Calls.quiet_of_same (HOn.out _)))
      have HR2 := hide (HRn.out nq)
      go_wp2_with (refine wpList_store_row rfl 29 (.tmp 4) (.tmp 23) rfl (w.heap.size + 1) #[.slice none 0 0, .int .i64 0, .int .i64 0] rfl rfl 29 _ HR2.out Try.size29 rfl (one29 _ _ _ _ _) ?_)
      exact bodyPost_ret (v := .tuple #[Jr.zero.v, .int .i64 2]) (results_cell_row_tmp rfl _ _ (w.heap.size + 1) 29 #[.slice none 0 0, .int .i64 0, .int .i64 0] (0, 0) _ (.int .i64 2) rfl rfl (setRow_heap _ _ _ _ _ _ HR2.out) Try.underlying29 rfl Try.size29) rfl (JAns.zero HX.out (below_setRow (HFn.out _) (by omega) _))
    · have HX := hide (show (Jr.mk A rs cap many synced).k.append b.l = (⟨secD rs ++ [b.l], many, synced⟩, 0) by rw [HXF.out, if_neg hs])
      have d1 : decide (many - (usedB (secD rs) : Int) < secN b.l.length) = false := decide_eq_false hs
      clear HXF hs
      generalize usedB (secD rs) = u at *
      generalize secN b.l.length = sn at *
      go_wp2_with fail
      go_quiet (first | (go_at_call 39; refine Calls.quiet_of_same (HSC.out _)) | (go_at_call 40; refine Calls.quiet_of_same (HOn.out _)))
      have HJ3 := hide (HBn.out nq)
      have HR3 := hide (HRn.out nq)
      have HF3 := hide (HFn.out nq)
      clear HBn HRn HFn HB1 HR1 HF HOn HSC c0 c1
      generalize w1.drewN nq = wr at *
      obtain ⟨i35, hi35⟩ := hinfo35
      have HI35 := hide hi35
      have HNIL := hide (show A = none → rs.length = 0 ∧ cap = 0 from fun h => by
        have h3 := HI.out.recs.nil h
        have h4 := HI.out.recs.le
        simp only at h3 h4
        omega)
      have HO4 := hide (own_empty wr wr.heap.size 35 1 (Nat.le_refl _))
      have HJ4 := hide (HJ3.out.alloc (.cells #[] 35))
      have HN4 := hide ((HI.out.recs.cels.below (HF3.out.alloc HF3.out.size (.cells #[] 35))).opt)
      have HL4 := hide (show (secs rs).length = rs.length * 1 by rw [secs_len, Nat.mul_one])
      have hz4 : wr.heap.size ≤ (wr.alloc (.cells #[] 35)).heap.size := by simp
      have hvl := HRL.out
      have HB4 := hide (below_new wr (.cells #[] 35))
      have c0 := HJ4.out.cell 0
      simp only [List.getElem?_cons_zero] at c0
      clear hi35 d1
      go_wp2_with (first | (at_builtin; refine wpList_app rfl (.tmp 24) (.tmp 26) 22 rfl wr.heap.size 35 i35 _ 1 24 Try.underlying22 HI35.out rfl (by omega) _ 0 [] rfl HO4.out A rs.length cap (secs rs) rfl HNIL.out HL4.out HN4.out (secs_one _) (by unfold maxLen; omega) (by omega) hz4 ?_; intro A6 cap6 w6 hown hg; rw [Nat.zero_add, List.nil_append] at hown; have HO6 := hide (own_later hown (below_new w6 (.cells #[b.v] 35))); have HB6 := hide ((below_app HB4.out HO4.out hg (Nat.le_refl _) hz4).alloc ((below_app HB4.out HO4.out hg (Nat.le_refl _) hz4).size) (.cells #[b.v] 35)); have hz6 := HB6.out.size; clear hown hg) | (at_builtin; refine wpList_app rfl (.tmp 27) (.tmp 29) 22 rfl wr.heap.size 35 i35 _ 1 24 Try.underlying22 HI35.out rfl (by omega) _ rs.length (secs rs) rfl HO6.out (some ⟨w6.heap.size, 0, none⟩) 1 1 [b.v] rfl (fun h => by cases h) rfl (new_cells w6 35 [b.v]) (by simp [Value.oneCell']) (by unfold maxLen; omega) (by omega) hz6 ?_; intro A7 cap7 w7 hown hg; have HO7 := hide hown; have HB7 := hide (below_app HB6.out HO6.out hg (Nat.le_refl _) hz6); obtain ⟨g7, c7', he7, hg7, _⟩ := hown.form (by omega); obtain ⟨rfl, rfl⟩ := slice_inj he7; have HJ7 := hide (HJ3.out.below HB7.out HJ3.out.lt); have HR7 := hide (HR3.out.below HB7.out HR3.out.lt); have c0 := HJ7.out.cell 0; have f0 := HJ7.out.free 0; have HJ8 := hide (HJ7.out.set 0 (.slice (some ⟨g7, 0, none⟩) (rs.length + 1) cap7)); have HR8 := hide (HR7.out.apart (p := ⟨w.heap.size, 0, none⟩) (by simp) (.slice (some ⟨g7, 0, none⟩) (rs.length + 1) cap7)); simp only [List.set_cons_zero] at HJ8; clear hown hg he7 hg7) | (refine wpList_load_row rfl 29 (.tmp 2) rfl w.heap.size rfl 29 _ (0, 0) _ HJ8.out Try.underlying29 rfl Try.size29 ?_) | (refine wpList_store_row rfl 29 (.tmp 4) (.tmp 32) rfl (w.heap.size + 1) #[.slice (some ⟨g7, 0, none⟩) (rs.length + 1) cap7, .int .i64 many, .int .i64 synced] rfl rfl 29 _ HR8.out Try.size29 rfl (one29 _ _ _ _ _) ?_))
      have HFF := hide (below_setRow ((HF3.out.trans (HB7.out.mono HF3.out.size)).setCell (p := ⟨w.heap.size, 0, none⟩) (Nat.le_refl _) (.slice (some ⟨g7, 0, none⟩) (rs.length + 1) cap7)) (g := w.heap.size + 1) (by omega) #[.slice (some ⟨g7, 0, none⟩) (rs.length + 1) cap7, .int .i64 many, .int .i64 synced])
      refine bodyPost_ret (v := .tuple #[.agg #[.slice (some ⟨g7, 0, none⟩) (rs.length + 1) cap7, .int .i64 many, .int .i64 synced], .int .i64 0]) (results_cell_row_tmp rfl _ _ (w.heap.size + 1) 29 #[.slice (some ⟨g7, 0, none⟩) (rs.length + 1) cap7, .int .i64 many, .int .i64 synced] (0, 0) _ (.int .i64 0) rfl rfl (setRow_heap _ _ _ _ _ _ HR8.out) Try.underlying29 rfl Try.size29) rfl ?_
      rw [HX.out]
      have hsv : secs (rs ++ [b]) = secs rs ++ [b.v] := by rw [secs_app]; rfl
      obtain ⟨cs, hcs⟩ := own_blk HO7.out
      have hg1 := ((hcs.apart (p := ⟨w.heap.size, 0, none⟩) (hcs.ne HJ7.out (by omega)) (.slice (some ⟨g7, 0, none⟩) (rs.length + 1) cap7))).far (hcs.ne HR7.out (by omega)) #[.slice (some ⟨g7, 0, none⟩) (rs.length + 1) cap7, .int .i64 many, .int .i64 synced]
      refine ⟨⟨some ⟨g7, 0, none⟩, rs ++ [b], cap7, many, synced⟩, by simp [Jr.v], ?_, ⟨⟨?_, fun s hs => ?_, ?_, (own_caps HO7.out).2, fun e => by cases e⟩, HI.out.many, HI.out.synced, fun s hs => ?_, ?_⟩, HFF.out⟩
      · show (⟨secD (rs ++ [b]), many, synced⟩ : Jk) = _
        rw [show secD (rs ++ [b]) = secD rs ++ [b.l] by simp [secD]]
      · show Cels n0 _ _ (secs (rs ++ [b]))
        rw [hsv]
        exact hg1.cels (by omega)
      · rcases List.mem_append.1 hs with hs | hs
        · exact (HI.out.recs.each s hs).below HFF.out
        · obtain rfl : s = b := by simpa using hs
          exact HI0.out.below HFF.out
      · have := (own_caps HO7.out).1
        show (rs ++ [b]).length ≤ cap7
        simpa using this
      · rcases List.mem_append.1 hs with hs | hs
        · exact HI.out.short s hs
        · obtain rfl : s = b := by simpa using hs
          exact HLB.out
      · show (rs ++ [b]).length ≤ 1000000
        have := HRL.out
        simp
        omega
end Go.Proofs.Ytgigccgklahddaa
