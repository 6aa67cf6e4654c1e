/- Sync of the program: the records that lie on the disk. -/
import Derived.Test.YtgigccgklahddaaJsy
namespace Go.Proofs.Ytgigccgklahddaa
open Go.RowKit
variable {n0 : Nat}

theorem secs_take (l : List Sec) (n : Nat) : secs (l.take n) = (secs l).take n := by simp [secs, List.map_take]
theorem secD_take (l : List Sec) (n : Nat) : secD (l.take n) = (secD l).take n := by simp [secD, List.map_take]
theorem secD_drop (l : List Sec) (n : Nat) : secD (l.drop n) = (secD l).drop n := by simp [secD, List.map_drop]
theorem SecsIn.take {W : World} {A : Option Addr} {l : List Sec} {cap : Nat} (h : SecsIn n0 A l cap W) (n : Nat) : SecsIn n0 A (l.take n) cap W := by
  refine ⟨fun hne => ?_, fun s hs => h.each s (List.mem_of_mem_take hs), Nat.le_trans (by rw [List.length_take]; omega) h.le, h.top, h.nil⟩
  obtain ⟨b, o, e, hlt, hk, hc⟩ := h.cels (fun e => hne (by rw [secs_take, e]; simp))
  refine ⟨b, o, e, hlt, hk, fun i hi => ?_⟩
  have hi' : i < (secs l).length := by rw [secs_take, List.length_take] at hi; omega
  rw [hc i hi']
  simp only [secs_take, List.getElem_take]
theorem jchk_zero {j : Jk} (h : jchk j = 0) : j.ok = true := by
  cases hk : j.ok with
  | true => rfl
  | false => rw [jchk_no hk] at h; cases h

/-- A journal in a box, cell by cell. -/
def put3 (W : World) (X : Nat) (j : Jr) : World := ((W.setCell ⟨X, 0, none⟩ (.slice j.A j.rs.length j.cap)).setCell ⟨X, 1, none⟩ (.int .i64 j.many)).setCell ⟨X, 2, none⟩ (.int .i64 j.synced)
theorem put3_only (W : World) (X : Nat) (j : Jr) : W.grownBy (put3 W X j) (some X) := by
  have h1 : W.grownBy (W.setCell ⟨X, 0, none⟩ (.slice j.A j.rs.length j.cap)) (some X) := only_setCell (only_refl _ _) (.inl rfl) _
  have h2 := only_setCell (p := ⟨X, 1, none⟩) h1 (.inl rfl) (.int .i64 j.many)
  exact only_setCell (p := ⟨X, 2, none⟩) h2 (.inl rfl) (.int .i64 j.synced)
theorem blk_put3 {W : World} {X : Nat} {a b c : Value} (h : Blk W X 29 [a, b, c]) (j : Jr) : Blk (put3 W X j) X 29 j.cs := by
  have := ((h.set 0 (.slice j.A j.rs.length j.cap)).set 1 (.int .i64 j.many)).set 2 (.int .i64 j.synced)
  simpa [put3] using this
theorem blk_put4 {W : World} {X : Nat} {a b c e : Value} (h : Blk W X 25 [a, b, c, e]) (z : Dsk) : Blk (put4 W X z) X 25 z.cs := by
  have := (((h.set 0 (.slice z.sa z.ss.length z.sc)).set 1 (.slice z.pa z.ps.length z.pc)).set 2 (.int .i64 z.left)).set 3 (.bool z.stp)
  simpa [put4] using this
theorem JB.ab {w W : World} {j : Jr} {d : Dsk} (h : JB w j d W) (j' : Jr) (d' : Dsk) :
    Blk (put4 (put3 W (w.heap.size + 1 + 1) j') (w.heap.size + 1 + 1 + 1) d') (w.heap.size + 1 + 1) 29 j'.cs ∧ Blk (put4 (put3 W (w.heap.size + 1 + 1) j') (w.heap.size + 1 + 1 + 1) d') (w.heap.size + 1 + 1 + 1) 25 d'.cs ∧ Below w.heap.size w (put4 (put3 W (w.heap.size + 1 + 1) j') (w.heap.size + 1 + 1 + 1) d') :=
  ⟨(blk_put3 h.b2 j').only (put4_only _ _ _) (by omega), blk_put4 (h.b3.only (put3_only _ _ _) (by omega)) d', below_of_only (below_of_only h.bel (put3_only _ _ _) (by omega)) (put4_only _ _ _) (by omega)⟩
theorem JB.ba {w W : World} {j : Jr} {d : Dsk} (h : JB w j d W) (j' : Jr) (d' : Dsk) :
    Blk (put3 (put4 W (w.heap.size + 1 + 1 + 1) d') (w.heap.size + 1 + 1) j') (w.heap.size + 1 + 1) 29 j'.cs ∧ Blk (put3 (put4 W (w.heap.size + 1 + 1 + 1) d') (w.heap.size + 1 + 1) j') (w.heap.size + 1 + 1 + 1) 25 d'.cs ∧ Below w.heap.size w (put3 (put4 W (w.heap.size + 1 + 1 + 1) d') (w.heap.size + 1 + 1) j') :=
  ⟨blk_put3 (h.b2.only (put4_only _ _ _) (by omega)) j', (blk_put4 h.b3 d').only (put3_only _ _ _) (by omega), below_of_only (below_of_only h.bel (put4_only _ _ _) (by omega)) (put3_only _ _ _) (by omega)⟩

theorem SecsIn.drop {W : World} {A : Option Addr} {l : List Sec} {cap : Nat} (h : SecsIn n0 A l cap W) (n : Nat) (hn : n < l.length) : SecsIn n0 (A.map fun x => x.add n) (l.drop n) (cap - n) W := by
  obtain ⟨b, o, e, hlt, hk, hc⟩ := h.cels (by intro e; have := congrArg List.length e; rw [secs_len] at this; simp at this; rw [this] at hn; simp at hn)
  subst e
  have hle := h.le
  have htop := h.top
  refine ⟨fun _ => ⟨b, o + n, congrArg some (Addr.add_mid ..), hlt, hk, fun i hi => ?_⟩, fun s hs => h.each s (List.mem_of_mem_drop hs), by rw [List.length_drop]; omega, by omega, fun e => by cases e⟩
  have hi' : n + i < (secs l).length := by rw [secs_len, List.length_drop] at hi; rw [secs_len]; omega
  rw [Nat.add_assoc, hc (n + i) hi', secs_get, secs_get]
  simp
theorem wrap_u32 (n : Int) (h1 : 0 ≤ n) (h2 : n < 4294967296) : IntKind.u32.wrap n = n := by
  have e1 : (2 : Int) ^ IntKind.u32.bits = 4294967296 := by decide
  have e2 : n % 4294967296 = n := by omega
  simp only [IntKind.wrap, e1, e2]
  simp [IntKind.signed]
theorem usedB_mem {l : List (List UInt8)} {b : List UInt8} (h : b ∈ l) : secN b.length ≤ usedB l := by
  obtain ⟨x, y, rfl⟩ := List.append_of_mem h
  rw [usedB_app, show b :: y = [b] ++ y from rfl, usedB_app, usedB_one]
  omega

theorem js_end {w W : World} (hn0 : n0 ≤ w.heap.size) {a b c e1 e2 e3 e4 : Value} (h2 : Blk W (w.heap.size + 1 + 1) 29 [a, b, c]) (h3 : Blk W (w.heap.size + 1 + 1 + 1) 25 [e1, e2, e3, e4]) (hb : Below w.heap.size w W) (j' : Jr) (y : Dsk) (hj : j'.In n0 w) (hy : y.In n0 W) :
    Blk (put4 (put3 W (w.heap.size + 1 + 1) j') (w.heap.size + 1 + 1 + 1) y).drew (w.heap.size + 1 + 1) 29 j'.cs ∧ Blk (put4 (put3 W (w.heap.size + 1 + 1) j') (w.heap.size + 1 + 1 + 1) y).drew (w.heap.size + 1 + 1 + 1) 25 y.cs ∧
    j'.In n0 (put4 (put3 W (w.heap.size + 1 + 1) j') (w.heap.size + 1 + 1 + 1) y).drew ∧ y.In n0 (put4 (put3 W (w.heap.size + 1 + 1) j') (w.heap.size + 1 + 1 + 1) y).drew ∧ Below w.heap.size w (put4 (put3 W (w.heap.size + 1 + 1) j') (w.heap.size + 1 + 1 + 1) y).drew := by
  have h33 := h3.only (put3_only W (w.heap.size + 1 + 1) j') (by omega)
  have hB := below_of_only (below_of_only hb (put3_only W (w.heap.size + 1 + 1) j') (by omega)) (put4_only _ (w.heap.size + 1 + 1 + 1) y) (by omega)
  exact ⟨((blk_put3 h2 j').only (put4_only _ _ _) (by omega)).drew, (blk_put4 h33 y).drew, hj.below hB.drew, ((hy.keepT h2 (by decide) (by omega) (put3_only _ _ _)).keep h33 (by omega) (put4_only _ _ _)).below (Below.refl _ _).drew, hB.drew⟩

set_option maxRecDepth 100000 in
set_option maxHeartbeats 1600000 in
theorem jsync_go (j : Jr) (d : Dsk) (w : World) (hn0 : n0 ≤ w.heap.size) (hj : j.In n0 w) (hd : d.In n0 w) (h : jchk j.k = 0) (h2 : cdk d.d = 0) (h3 : j.many = d.ss.length) : Calls Try.prog 21 #[j.v, d.v] w (JSAns n0 w (jsyncB j.k d.d)) := by
  have HB := hide (JB.new w j d)
  have HC := hide (jcheck_any j _ (hj.below HB.out.bel))
  have HCD := hide (fun W (hW : Below w.heap.size w W) => checkDisk_any d W (hd.below hW))
  have hok := ok_iff.1 (jchk_zero h)
  have hv : d.d.valid = true ∧ d.d.runs = true := by
    cases hv : d.d.valid
    · rw [cdk_no hv] at h2; exact absurd h2 (by decide)
    · refine ⟨rfl, ?_⟩
      cases hs : d.d.stp
      · unfold Dk.runs; rw [hs, hv]; rfl
      · rw [cdk_stp hv hs] at h2; exact absurd h2 (by decide)
  have hpen : d.ps.length = 0 := by
    rcases Nat.eq_zero_or_pos d.ps.length with h0 | h0
    · exact h0
    · have hs : d.d.stp = false := by
        cases hs : d.d.stp
        · rfl
        · rw [cdk_stp hv.1 hs] at h2; exact absurd h2 (by decide)
      have hne : d.d.pen ≠ [] := fun e => by
        have : (wrD d.ps).length = 0 := by rw [show wrD d.ps = d.d.pen from rfl, e]; rfl
        rw [wrD_len] at this
        omega
      rw [cdk_pen hv.1 hs hne] at h2
      exact absurd h2 (by decide)
  have HPEN := hide hpen
  have hv1 := hv.1
  rw [valid_iff] at hv1
  simp only [Bool.and_eq_true] at hv1
  obtain ⟨⟨hn1, hn2⟩, hsl⟩ := validSec_iff.1 hv1.1.1
  rw [secD_len] at hn1 hn2
  have hsl' : ∀ i (h : i < d.ss.length), (d.ss[i]).l.length = 128 := fun i h => by
    have := hsl i (by rw [secD_len]; exact h)
    rw [secD_get] at this
    exact this
  have HGR := hide (fun W (hW : Below w.heap.size w W) => greatest_any d.sa d.ss d.sc W (hd.sec.below hW) hsl' hn2)
  have HRO := hide (fun W => recsOn_any d.sa d.ss.length d.sc W)
  have HCO := hide (fun W (hW : Below w.heap.size w W) => collect_any W.heap.size d.sa d.ss d.sc (W.alloc (.cells #[.slice d.sa d.ss.length d.sc] 22)) (hd.sec.below (hW.alloc hW.size _)) ((Blk.new W 22 [.slice d.sa d.ss.length d.sc]).cell 0) hsl' hn2)
  obtain ⟨A, rs, cap, many, synced⟩ := j
  obtain ⟨sy, rfl⟩ : ∃ sy : Nat, synced = sy := Int.eq_ofNat_of_zero_le hok.2.2.1
  have hsy : sy ≤ rs.length := by have := hok.2.2.2.1; simp only [Jr.k, secD_len] at this; omega
  have hle := hj.recs.le
  have htop := hj.recs.top
  simp only at hle htop h3
  subst h3
  have hgl : genM (secD d.ss) 0 < 4294967296 := genM_lt _ _ (by decide)
  have hX : jsyncB (Jr.mk A rs cap d.ss.length sy).k d.d = if recordsB (secD d.ss) = (secD rs).take sy ∧ genM (secD d.ss) 0 < 4294967295 then
      (if (sy : Int) = (rs.length : Nat) then ((Jr.mk A rs cap d.ss.length sy).k, d.d, 0)
       else if (⟨secD d.ss, writesP (usedB ((secD rs).take sy)) (genM (secD d.ss) 0 + 1) (((secD rs).drop sy).flatMap piecesB), d.left, d.stp⟩ : Dk).sync.2 = 0 then (⟨secD rs, d.ss.length, (rs.length : Nat)⟩, (⟨secD d.ss, writesP (usedB ((secD rs).take sy)) (genM (secD d.ss) 0 + 1) (((secD rs).drop sy).flatMap piecesB), d.left, d.stp⟩ : Dk).sync.1, 0)
       else (Jk.zero, (⟨secD d.ss, writesP (usedB ((secD rs).take sy)) (genM (secD d.ss) 0 + 1) (((secD rs).drop sy).flatMap piecesB), d.left, d.stp⟩ : Dk).sync))
      else (Jk.zero, Dk.zero, 50) := by
    unfold jsyncB
    rw [if_pos h, if_pos h2, if_pos (by show (d.ss.length : Int) = ((secD d.ss).length : Nat); rw [secD_len])]
    simp only [Jr.k, Dsk.d, Int.toNat_natCast, secD_len]
  have HX := hide hX
  have HJ := hide hj
  have HD := hide hd
  have HRUN := hide hv.2
  have HOK := hide hok
  have hm' : ((d.ss.length : Int) != (d.ss.length : Int)) = false := by simp
  rw [h] at HC
  rw [h2] at HCD
  have hs0 : (0 : Int) ≤ (sy : Int) := by omega
  have hs1 : (sy : Int) ≤ (cap : Int) := by omega
  have HUB := hide (show usedB (secD rs) ≤ d.ss.length by have := hok.2.2.2.2; simp only [Jr.k] at this; omega)
  clear hj hd h h2 hX hok hv hv1 hsl hsl' hpen
  go_enter Try.func21, Try.ntmps21
  go_wp2_with fail
  refine HC.out.mono ?_
  rintro e w0 ⟨rfl, hb⟩
  have HB0 := hide (HB.out.below hb)
  obtain ⟨c0, c1, c2, c3⟩ := HB0.out.b1.c4
  clear hb
  go_wp2_with fail
  refine (HCD.out _ HB0.out.bel).mono ?_
  rintro e w1 ⟨rfl, hb⟩
  have HB1 := hide (HB0.out.below hb)
  clear hb c0 c1 c2 c3
  obtain ⟨c0, c1, c2, c3⟩ := HB1.out.b1.c4
  have j0 := HB1.out.b0.cell 0
  have j1 := HB1.out.b0.cell 1
  have j2 := HB1.out.b0.cell 2
  simp only [List.getElem?_cons_zero, List.getElem?_cons_succ] at j0 j1 j2
  have hgl1 : (1 : Int) + ((genM (secD d.ss) 0 : Nat) : Int) ≤ 9223372036854775807 := by omega
  have HEQ := hide (fun W (A' : Option Addr) (c' : Nat) (xs : List Sec) (hx : SecsIn n0 A' xs c' W) (hW : Below w.heap.size w W) (hl : xs.length ≤ 1000000) => equalFunc_any A' xs c' A (rs.take sy) cap W hx ((HJ.out.recs.below hW).take sy) hl)
  rw [show (rs.take sy).length = sy by rw [List.length_take]; omega, secD_take] at HEQ
  go_wp2_with fail
  refine (HGR.out _ HB1.out.bel).mono ?_
  rintro e w2 ⟨rfl, hb⟩
  have HB2 := hide (HB1.out.below hb)
  clear hb c0 c1 c2 c3 j0 j1 j2
  obtain ⟨c0, c1, c2, c3⟩ := HB2.out.b1.c4
  obtain ⟨g, hg⟩ : ∃ g, g = genM (secD d.ss) 0 := ⟨_, rfl⟩
  rw [← hg] at hgl hgl1 HX ⊢
  clear hg
  go_wp2_with fail
  refine (HRO.out _).mono ?_
  rintro e w3 ⟨rfl, rfl⟩
  go_wp2_with fail
  refine (HCO.out _ HB2.out.bel).mono ?_
  rintro e w4 ⟨A', c', xs, rfl, hxs, hxi, hxl, hb⟩
  have HB4 := hide ((HB2.out.below (below_new w2 (.cells #[.slice d.sa d.ss.length d.sc] 22))).below hb)
  have hxn : xs.length ≤ 1000000 := by
    have := recsFrom_len (ss := secD d.ss) (secD d.ss).length 0 0
    rw [show recsFrom (secD d.ss) (secD d.ss).length 0 0 = recordsB (secD d.ss) from rfl, ← hxs, secD_len, secD_len] at this
    omega
  have HXI := hide hxi
  clear hb c0 c1 c2 c3 hxl hxi
  rw [← hxs] at HX
  obtain ⟨v, hv⟩ : ∃ v, v = decide (secD xs = (secD rs).take sy) := ⟨_, rfl⟩
  have HE := hide (HEQ.out _ A' c' xs HXI.out HB4.out.bel hxn)
  rw [← hv] at HE
  cases v with
  | false =>
    have hne := of_decide_eq_false hv.symm
    rw [if_neg (fun h => hne h.1)] at HX
    clear hv hne
    go_wp2_with fail
    refine HE.out.mono ?_
    rintro e w5 ⟨rfl, hb⟩
    have HB1 := hide (HB4.out.below hb)
    have HB2 := hide (HB1.out.nought)
    have HR := hide (HB1.out.b3.far (Y := w.heap.size + 1 + 1) (by omega) #[.slice none 0 0, .int .i64 0, .int .i64 0])
    clear hb
    go_wp2_with (first | (refine wpList_store_row rfl 29 (.tmp 4) (.tmp 51) rfl (w.heap.size + 1 + 1) #[.slice none 0 0, .int .i64 0, .int .i64 0] rfl rfl 29 _ HB1.out.b2 Try.size29 rfl (one29 _ _ _ _ _) ?_) | (refine wpList_store_row rfl 25 (.tmp 5) (.tmp 52) rfl (w.heap.size + 1 + 1 + 1) #[.slice none 0 0, .slice none 0 0, .int .i64 0, .bool false] rfl rfl 25 _ HR.out Try.size25 rfl (one25 _ _ _ _ _ _ _ _) ?_))
    exact bodyPost_ret (v := .tuple #[Jr.zero.v, Dsk.zero.v, .int .i64 50]) (results_cells_tmp rfl _ _ (w.heap.size + 1 + 1) (w.heap.size + 1 + 1 + 1) 29 25 _ _ _ _ (.int .i64 50) rfl rfl rfl HB2.out.1 HB2.out.2.1 Try.underlying29 rfl Try.size29 Try.underlying25 rfl Try.size25) rfl (JSAns.zero HX.out HB2.out.2.2)
  | true =>
    have heq := of_decide_eq_true hv.symm
    by_cases hgg : g < 4294967295
    · rw [if_pos ⟨heq, hgg⟩] at HX
      have hgx : 1 + (g : Int) ≤ 4294967295 := by omega
      clear hv heq
      by_cases hsl : sy = rs.length
      · have hsl' : ((sy : Int) == (rs.length : Int)) = true := by simp [hsl]
        rw [if_pos (by rw [hsl])] at HX
        clear hsl
        go_wp2_with fail
        refine HE.out.mono ?_
        rintro e w5 ⟨rfl, hb⟩
        have HB5 := hide (HB4.out.below hb)
        clear hb
        have j0 := HB5.out.b0.cell 0
        have j1 := HB5.out.b0.cell 1
        have j2 := HB5.out.b0.cell 2
        simp only [List.getElem?_cons_zero, List.getElem?_cons_succ] at j0 j1 j2
        go_upto_region 14 with (fail)
        obtain ⟨c0, c1, c2, c3⟩ := HB5.out.b1.c4
        obtain ⟨l0, l1, l2, l3⟩ := HB5.out.b3.c4
        have l4 := HB5.out.b3.free 0
        have l5 := HB5.out.b3.free 1
        have l6 := HB5.out.b3.free 2
        have l7 := HB5.out.b3.free 3
        have q0 := HB5.out.b0.cell 0
        have q1 := HB5.out.b0.cell 1
        have q2 := HB5.out.b0.cell 2
        have k0 := HB5.out.b2.cell 0
        have k1 := HB5.out.b2.cell 1
        have k2 := HB5.out.b2.cell 2
        simp only [List.getElem?_cons_zero, List.getElem?_cons_succ] at q0 q1 q2 k0 k1 k2
        have k3 := HB5.out.b2.free 0
        have k4 := HB5.out.b2.free 1
        have k5 := HB5.out.b2.free 2
        clear j0 j1 j2
        go_region
        have hab := HB5.out.ab (⟨A, rs, cap, d.ss.length, sy⟩ : Jr) d
        go_wp2_with fail
        exact bodyPost_ret (v := .tuple #[(Jr.mk A rs cap d.ss.length sy).v, d.v, .int .i64 0]) (results_cells_tmp rfl _ _ (w.heap.size + 1 + 1) (w.heap.size + 1 + 1 + 1) 29 25 _ _ _ _ (.int .i64 0) rfl rfl rfl hab.1.drew hab.2.1.drew Try.underlying29 rfl Try.size29 Try.underlying25 rfl Try.size25) rfl (by rw [HX.out]; exact ⟨⟨A, rs, cap, d.ss.length, sy⟩, d, rfl, rfl, rfl, HJ.out.below hab.2.2.drew, HD.out.below hab.2.2.drew, hab.2.2.drew⟩)
      · have hsl' : ((sy : Int) == (rs.length : Int)) = false := by simp only [beq_eq_false_iff_ne, ne_eq]; omega
        have hlt : sy < rs.length := by omega
        rw [if_neg (by omega)] at HX
        clear hsl
        have hcs : ¬ cap = sy := by omega
        have hcs2 : (sy : Int) ≤ (rs.length : Int) := by omega
        have hwr := wrap_u32 (1 + (g : Int)) (by omega) (by omega)
        have HDR := hide (fun W (hW : Below w.heap.size w W) => (HJ.out.recs.below hW).drop sy hlt)
        have HOC := hide (fun W (hW : Below w.heap.size w W) => occupied_any A (rs.take sy) cap W ((HJ.out.recs.below hW).take sy) (fun s hs => HJ.out.short s (List.mem_of_mem_take hs)) (by rw [List.length_take]; have := HJ.out.few; simp only at this; omega))
        rw [show (rs.take sy).length = sy by rw [List.length_take]; omega, secD_take] at HOC
        have HWT := hide (fun W (hW : Below w.heap.size w W) => written_any (n0 := n0) d (A.map fun x => x.add sy) (rs.drop sy) (cap - sy) (usedB ((secD rs).take sy)) (g + 1) W (Nat.le_trans hn0 hW.size) (HD.out.below hW) (HDR.out W hW) HRUN.out HPEN.out (by rw [secD_drop, ← usedB_app, List.take_append_drop]; exact HUB.out) (by omega) (fun s hs => by
          have h1 := usedB_mem (l := secD rs) (b := s.l) (List.mem_map_of_mem (List.mem_of_mem_drop hs))
          have h2 := HUB.out
          unfold secN at h1
          omega))
        rw [List.length_drop, show ((g + 1 : Nat) : Int) = 1 + (g : Int) by omega, secD_drop] at HWT
        generalize usedB ((secD rs).take sy) = U at *
        go_wp2_with fail
        refine HE.out.mono ?_
        rintro e w5 ⟨rfl, hb⟩
        have HB5 := hide (HB4.out.below hb)
        clear hb
        have j0 := HB5.out.b0.cell 0
        have j2 := HB5.out.b0.cell 2
        simp only [List.getElem?_cons_zero, List.getElem?_cons_succ] at j0 j2
        go_upto_region 15 with (fail)
        have HSS := hide (show Blk w5.drew w.heap.size 29 [.slice A rs.length cap, .int .i64 d.ss.length, .int .i64 sy] ∧ Blk w5.drew (w.heap.size + 1) 25 d.cs ∧ Below w.heap.size w w5.drew from ⟨HB5.out.b0.drew, HB5.out.b1.drew, HB5.out.bel.drew⟩)
        have HBR := hide (show Blk w5.drew (w.heap.size + 3) 25 [.slice none 0 0, .slice none 0 0, .int .i64 0, .bool false] from HB5.out.b3.drew)
        have HBQ := hide (show Blk w5.drew (w.heap.size + 2) 29 [.slice none 0 0, .int .i64 0, .int .i64 0] from HB5.out.b2.drew)
        refine wp_region_plan3 (fun W => Blk W w.heap.size 29 [.slice A rs.length cap, .int .i64 d.ss.length, .int .i64 sy] ∧ Blk W (w.heap.size + 1) 25 d.cs ∧ Below w.heap.size w W) (.take 0 (.take 1 (.take 2 (.take 3 (.take 4 (.take 5 (.take 6 (.take 8 (.take 9 (.run 7 (.run 10 (.run 11 .done)))))))))))) (by kernel_rfl) (by kernel_rfl) HSS.out ?_
        generalize w5.drew = w6 at HSS HBR HBQ ⊢
        clear j0 j2
        (refine plan3_take (o := ?_) (v := ?_) (by simp only [List.getElem?_toArray, List.getElem?_cons_zero]; rfl) (yields_run (by rfl) ?_) ?_; rotate_left; (focus (intro w' hw'; obtain ⟨y0, y1, y2, y3⟩ := hw'.2.1.c4; have z0 := hw'.1.cell 0; have z1 := hw'.1.cell 1; have z2 := hw'.1.cell 2; simp only [List.getElem?_cons_zero, List.getElem?_cons_succ] at z0 z1 z2; go_simp <;> with_reducible rfl)); (simp only [Act.put, List.setIfInBounds_toArray, List.set_cons_zero, List.set_cons_succ]))
        (refine plan3_take (o := ?_) (v := ?_) (by simp only [List.getElem?_toArray, List.getElem?_cons_succ, List.getElem?_cons_zero]; rfl) (yields_run (by rfl) ?_) ?_; rotate_left; (focus (intro w' hw'; obtain ⟨y0, y1, y2, y3⟩ := hw'.2.1.c4; have z0 := hw'.1.cell 0; have z1 := hw'.1.cell 1; have z2 := hw'.1.cell 2; simp only [List.getElem?_cons_zero, List.getElem?_cons_succ] at z0 z1 z2; go_simp <;> with_reducible rfl)); (simp only [Act.put, List.setIfInBounds_toArray, List.set_cons_zero, List.set_cons_succ]))
        (refine plan3_take (o := ?_) (v := ?_) (by simp only [List.getElem?_toArray, List.getElem?_cons_succ, List.getElem?_cons_zero]; rfl) (yields_run (by rfl) ?_) ?_; rotate_left; (focus (intro w' hw'; obtain ⟨y0, y1, y2, y3⟩ := hw'.2.1.c4; have z0 := hw'.1.cell 0; have z1 := hw'.1.cell 1; have z2 := hw'.1.cell 2; simp only [List.getElem?_cons_zero, List.getElem?_cons_succ] at z0 z1 z2; go_simp <;> with_reducible rfl)); (simp only [Act.put, List.setIfInBounds_toArray, List.set_cons_zero, List.set_cons_succ]))
        (refine plan3_take (o := ?_) (v := ?_) (by simp only [List.getElem?_toArray, List.getElem?_cons_succ, List.getElem?_cons_zero]; rfl) (yields_run (by rfl) ?_) ?_; rotate_left; (focus (intro w' hw'; obtain ⟨y0, y1, y2, y3⟩ := hw'.2.1.c4; have z0 := hw'.1.cell 0; have z1 := hw'.1.cell 1; have z2 := hw'.1.cell 2; simp only [List.getElem?_cons_zero, List.getElem?_cons_succ] at z0 z1 z2; go_simp <;> with_reducible rfl)); (simp only [Act.put, List.setIfInBounds_toArray, List.set_cons_zero, List.set_cons_succ]))
        (refine plan3_take (o := ?_) (v := ?_) (by simp only [List.getElem?_toArray, List.getElem?_cons_succ, List.getElem?_cons_zero]; rfl) (yields_run (by rfl) ?_) ?_; rotate_left; (focus (intro w' hw'; obtain ⟨y0, y1, y2, y3⟩ := hw'.2.1.c4; have z0 := hw'.1.cell 0; have z1 := hw'.1.cell 1; have z2 := hw'.1.cell 2; simp only [List.getElem?_cons_zero, List.getElem?_cons_succ] at z0 z1 z2; go_simp <;> with_reducible rfl)); (simp only [Act.put, List.setIfInBounds_toArray, List.set_cons_zero, List.set_cons_succ]))
        (refine plan3_take (o := ?_) (v := ?_) (by simp only [List.getElem?_toArray, List.getElem?_cons_succ, List.getElem?_cons_zero]; rfl) (yields_run (by rfl) ?_) ?_; rotate_left; (focus (intro w' hw'; obtain ⟨y0, y1, y2, y3⟩ := hw'.2.1.c4; have z0 := hw'.1.cell 0; have z1 := hw'.1.cell 1; have z2 := hw'.1.cell 2; simp only [List.getElem?_cons_zero, List.getElem?_cons_succ] at z0 z1 z2; go_simp <;> with_reducible rfl)); (simp only [Act.put, List.setIfInBounds_toArray, List.set_cons_zero, List.set_cons_succ]))
        (refine plan3_take (o := ?_) (v := ?_) (by simp only [List.getElem?_toArray, List.getElem?_cons_succ, List.getElem?_cons_zero]; rfl) (yields_run (by rfl) ?_) ?_; rotate_left; (focus (intro w' hw'; obtain ⟨y0, y1, y2, y3⟩ := hw'.2.1.c4; have z0 := hw'.1.cell 0; have z1 := hw'.1.cell 1; have z2 := hw'.1.cell 2; simp only [List.getElem?_cons_zero, List.getElem?_cons_succ] at z0 z1 z2; go_simp <;> with_reducible rfl)); (simp only [Act.put, List.setIfInBounds_toArray, List.set_cons_zero, List.set_cons_succ]))
        (refine plan3_take (o := ?_) (v := ?_) (by simp only [List.getElem?_toArray, List.getElem?_cons_succ, List.getElem?_cons_zero]; rfl) (yields_run (by rfl) ?_) ?_; rotate_left; (focus (intro w' hw'; obtain ⟨y0, y1, y2, y3⟩ := hw'.2.1.c4; have z0 := hw'.1.cell 0; have z1 := hw'.1.cell 1; have z2 := hw'.1.cell 2; simp only [List.getElem?_cons_zero, List.getElem?_cons_succ] at z0 z1 z2; go_simp <;> with_reducible rfl)); (simp only [Act.put, List.setIfInBounds_toArray, List.set_cons_zero, List.set_cons_succ]))
        (refine plan3_take (o := ?_) (v := ?_) (by simp only [List.getElem?_toArray, List.getElem?_cons_succ, List.getElem?_cons_zero]; rfl) (yields_run (by rfl) ?_) ?_; rotate_left; (focus (intro w' hw'; obtain ⟨y0, y1, y2, y3⟩ := hw'.2.1.c4; have z0 := hw'.1.cell 0; have z1 := hw'.1.cell 1; have z2 := hw'.1.cell 2; simp only [List.getElem?_cons_zero, List.getElem?_cons_succ] at z0 z1 z2; go_simp <;> with_reducible rfl)); (simp only [Act.put, List.setIfInBounds_toArray, List.set_cons_zero, List.set_cons_succ]))
        refine plan3_run (o := ?_) (by simp only [List.getElem?_toArray, List.getElem?_cons_succ, List.getElem?_cons_zero]; rfl) ?_
        intro R HRR
        go_wp2_with fail
        refine (HOC.out _ HSS.out.2.2).mono ?_
        rintro e w7 ⟨rfl, rfl⟩
        go_wp2_with fail
        refine HRR.out _ _ HSS.out ?_
        clear HRR
        refine plan3_run (o := ?_) (by simp only [List.getElem?_toArray, List.getElem?_cons_succ, List.getElem?_cons_zero]; rfl) ?_
        intro R HRR
        go_wp2_with fail
        refine (HWT.out _ HSS.out.2.2).mono ?_
        rintro e w8 ⟨z, rfl, hzd, hzi, hb⟩
        have HZD := hide hzd
        have HZI := hide hzi
        have HS8 := hide (show Blk w8 w.heap.size 29 [.slice A rs.length cap, .int .i64 d.ss.length, .int .i64 sy] ∧ Blk w8 (w.heap.size + 1) 25 d.cs ∧ Below w.heap.size w w8 from ⟨HSS.out.1.below hb HSS.out.1.lt, HSS.out.2.1.below hb HSS.out.2.1.lt, below_one HSS.out.2.2 hb⟩)
        have HBR8 := hide (HBR.out.below hb HBR.out.lt)
        have HBQ8 := hide (HBQ.out.below hb HBQ.out.lt)
        clear hzd hzi hb
        go_wp2_with fail
        refine HRR.out _ _ HS8.out ?_
        clear HRR
        refine plan3_run (o := ?_) (by simp only [List.getElem?_toArray, List.getElem?_cons_succ, List.getElem?_cons_zero]; rfl) ?_
        intro R HRR
        go_wp2_with (refine wpList_store_row rfl 25 (.tmp 5) (.tmp 71) rfl (w.heap.size + 1 + 1 + 1) #[.slice z.sa z.ss.length z.sc, .slice z.pa z.ps.length z.pc, .int .i64 z.left, .bool z.stp] rfl rfl 25 _ HBR8.out Try.size25 rfl (one25 _ _ _ _ _ _ _ _) ?_)
        refine HRR.out _ _ ⟨HS8.out.1.far (by omega) _, HS8.out.2.1.far (by omega) _, below_setRow HS8.out.2.2 (by omega) _⟩ ?_
        clear HRR
        refine plan3_done ?_
        have HB9 : Hid (Blk (w8.setRow (w.heap.size + 1 + 1 + 1) #[.slice z.sa z.ss.length z.sc, .slice z.pa z.ps.length z.pc, .int .i64 z.left, .bool z.stp]) w.heap.size 29 [.slice A rs.length cap, .int .i64 d.ss.length, .int .i64 sy] ∧ Blk (w8.setRow (w.heap.size + 1 + 1 + 1) #[.slice z.sa z.ss.length z.sc, .slice z.pa z.ps.length z.pc, .int .i64 z.left, .bool z.stp]) (w.heap.size + 1 + 1) 29 [.slice none 0 0, .int .i64 0, .int .i64 0] ∧ Blk (w8.setRow (w.heap.size + 1 + 1 + 1) #[.slice z.sa z.ss.length z.sc, .slice z.pa z.ps.length z.pc, .int .i64 z.left, .bool z.stp]) (w.heap.size + 1 + 1 + 1) 25 z.cs ∧ Below w.heap.size w (w8.setRow (w.heap.size + 1 + 1 + 1) #[.slice z.sa z.ss.length z.sc, .slice z.pa z.ps.length z.pc, .int .i64 z.left, .bool z.stp])) :=
          hide ⟨HS8.out.1.far (by omega) _, HBQ8.out.far (by omega) _, HBR8.out.row z.cs, below_setRow HS8.out.2.2 (by omega) _⟩
        have HZ9 := hide (HZI.out.keep (W' := w8.setRow (w.heap.size + 1 + 1 + 1) #[.slice z.sa z.ss.length z.sc, .slice z.pa z.ps.length z.pc, .int .i64 z.left, .bool z.stp]) HBR8.out (by omega) (only_setRow (only_refl _ _) (.inl rfl) _))
        have hzd' : z.d = ⟨secD d.ss, writesP U (g + 1) (((secD rs).drop sy).flatMap piecesB), d.left, d.stp⟩ := HZD.out
        rw [← hzd'] at HX
        clear hzd' HBR8 HBQ8 HBR HBQ HSS HB4 HB5 HB2 HB1 HB0
        generalize w8.setRow (w.heap.size + 1 + 1 + 1) #[.slice z.sa z.ss.length z.sc, .slice z.pa z.ps.length z.pc, .int .i64 z.left, .bool z.stp] = w9 at HB9 HZ9 ⊢
        have HSY := hide (sync_any z w9 HZ9.out)
        generalize z.d.sync = yy at HX HSY
        obtain ⟨y1, y2⟩ := yy
        simp only at HX
        obtain ⟨c0, c1, c2, c3⟩ := HB9.out.2.2.1.c4
        go_wp2_with fail
        refine HSY.out.mono ?_
        rintro e w10 ⟨y, rfl, hyd, hyi, hb⟩
        simp only at hyd
        have HYD := hide hyd
        have HBa := hide (show Blk w10 w.heap.size 29 [.slice A rs.length cap, .int .i64 d.ss.length, .int .i64 sy] ∧ Blk w10 (w.heap.size + 1 + 1) 29 [.slice none 0 0, .int .i64 0, .int .i64 0] ∧ Blk w10 (w.heap.size + 1 + 1 + 1) 25 z.cs ∧ Below w.heap.size w w10 from ⟨HB9.out.1.below hb HB9.out.1.lt, HB9.out.2.1.below hb HB9.out.2.1.lt, HB9.out.2.2.1.below hb HB9.out.2.2.1.lt, below_one HB9.out.2.2.2 hb⟩)
        have HYI := hide (hyi.keep (W' := w10.setRow (w.heap.size + 1 + 1 + 1) #[.slice y.sa y.ss.length y.sc, .slice y.pa y.ps.length y.pc, .int .i64 y.left, .bool y.stp]) HBa.out.2.2.1 (by omega) (only_setRow (only_refl _ _) (.inl rfl) _))
        have HBb : Hid (Blk (w10.setRow (w.heap.size + 1 + 1 + 1) #[.slice y.sa y.ss.length y.sc, .slice y.pa y.ps.length y.pc, .int .i64 y.left, .bool y.stp]) w.heap.size 29 [.slice A rs.length cap, .int .i64 d.ss.length, .int .i64 sy] ∧ Blk (w10.setRow (w.heap.size + 1 + 1 + 1) #[.slice y.sa y.ss.length y.sc, .slice y.pa y.ps.length y.pc, .int .i64 y.left, .bool y.stp]) (w.heap.size + 1 + 1) 29 [.slice none 0 0, .int .i64 0, .int .i64 0] ∧ Blk (w10.setRow (w.heap.size + 1 + 1 + 1) #[.slice y.sa y.ss.length y.sc, .slice y.pa y.ps.length y.pc, .int .i64 y.left, .bool y.stp]) (w.heap.size + 1 + 1 + 1) 25 y.cs ∧ Below w.heap.size w (w10.setRow (w.heap.size + 1 + 1 + 1) #[.slice y.sa y.ss.length y.sc, .slice y.pa y.ps.length y.pc, .int .i64 y.left, .bool y.stp])) :=
          hide ⟨HBa.out.1.far (by omega) _, HBa.out.2.1.far (by omega) _, HBa.out.2.2.1.row y.cs, below_setRow HBa.out.2.2.2 (by omega) _⟩
        clear hyd hyi hb c0 c1 c2 c3
        by_cases hy2 : y2 = 0
        · subst hy2
          rw [if_pos rfl] at HX
          have HJJ := hide (show (Jr.mk A rs cap d.ss.length rs.length).In n0 w from ⟨HJ.out.recs, HJ.out.many, by have := HJ.out.few; simp only at this; constructor <;> simp only <;> omega, HJ.out.short, HJ.out.few⟩)
          have q0 := HBb.out.1.cell 0
          have q2 := HBb.out.1.cell 2
          simp only [List.getElem?_cons_zero, List.getElem?_cons_succ] at q0 q2
          have f2 := HBb.out.1.free 2
          go_upto_region 20 with (refine wpList_store_row rfl 25 (.tmp 5) (.tmp 75) rfl (w.heap.size + 1 + 1 + 1) #[.slice y.sa y.ss.length y.sc, .slice y.pa y.ps.length y.pc, .int .i64 y.left, .bool y.stp] rfl rfl 25 _ HBa.out.2.2.1 Try.size25 rfl (one25 _ _ _ _ _ _ _ _) ?_)
          have HYI0 := HYI
          have HBc := hide (show Blk ((w10.setRow (w.heap.size + 1 + 1 + 1) #[.slice y.sa y.ss.length y.sc, .slice y.pa y.ps.length y.pc, .int .i64 y.left, .bool y.stp]).setCell ⟨w.heap.size, 2, none⟩ (.int .i64 rs.length)) w.heap.size 29 [.slice A rs.length cap, .int .i64 d.ss.length, .int .i64 rs.length] ∧ Blk ((w10.setRow (w.heap.size + 1 + 1 + 1) #[.slice y.sa y.ss.length y.sc, .slice y.pa y.ps.length y.pc, .int .i64 y.left, .bool y.stp]).setCell ⟨w.heap.size, 2, none⟩ (.int .i64 rs.length)) (w.heap.size + 1 + 1) 29 [.slice none 0 0, .int .i64 0, .int .i64 0] ∧ Blk ((w10.setRow (w.heap.size + 1 + 1 + 1) #[.slice y.sa y.ss.length y.sc, .slice y.pa y.ps.length y.pc, .int .i64 y.left, .bool y.stp]).setCell ⟨w.heap.size, 2, none⟩ (.int .i64 rs.length)) (w.heap.size + 1 + 1 + 1) 25 y.cs ∧ Below w.heap.size w ((w10.setRow (w.heap.size + 1 + 1 + 1) #[.slice y.sa y.ss.length y.sc, .slice y.pa y.ps.length y.pc, .int .i64 y.left, .bool y.stp]).setCell ⟨w.heap.size, 2, none⟩ (.int .i64 rs.length))
            from ⟨by simpa using HBb.out.1.set 2 (.int .i64 rs.length), HBb.out.2.1.apart (by show w.heap.size + 1 + 1 ≠ w.heap.size; omega) _, HBb.out.2.2.1.apart (by show w.heap.size + 1 + 1 + 1 ≠ w.heap.size; omega) _, HBb.out.2.2.2.setCell (by simp) _⟩)
          replace HYI := hide (HYI0.out.keepT (W' := (w10.setRow (w.heap.size + 1 + 1 + 1) #[.slice y.sa y.ss.length y.sc, .slice y.pa y.ps.length y.pc, .int .i64 y.left, .bool y.stp]).setCell ⟨w.heap.size, 2, none⟩ (.int .i64 rs.length)) HBb.out.1 (by decide) (by omega) (only_setCell (only_refl _ _) (.inl rfl) _))
          clear HYI0 q0 q2 f2 HBb
          generalize (w10.setRow (w.heap.size + 1 + 1 + 1) #[.slice y.sa y.ss.length y.sc, .slice y.pa y.ps.length y.pc, .int .i64 y.left, .bool y.stp]).setCell ⟨w.heap.size, 2, none⟩ (.int .i64 rs.length) = w11 at HBc HYI ⊢
          obtain ⟨l0, l1, l2, l3⟩ := HBc.out.2.2.1.c4
          have l4 := HBc.out.2.2.1.free 0
          have l5 := HBc.out.2.2.1.free 1
          have l6 := HBc.out.2.2.1.free 2
          have l7 := HBc.out.2.2.1.free 3
          have q0 := HBc.out.1.cell 0
          have q1 := HBc.out.1.cell 1
          have q2 := HBc.out.1.cell 2
          have k0 := HBc.out.2.1.cell 0
          have k1 := HBc.out.2.1.cell 1
          have k2 := HBc.out.2.1.cell 2
          simp only [List.getElem?_cons_zero, List.getElem?_cons_succ] at q0 q1 q2 k0 k1 k2
          have k3 := HBc.out.2.1.free 0
          have k4 := HBc.out.2.1.free 1
          have k5 := HBc.out.2.1.free 2
          go_region
          have hend := js_end hn0 HBc.out.2.1 HBc.out.2.2.1 HBc.out.2.2.2 ⟨A, rs, cap, d.ss.length, rs.length⟩ y HJJ.out HYI.out
          go_wp2_with fail
          exact bodyPost_ret (v := .tuple #[Jr.v ⟨A, rs, cap, d.ss.length, rs.length⟩, y.v, .int .i64 0]) (results_cells_tmp rfl _ _ (w.heap.size + 1 + 1) (w.heap.size + 1 + 1 + 1) 29 25 _ _ _ _ (.int .i64 0) rfl rfl rfl hend.1 hend.2.1 Try.underlying29 rfl Try.size29 Try.underlying25 rfl Try.size25) rfl (by rw [HX.out]; exact ⟨⟨A, rs, cap, d.ss.length, rs.length⟩, y, rfl, rfl, HYD.out, hend.2.2.1, hend.2.2.2.1, hend.2.2.2.2⟩)
        · have hy3 : (y2 != 0) = true := by simpa using hy2
          rw [if_neg hy2] at HX
          clear hy2
          go_upto_region 18 with (refine wpList_store_row rfl 25 (.tmp 5) (.tmp 75) rfl (w.heap.size + 1 + 1 + 1) #[.slice y.sa y.ss.length y.sc, .slice y.pa y.ps.length y.pc, .int .i64 y.left, .bool y.stp] rfl rfl 25 _ HBa.out.2.2.1 Try.size25 rfl (one25 _ _ _ _ _ _ _ _) ?_)
          have HJJ := hide (Jr.zero_in (n0 := n0) w)
          generalize w10.setRow (w.heap.size + 1 + 1 + 1) #[.slice y.sa y.ss.length y.sc, .slice y.pa y.ps.length y.pc, .int .i64 y.left, .bool y.stp] = w11 at HBb HYI ⊢
          have HBc := HBb
          obtain ⟨l0, l1, l2, l3⟩ := HBc.out.2.2.1.c4
          have l4 := HBc.out.2.2.1.free 0
          have l5 := HBc.out.2.2.1.free 1
          have l6 := HBc.out.2.2.1.free 2
          have l7 := HBc.out.2.2.1.free 3
          have q0 := HBc.out.1.cell 0
          have q1 := HBc.out.1.cell 1
          have q2 := HBc.out.1.cell 2
          have k0 := HBc.out.2.1.cell 0
          have k1 := HBc.out.2.1.cell 1
          have k2 := HBc.out.2.1.cell 2
          simp only [List.getElem?_cons_zero, List.getElem?_cons_succ] at q0 q1 q2 k0 k1 k2
          have k3 := HBc.out.2.1.free 0
          have k4 := HBc.out.2.1.free 1
          have k5 := HBc.out.2.1.free 2
          go_region
          have hend := js_end hn0 HBc.out.2.1 HBc.out.2.2.1 HBc.out.2.2.2 Jr.zero y HJJ.out HYI.out
          go_wp2_with fail
          exact bodyPost_ret (v := .tuple #[Jr.v Jr.zero, y.v, .int .i64 y2]) (results_cells_tmp rfl _ _ (w.heap.size + 1 + 1) (w.heap.size + 1 + 1 + 1) 29 25 _ _ _ _ (.int .i64 y2) rfl rfl rfl hend.1 hend.2.1 Try.underlying29 rfl Try.size29 Try.underlying25 rfl Try.size25) rfl (by rw [HX.out]; exact ⟨Jr.zero, y, rfl, rfl, HYD.out, hend.2.2.1, hend.2.2.2.1, hend.2.2.2.2⟩)
    · rw [if_neg (fun h => hgg h.2)] at HX
      have hgx : (4294967295 : Int) < 1 + (g : Int) := by omega
      clear hv heq
      go_wp2_with fail
      refine HE.out.mono ?_
      rintro e w5 ⟨rfl, hb⟩
      have HB1 := hide (HB4.out.below hb)
      have HB2 := hide (HB1.out.nought)
      have HR := hide (HB1.out.b3.far (Y := w.heap.size + 1 + 1) (by omega) #[.slice none 0 0, .int .i64 0, .int .i64 0])
      clear hb
      go_wp2_with (first | (refine wpList_store_row rfl 29 (.tmp 4) (.tmp 51) rfl (w.heap.size + 1 + 1) #[.slice none 0 0, .int .i64 0, .int .i64 0] rfl rfl 29 _ HB1.out.b2 Try.size29 rfl (one29 _ _ _ _ _) ?_) | (refine wpList_store_row rfl 25 (.tmp 5) (.tmp 52) rfl (w.heap.size + 1 + 1 + 1) #[.slice none 0 0, .slice none 0 0, .int .i64 0, .bool false] rfl rfl 25 _ HR.out Try.size25 rfl (one25 _ _ _ _ _ _ _ _) ?_))
      exact bodyPost_ret (v := .tuple #[Jr.zero.v, Dsk.zero.v, .int .i64 50]) (results_cells_tmp rfl _ _ (w.heap.size + 1 + 1) (w.heap.size + 1 + 1 + 1) 29 25 _ _ _ _ (.int .i64 50) rfl rfl rfl HB2.out.1 HB2.out.2.1 Try.underlying29 rfl Try.size29 Try.underlying25 rfl Try.size25) rfl (JSAns.zero HX.out HB2.out.2.2)
/-- Sync, whatever it is given. -/
theorem jsync_any (j : Jr) (d : Dsk) (w : World) (hn0 : n0 ≤ w.heap.size) (hj : j.In n0 w) (hd : d.In n0 w) : Calls Try.prog 21 #[j.v, d.v] w (JSAns n0 w (jsyncB j.k d.d)) := by
  by_cases h : jchk j.k = 0
  · by_cases h2 : cdk d.d = 0
    · by_cases h3 : j.many = d.ss.length
      · exact jsync_go j d w hn0 hj hd h h2 h3
      · exact jsync_e3 j d w hj hd h h2 h3
    · exact jsync_e2 j d w hj hd h h2
  · exact jsync_e1 j d w hj h
end Go.Proofs.Ytgigccgklahddaa
