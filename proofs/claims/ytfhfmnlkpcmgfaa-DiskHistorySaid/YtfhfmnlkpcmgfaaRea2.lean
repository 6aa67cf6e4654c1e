/- Read of the program, where the disk runs. -/
import Derived.Test.YtfhfmnlkpcmgfaaRea
namespace Go.Proofs.Ytfhfmnlkpcmgfaa
open Go.RowKit Go.Shelf
variable {n0 : Nat}

attribute [local go_sem] Oper.semAt_some

theorem back_any (A : Option Addr) (n cap : Nat) (w : World) :
    Calls Try.prog 35 #[.slice A n cap] w fun e w' => e = .returned (.func (.func 39) #[] #[.pointer (some ⟨w.heap.size, 0, none⟩)]) ∧ w' = w.alloc (.cells #[.slice A n cap] 23) := by
  go_enter Try.func35, Try.ntmps35
  go_wp2_with fail
  go_ret
  exact ⟨rfl, rfl⟩
theorem lastW_none {i : Int} {s : List UInt8} : ∀ {l : List (Int × List UInt8)}, (∀ p ∈ l, p.1 ≠ i) → lastW i s l = s
  | [], _ => rfl
  | p :: l, h => by
    unfold lastW
    rw [List.foldl_cons, if_neg (h p (by simp))]
    exact lastW_none fun q hq => h q (by simp [hq])
theorem lastW_at {i : Int} {s : List UInt8} {l : List (Int × List UInt8)} {k : Nat} (hk : k < l.length) (he : (l[k]).1 = i) (h : ∀ j (hj : j < l.length), k < j → (l[j]).1 ≠ i) : lastW i s l = (l[k]).2 := by
  have h1 : lastW i s l = lastW i (lastW i s (l.take (k + 1))) (l.drop (k + 1)) := by
    unfold lastW
    rw [← List.foldl_append, List.take_append_drop]
  rw [h1, lastW_none, lastW_take hk, if_pos he]
  intro p hp
  obtain ⟨j, hj, rfl⟩ := List.getElem_of_mem hp
  rw [List.getElem_drop]
  exact h _ _ (by omega)
theorem mem_downs {m j : Nat} (hj : j < m) (y : Fin m) (h : j < y.1) : y ∈ downs (m := m) (m - (j + 1)) := by
  unfold downs
  refine List.mem_iff_getElem.2 ⟨m - 1 - y.1, by simp; omega, ?_⟩
  rw [List.getElem_take, List.getElem_reverse]
  simp
  apply Fin.ext
  have := y.2
  simp
  omega
/-- No write: what was there. -/
theorem last_none {ps : List Wr} {i : Int} {s : List UInt8} (h : ∀ x ∈ downs (m := ps.length) ps.length, (ps[x.1]).pos ≠ i) : lastW i s (wrD ps) = s := by
  refine lastW_none fun p hp => ?_
  obtain ⟨k, hk, rfl⟩ := List.getElem_of_mem hp
  rw [wrD_get]
  rw [wrD_len] at hk
  exact h ⟨k, hk⟩ (by unfold downs; rw [List.take_of_length_le (by simp)]; simp)
theorem last_at {ps : List Wr} {i : Int} {s : List UInt8} {pre : List (Fin ps.length)} {x : Fin ps.length} {k : Nat} (hk : k ≤ ps.length) (hd : pre ++ [x] = downs k) (h : ∀ y ∈ pre, (ps[y.1]).pos ≠ i) (hx : (ps[x.1]).pos = i) : lastW i s (wrD ps) = (ps[x.1]).s.l := by
  have hk0 : 0 < k := by
    rcases Nat.eq_zero_or_pos k with h0 | h0
    · subst h0; simp [downs] at hd
    · exact h0
  have hn := downs_next (m := ps.length) (j := ps.length - k) (by omega)
  rw [show ps.length - (ps.length - k) = k by omega] at hn
  rw [hn] at hd
  obtain ⟨h1, h2⟩ := List.append_inj' hd rfl
  have hx1 : x = ⟨ps.length - k, by omega⟩ := by simpa using h2
  subst h1
  rw [lastW_at (k := x.1) (by rw [wrD_len]; exact x.2) (by rw [wrD_get]; exact hx) (fun j hj hlt => by
    rw [wrD_get]
    rw [wrD_len] at hj
    refine h ⟨j, hj⟩ (mem_downs (by omega) _ ?_)
    rw [hx1] at hlt
    exact hlt), wrD_get]
  rfl

theorem blk_own {β : Type} (B T : Nat) (cs : List Value) : Own (fun (_ : β) W => Blk W B T cs) := fun s X Y row hs hg hrow =>
  (hg.block B hs.lt (fun e => by obtain ⟨o, ho, hc⟩ := hrow B e.symm; rw [show X.heap[B]? = _ from hs] at ho; cases ho; cases hc)).trans hs
theorem four_own {β : Type} (d : Dsk) (i : Int) (w : World) (B : Nat) (hB : w.heap.size ≤ B) : OwnFrom B (fun (_ : β) W => Four d i w W) := fun _ X Y row hs hg hr =>
  ⟨(blk_own (β := Unit) _ _ _).from B () X Y row hs.box hg hr, (blk_own (β := Unit) _ _ _).from B () X Y row hs.at_ hg hr, (blk_own (β := Unit) _ _ _).from B () X Y row hs.r0 hg hr, (blk_own (β := Unit) _ _ _).from B () X Y row hs.r1 hg hr, ownFrom_below (β := Unit) (Nat.le_refl _) hB () X Y row hs.bel hg hr⟩

theorem back_stops (n : Nat) (hn : 1 ≤ n) (Bs : Nat) (A : Option Addr) (ps : List Wr) (cap : Nat) (W0 : World) (hP : WrsIn n0 A ps cap W0) (hlen : ps.length ≤ 4096) (hs : Bs < W0.heap.size) (hBs : W0.cell? ⟨Bs, 0, none⟩ = some (.slice A ps.length cap)) :
    SeqStopsK Fence.wide n Try.prog 39 #[.pointer (some ⟨Bs, 0, none⟩)] (encW ps) (Below W0.heap.size) (fun ys => ys = downs ps.length) (fun pre => ∃ k, k ≤ ps.length ∧ pre = downs k) ps.length W0 :=
  fun l J Jx W hW _ _ hY h0 => back_in n hn l Bs A ps cap W0 hP hlen hs J Jx hY W hW ((hW.cell (p := ⟨Bs, 0, none⟩) hs).trans hBs) h0
theorem size_own {β : Type} (B n : Nat) : OwnFrom B (fun (_ : β) W => n ≤ W.heap.size) := fun _ _ _ _ hs hg _ => Nat.le_trans hs hg.size
theorem keeps_below {B : Nat} {W W' : World} (hb : Below W.heap.size W W') : KeepsFrom B W W' := ⟨hb.size, fun k _ _ hk _ => (hb.block k (Array.getElem?_eq_some_iff.1 hk).1).trans hk⟩
/-- The results of a call. -/
structure Done (w : World) (s : Sec) (W : World) : Prop where
  own : s.Own W
  r0 : Blk W (w.heap.size + 2) 35 [s.v]
  r1 : Blk W (w.heap.size + 3) 28 [.int .i64 0]
  bel : Below w.heap.size w W
theorem done_own (w : World) (s : Sec) (B : Nat) (hB : w.heap.size ≤ B) : OwnFrom B (fun (_ : Unit) W => Done w s W) := fun _ X Y row hs hg hr => by
  obtain ⟨⟨h5, h6, b, h7, h8⟩, h9, h10, h11⟩ := hs
  exact ⟨⟨h5, h6, b, h7, (blk_own (β := Unit) _ _ _).from B () X Y row h8 hg hr⟩, (blk_own (β := Unit) _ _ _).from B () X Y row h9 hg hr, (blk_own (β := Unit) _ _ _).from B () X Y row h10 hg hr, ownFrom_below (β := Unit) (Nat.le_refl _) hB () X Y row h11 hg hr⟩
theorem Done.leave {w W : World} {s : Sec} {D : Nat} (h : Done w s W) (hK : W.heap[D]? = some (.deferred (some []))) (hD : w.heap.size ≤ D) : Done w s (W.putObj D (.deferred none)) :=
  (done_own w s _ (Nat.le_refl _)).putObj (s := ()) _ h hD hK rfl
theorem Done.mk' {d : Dsk} {i : Int} {w W w' : World} {l : List UInt8} (hF : Four d i w w') (hB : Blk w' W.heap.size 5 (bs l)) (hl : l.length = 128) :
    Done w ⟨some ⟨W.heap.size, 0, none⟩, l, 128⟩ ((w'.setCell ⟨w.heap.size + 2, 0, none⟩ (.slice (some ⟨W.heap.size, 0, none⟩) 128 128)).setCell ⟨w.heap.size + 3, 0, none⟩ (.int .i64 0)) := by
  have h0 := hF.r0.set 0 (.slice (some ⟨W.heap.size, 0, none⟩) 128 128)
  have h1 := hF.r1.apart (p := ⟨w.heap.size + 2, 0, none⟩) (by simp) (.slice (some ⟨W.heap.size, 0, none⟩) 128 128)
  refine ⟨((Sec.Own.of hB hl).set hF.r0 (by omega) _ _).set h1 (by omega) _ _, ?_, h1.set 0 _, (hF.bel.setCell (by simp) _).setCell (by simp) _⟩
  have := h0.apart (p := ⟨w.heap.size + 3, 0, none⟩) (by simp) (.int .i64 0)
  show Blk _ _ _ [.slice (some ⟨W.heap.size, 0, none⟩) l.length 128]
  rw [hl]
  exact this
theorem Done.res {w W : World} {s : Sec} (h : Done w s W) (tmps : Array Value) (h4 : tmps.getD 4 undef = .pointer (some ⟨w.heap.size + 2, 0, none⟩)) (h5 : tmps.getD 5 undef = .pointer (some ⟨w.heap.size + 3, 0, none⟩)) :
    (results Try.f21 tmps).run Try.prog W = .ok (.tuple #[s.v, .int .i64 0]) W := by
  have c0 := (h.r0.cell 0).trans rfl
  have c1 := (h.r1.cell 0).trans rfl
  simp only [List.getElem?_cons_zero] at c0 c1
  rw [Array.getD_eq_getD_getElem?] at h4 h5
  simp [results, Try.results21, go_sem, h4, h5, c0, c1]
/-- What lies there when a round has returned. -/
def Left (d : Dsk) (i : Int) (w : World) (pre : List (Fin d.ps.length)) (W : World) : Prop :=
  ∃ pre' x, pre = pre' ++ [x] ∧ (∀ y ∈ pre', (d.ps[y.1]).pos ≠ i) ∧ (d.ps[x.1]).pos = i ∧ ∃ s : Sec, s.l = padS (d.ps[x.1]).s.l ∧ Done w s W
theorem left_own (d : Dsk) (i : Int) (w : World) (B : Nat) (hB : w.heap.size ≤ B) : OwnFrom B (fun (pre : List (Fin d.ps.length)) W => Left d i w pre W) := fun _ X Y row hs hg hr => by
  obtain ⟨pre', x, h1, h2, h3, s, h4, h5⟩ := hs
  exact ⟨pre', x, h1, h2, h3, s, h4, done_own w s B hB () X Y row h5 hg hr⟩

set_option maxRecDepth 100000 in
set_option maxHeartbeats 3200000 in
theorem read_ok (d : Dsk) (i : Nat) (w : World) (hi : d.In n0 w) (hr : d.d.runs = true) (hh : d.d.has i = true) :
    Calls Try.prog 21 #[d.v, .int .i64 i] w (AnsB n0 w (d.d.read i)) := by
  have HX := hide (show d.d.read i = (lastW i (d.d.sec.getD i []) d.d.pen, 0) by simp [Dk.read, hr, hh])
  have HI := hide hi
  have HT := hide (four_is d i w)
  have HC := hide (runs_is (four d i w) hr (HI.out.below HT.out.bel))
  have HH := hide (fun W => has_d hh W)
  have HBA := hide (fun W => back_any d.pa d.ps.length d.pc W)
  have HVL := hide (show d.ps.length ≤ 4096 ∧ (∀ k (h : k < d.ps.length), (d.ps[k]).s.l.length = 128) ∧ (∀ k (h : k < d.ss.length), (d.ss[k]).l.length = 128) by
    have : d.d.valid = true := by simp [Dk.runs] at hr; exact hr.2
    rw [valid_iff] at this
    simp only [Bool.and_eq_true] at this
    have h1 := validPen_iff.1 this.1.2
    have h2 := validSec_iff.1 this.1.1
    refine ⟨by have := h1.1; rw [wrD_len] at this; exact this, fun k h => ?_, fun k h => ?_⟩
    · have := (h1.2 k (by rw [wrD_len]; exact h)).2.2
      rw [wrD_get] at this
      exact this
    · have := h2.2 k (by rw [secD_len]; exact h)
      rw [secD_get] at this
      exact this)
  have HIX := hide (show i < d.ss.length by
    rw [has_eq] at hh
    have := (hasB_iff.1 hh).2
    omega)
  clear hi hr hh
  refine (callsIn_wide (n := 4)).1 ?_
  refine callsIn_of_wp_marks Try.func21 rfl trivial ?_ rfl
  simp only [Try.ntmps21, List.size_toArray, List.length_cons, List.length_nil, Nat.reduceAdd, Nat.reduceSub, Array.replicate_succ, Array.replicate_zero, List.push_toArray, List.append_toArray, List.nil_append, List.cons_append]
  gi_wp2_with (first | (refine ⟨trivial, ?_⟩; gi_at_call 32; refine (callsIn_wide.2 HC.out).mono ?_; rintro e w1 ⟨rfl, hb⟩; have HF1 := hide (HT.out.below hb); obtain ⟨c0, c1, c2, c3⟩ := HF1.out.box.c4; have c4 := (HF1.out.at_.cell 0).trans rfl; simp only [List.getElem?_cons_zero] at c4; clear hb) | (refine ⟨trivial, ?_⟩; gi_at_call 33; refine (callsIn_wide.2 (HH.out _)).mono ?_; rintro e w2 ⟨rfl, hb⟩; have HF2 := hide (HF1.out.below hb); clear c0 c1 c2 c3 c4 hb; obtain ⟨c0, c1, c2, c3⟩ := HF2.out.box.c4) | (refine ⟨trivial, ?_⟩; gi_at_call 35; refine (callsIn_wide.2 (HBA.out _)).mono ?_; rintro e w3 ⟨rfl, rfl⟩))
  have HW : Hid (Four d i w (w2.alloc (.cells #[.slice d.pa d.ps.length d.pc] 23)) ∧ w2.heap.size < (w2.alloc (.cells #[.slice d.pa d.ps.length d.pc] 23)).heap.size ∧ (w2.alloc (.cells #[.slice d.pa d.ps.length d.pc] 23)).cell? ⟨w2.heap.size, 0, none⟩ = some (.slice d.pa d.ps.length d.pc)) :=
    hide ⟨HF2.out.below (below_new _ _), by simp, ((Blk.new w2 23 [.slice d.pa d.ps.length d.pc]).cell 0)⟩
  have hsz : w.heap.size ≤ (w2.alloc (.cells #[.slice d.pa d.ps.length d.pc] 23)).heap.size := HW.out.1.bel.size
  clear c0 c1 c2 c3
  generalize w2.alloc (.cells #[.slice d.pa d.ps.length d.pc] 23) = W0 at *
  refine wpIn_rangeFunc_ownH rfl (by omega) (gf := 39) (lb := #[.pointer (some ⟨w2.heap.size, 0, none⟩)]) rfl trivial (enters_of Try.func39 (by kernel_rfl) rfl)
    (back_stops (4 - 1) (by omega) w2.heap.size d.pa d.ps d.pc W0 (HI.out.pen.below HW.out.1.bel) HVL.out.1 HW.out.2.1 HW.out.2.2)
    belowK_t (belowK_b (Nat.le_refl _)) (Below.refl _ _) (fun _ => rfl)
    (fun pre W => (∀ y ∈ pre, (d.ps[y.1]).pos ≠ i) ∧ (Four d i w W ∧ W0.heap.size ≤ W.heap.size))
    (fun c pre W => c = .ret ∧ Left d i w pre W)
    (OwnFrom.and (ownFrom_pure _ _) (OwnFrom.and (four_own d i w _ hsz) (size_own _ _)))
    (fun c => OwnFrom.and (ownFrom_pure _ _) (left_own d i w _ hsz))
    ⟨by simp, HW.out.1, Nat.le_refl _⟩
    (fun x a' W => ∃ Bx, W0.heap.size ≤ Bx ∧ Blk W Bx 54 (d.ps[x.1]).cs ∧ a' = { tmps := #[d.v, .int .i64 i, .pointer (some ⟨w.heap.size, 0, none⟩), .pointer (some ⟨w.heap.size + 1, 0, none⟩), .pointer (some ⟨w.heap.size + 1 + 1, 0, none⟩), .pointer (some ⟨w.heap.size + 1 + 1 + 1, 0, none⟩), undef, .pointer (some ⟨Bx, 0, none⟩),
      .agg #[.slice d.sa d.ss.length d.sc, .slice d.pa d.ps.length d.pc, .int .i64 d.left, .bool d.stp], .bool true, .bool false, .bool false, .agg #[.slice d.sa d.ss.length d.sc, .slice d.pa d.ps.length d.pc, .int .i64 d.left, .bool d.stp], .int .i64 i, .bool true, .bool false, .bool false,
      .pointer (some ⟨w.heap.size, 1, none⟩), .slice d.pa d.ps.length d.pc, .func (.func 39) #[] #[.pointer (some ⟨w2.heap.size, 0, none⟩)], .int .i64 (x.1 : Nat), (d.ps[x.1]).v, undef, undef, undef, undef, undef, undef, undef, undef, undef, undef, undef, undef, undef], defers := [] })
    (fun x a' _ X Y row hs hg hr => by obtain ⟨Bx, h1, h2, h3⟩ := hs; exact ⟨Bx, h1, (blk_own (β := Unit) _ _ _).from _ () X Y row h2 hg hr, h3⟩)
    ?assign ?body ?done ?stop
  case assign =>
    rintro l pre x W K ⟨hne, hF, hz⟩ hK
    have HF := hide hF
    have HN := hide hne
    clear hF hne
    simp only [encW]
    gi_wp2
    exact hK _ _ ((KeepsOthers.alloc _ _).from _) ((below_new W _).mono hz) ⟨HN.out, HF.out.below (below_new _ _), by simp; omega⟩ ⟨W.heap.size, hz, Blk.new W 54 (d.ps[x.1]).cs, rfl⟩
  case body =>
    rintro l pre x a' W hl ⟨r, hrr⟩ ⟨hne, hF, hz⟩ ⟨Bx, hBx, bX, rfl⟩ hlt
    have HF := hide hF
    have HN := hide hne
    have HSI := hide ((HI.out.pen.each _ (List.getElem_mem x.2)).1.below hF.bel)
    obtain ⟨x0, x1⟩ := bX.c2
    have a0 := (hF.at_.cell 0).trans rfl
    simp only [List.getElem?_cons_zero] at a0
    have h1' : 1 ≤ 4 - 1 - 1 := by omega
    clear hF hne hrr
    by_cases he : (d.ps[x.1]).pos = i
    · have he' : ((d.ps[x.1]).pos == (i : Int)) = true := by simp [he]
      have HE := hide he
      clear he
      have HS := hide (sectorOf_any _ W HSI.out)
      generalize hp : d.ps[x.1] = p at x0 x1 he' HS
      have HP := hide hp
      clear hp
      gi_wp2_with (refine ⟨trivial, ?_⟩; gi_at_call 29; refine (CallsIn.inRound l (callsIn_wide.2 HS.out)).mono ?_; rintro e w' ⟨rfl, hB, hb⟩; have HB := hide hB; have HF3 := hide (HF.out.below hb); have HKB := hide (keeps_below (B := W0.heap.size) hb); have f2 := HF3.out.r0.free 0; have f3 := (HF3.out.r1.apart (p := ⟨w.heap.size + 2, 0, none⟩) (by simp) (.slice (some ⟨W.heap.size, 0, none⟩) 128 128)).free 0; have c2 := (HF3.out.r0.cell 0).trans rfl; have c3 := ((HF3.out.r1.apart (p := ⟨w.heap.size + 2, 0, none⟩) (by simp) (.slice (some ⟨W.heap.size, 0, none⟩) 128 128)).cell 0).trans rfl; simp only [List.getElem?_cons_zero] at c2 c3; clear hB hb)
      exact ⟨(HKB.out.trans ((KeepsOthers.setCell _ _ _).from _)).trans ((KeepsOthers.setCell _ _ _).from _), rfl, pre, x, rfl, HN.out, HE.out, _, by rw [HP.out], Done.mk' HF3.out HB.out (padS_len _)⟩
    · have he' : ((d.ps[x.1]).pos == (i : Int)) = false := by simp [he]
      have HE := hide he
      clear he
      gi_wp2
      refine ⟨KeepsFrom.refl _ _, Below.refl _ _, fun y hy => ?_, HF.out, hz⟩
      rcases List.mem_append.1 hy with hy | hy
      · exact HN.out y hy
      · obtain rfl : y = x := by simpa using hy
        exact HE.out
  case done =>
    rintro D ys W hD rfl ⟨hne, hF, hz⟩ hK
    have HF := hide hF
    have HN := hide hne
    have HDK := hide hK
    have HSC := hide (show (d.ss[i]'HIX.out).In n0 W from (HI.out.sec.each _ (List.getElem_mem HIX.out)).below hF.bel)
    have HS := hide (sectorOf_any _ W HSC.out)
    have HRE := hide (show d.d.read i = ((d.ss[i]'HIX.out).l, 0) by
      rw [HX.out, show d.d.pen = wrD d.ps from rfl, last_none HN.out, show d.d.sec = secD d.ss from rfl, List.getD_eq_getElem?_getD, List.getElem?_eq_getElem (by rw [secD_len]; exact HIX.out), secD_get]
      rfl)
    have HLN := hide (HVL.out.2.2 i HIX.out)
    obtain ⟨sb, so, hsa, hsb, hsc⟩ := (HI.out.sec.below hF.bel).at HIX.out
    obtain ⟨c0, c1, c2, c3⟩ := hF.box.c4
    rw [hsa] at c0
    have a0 := (hF.at_.cell 0).trans rfl
    simp only [List.getElem?_cons_zero] at a0
    have hix : (i : Int) < d.ss.length := by have := HIX.out; omega
    have HDW := hide (show D < W.heap.size from (Array.getElem?_eq_some_iff.1 hK).1)
    clear hF hne hK hsa
    generalize (d.ss[i]'HIX.out) = sx at hsc HS HRE HLN
    gi_wp2_with (refine ⟨trivial, ?_⟩; gi_at_call 29; refine (callsIn_wide.2 HS.out).mono ?_; rintro e w' ⟨rfl, hB, hb⟩; have HB := hide hB; have HF3 := hide (HF.out.below hb); have HDK3 := hide ((hb.block D HDW.out).trans HDK.out); have f2 := HF3.out.r0.free 0; have f3 := (HF3.out.r1.apart (p := ⟨w.heap.size + 2, 0, none⟩) (by simp) (.slice (some ⟨W.heap.size, 0, none⟩) 128 128)).free 0; have e2 := (HF3.out.r0.cell 0).trans rfl; have e3 := ((HF3.out.r1.apart (p := ⟨w.heap.size + 2, 0, none⟩) (by simp) (.slice (some ⟨W.heap.size, 0, none⟩) 128 128)).cell 0).trans rfl; simp only [List.getElem?_cons_zero] at e2 e3; clear hB hb)
    have hK' := (((KeepsOthers.setCell w' ⟨w.heap.size + 1 + 1, 0, none⟩ (.slice (some ⟨W.heap.size, 0, none⟩) 128 128)).trans (KeepsOthers.setCell _ ⟨w.heap.size + 1 + 1 + 1, 0, none⟩ (.int .i64 0))).same D _ HDK3.out rfl)
    have hDn := ((Done.mk' HF3.out HB.out (padS_len sx.l)).leave hK' (Nat.le_trans hsz hD))
    refine ⟨by simp, .inl ⟨_, _, rfl, run_takeDeferred hK', ?_⟩⟩
    refine ⟨_, hDn.res _ rfl rfl, ?_⟩
    rw [HRE.out]
    exact ⟨_, rfl, padS_full HLN.out, hDn.own.in, hDn.bel⟩
  case stop =>
    rintro D c pre W hD ⟨k, hk, hpk⟩ ⟨rfl, hL⟩ hK
    obtain ⟨pre', x, h1, h2, h3, s, h4, h5⟩ := hL
    have hDn := h5.leave hK (Nat.le_trans hsz hD)
    have HRE := hide (show d.d.read i = ((d.ps[x.1]).s.l, 0) by
      rw [HX.out, show d.d.pen = wrD d.ps from rfl, last_at hk (by rw [← h1]; exact hpk) h2 h3])
    rw [padS_full (HVL.out.2.1 x.1 x.2)] at h4
    have H4 := hide h4
    have HK := hide hK
    have HDn := hide hDn
    clear h1 h2 h3 h4 h5 hpk hK hDn
    gi_wp2
    refine ⟨by simp, .inl ⟨_, _, rfl, run_takeDeferred HK.out, ?_⟩⟩
    refine ⟨_, HDn.out.res _ rfl rfl, ?_⟩
    rw [HRE.out]
    exact ⟨_, rfl, H4.out, HDn.out.own.in, HDn.out.bel⟩
theorem read_any (d : Dsk) (i : Int) (w : World) (hi : d.In n0 w) : Calls Try.prog 21 #[d.v, .int .i64 i] w (AnsB n0 w (d.d.read i)) := by
  cases hx : d.d.runs && d.d.has i with
  | false => exact read_bad d i w hi hx
  | true =>
    simp only [Bool.and_eq_true] at hx
    have h := hx.2
    rw [has_eq] at h
    obtain ⟨n, rfl⟩ := Int.eq_ofNat_of_zero_le (hasB_iff.1 h).1
    exact read_ok d n w hi hx.1 hx.2
end Go.Proofs.Ytfhfmnlkpcmgfaa
