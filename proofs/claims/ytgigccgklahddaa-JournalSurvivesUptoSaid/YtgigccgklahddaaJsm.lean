/- SameRecords and Same of the reference. -/
import Derived.Test.YtgigccgklahddaaOcc
import Derived.Test.YtgigccgklahddaaSam
import Derived.Test.YtgigccgklahddaaJfw
namespace Go.Proofs.Ytgigccgklahddaa
open Go.RowKit
variable {n0 : Nat}

theorem str_list (l : List UInt8) : (str l).toList = l := by simp [ByteArray.toList_eq]
theorem str_ne (a b : List UInt8) : ((str a).toList == (str b).toList) = (decide (a = b)) := by
  rw [str_list, str_list]
  by_cases h : a = b
  · subst h
    rw [decide_eq_true rfl, beq_self_eq_true]
  · rw [decide_eq_false h]
    exact beq_eq_false_iff_ne.2 h
set_option maxRecDepth 10000 in
set_option maxHeartbeats 3200000 in
theorem srec_any {n1 : Nat} (A : Option Addr) (l : List Sec) (ca : Nat) (B : Option Addr) (m : List Sec) (cb : Nat) (w : World) (ha : SecsIn n0 A l ca w) (hb : SecsIn n1 B m cb w) :
    Calls Try.prog 25 #[.slice A l.length ca, .slice B m.length cb] w fun e w' => e = .returned (.bool (decide (secD l = secD m))) ∧ ∃ n, w' = w.drewN n := by
  have HA := hide ha
  have HB := hide hb
  have hlen : l.length ≤ 9223372036854775807 := Nat.le_trans ha.le ha.top
  clear ha hb
  by_cases hl : l.length = m.length
  · have hn : ((l.length : Int) != m.length) = false := by simp [hl]
    have HL := hide hl
    go_enter Try.func25, Try.ntmps25
    go_wp2_with fail
    go_loopw [5] (fun i wr => ∃ (k n : Nat), k ≤ l.length ∧ i = .int .i64 k ∧ Hid ((secD l).take k = (secD m).take k) ∧ Hid (wr = w.drewN n)) (fun i _ => l.length - (intOf i).toNat)
    case atStart => exact ⟨0, 0, Nat.zero_le _, rfl, hide rfl, hide rfl⟩
    case round =>
      obtain ⟨k, n, hk, rfl, HE, HW⟩ := hrel
      have HBW := hide (show Below w.heap.size w wr by rw [HW.out]; exact below_dn _ w n)
      have HDW := hide (fun x => show wr.drewN x = w.drewN (n + x) by rw [HW.out, World.drewN_drewN])
      by_cases hlt : k < l.length
      · have hlt' : k < m.length := by omega
        have hi1 : (k : Int) < m.length := by omega
        obtain ⟨b, o, hsa, _, c0⟩ := (HA.out.below HBW.out).at hlt
        obtain ⟨b', o', hsa', _, c1⟩ := (HB.out.below HBW.out).at hlt'
        subst hsa hsa'
        have hv0 := fun x => (((HA.out.each _ (List.getElem_mem hlt)).below HBW.out).below (below_dn _ wr x)).conv
        have hv1 := fun x => (((HB.out.each _ (List.getElem_mem hlt')).below HBW.out).below (below_dn _ wr x)).conv
        have hne := str_ne (l[k]).l (m[k]).l
        by_cases he : (l[k]).l = (m[k]).l
        · have HE2 : Hid ((secD l).take (k + 1) = (secD m).take (k + 1)) := hide (by
            rw [List.take_succ_eq_append_getElem (by rw [secD_len]; exact hlt), List.take_succ_eq_append_getElem (by rw [secD_len]; exact hlt'), HE.out, secD_get, secD_get, he])
          rw [decide_eq_true he] at hne
          clear he HL HE
          generalize str (l[k]).l = t at hv0 hne
          generalize str (m[k]).l = t' at hv1 hne
          generalize l[k] = s at *
          generalize m[k] = s' at *
          go_wp2_with fail
          go_quiet (fail)
          go_wp2_with fail
          go_roundw
          case rel => exact ⟨k + 1, _, by omega, by go_num, HE2, hide (HDW.out _)⟩
          case measure => simp [intOf]; omega
        · have HN : Hid (decide (secD l = secD m) = false) := hide (decide_eq_false fun h => he (by
            have e : (secD l)[k]? = (secD m)[k]? := by rw [h]
            rw [List.getElem?_eq_getElem (by rw [secD_len]; exact hlt), List.getElem?_eq_getElem (by rw [secD_len]; exact hlt'), secD_get, secD_get] at e
            exact Option.some.inj e))
          rw [decide_eq_false he] at hne
          clear he HL HE
          generalize str (l[k]).l = t at hv0 hne
          generalize str (m[k]).l = t' at hv1 hne
          generalize l[k] = s at *
          generalize m[k] = s' at *
          go_wp2_with fail
          go_quiet (fail)
          go_wp2_with fail
          go_ret
          exact ⟨by rw [HN.out]; rfl, _, HDW.out _⟩
      · obtain rfl : k = l.length := by omega
        have HN : Hid (decide (secD l = secD m) = true) := hide (decide_eq_true (by
          have := HE.out
          rw [List.take_of_length_le (by rw [secD_len]; exact Nat.le_refl _), List.take_of_length_le (by rw [secD_len, HL.out]; exact Nat.le_refl _)] at this
          exact this))
        have hge : ¬ ((l.length : Int) < l.length) := by omega
        clear hlt HL HE
        go_wp2_with fail
        go_ret
        exact ⟨by rw [HN.out]; rfl, _, HW.out⟩
  · have hn : ((l.length : Int) != m.length) = true := by simp; omega
    have HN : Hid (decide (secD l = secD m) = false) := hide (decide_eq_false fun h => hl (by
      have := congrArg List.length h
      rw [secD_len, secD_len] at this
      exact this))
    rw [HN.out]
    clear hl HN
    go_enter Try.func25, Try.ntmps25
    go_wp2_with fail
    go_ret
    exact ⟨rfl, 0, rfl⟩
end Go.Proofs.Ytgigccgklahddaa

/- Check, Room and Same of the reference. -/
namespace Go.Proofs.Ytgigccgklahddaa
open Go.RowKit
variable {n0 : Nat}

set_option maxRecDepth 100000 in
set_option maxHeartbeats 3200000 in
theorem jrcheck_any (j : Jr) (w : World) (hi : j.In n0 w) :
    Calls Try.prog 18 #[j.v] w fun e w' => e = .returned (.int .i64 (jchk j.k)) ∧ Below w.heap.size w w' := by
  obtain ⟨A, rs, cap, many, synced⟩ := j
  have HB := hide (Blk.new w 29 [.slice A rs.length cap, .int .i64 many, .int .i64 synced])
  have HW := hide (below_new w (.cells #[.slice A rs.length cap, .int .i64 many, .int .i64 synced] 29))
  have HX := hide (show (Jr.mk A rs cap many synced).k.ok = (decide (1 ≤ many) && (decide (many ≤ 4096) && (decide (0 ≤ synced) && (decide (synced ≤ rs.length) && decide ((usedB (secD rs) : Int) ≤ many))))) by
    show Jk.ok ⟨secD rs, many, synced⟩ = _
    simp only [Jk.ok, secD_len])
  have HO := hide (show ∀ n, Calls Try.prog 40 #[.slice A rs.length cap] ((w.alloc (.cells #[.slice A rs.length cap, .int .i64 many, .int .i64 synced] 29)).drewN n) fun e w' => e = .returned (.int .i64 (usedB (secD rs) : Nat)) ∧ w' = ((w.alloc (.cells #[.slice A rs.length cap, .int .i64 many, .int .i64 synced] 29)).drewN n) from fun n => (used_any A rs cap _ ((hi.recs.below HW.out).below (below_dn _ _ n)) hi.short hi.few).mono fun _ _ h => ⟨h.1, h.2.symm⟩)
  have c0 := HB.out.cell 0
  have c1 := HB.out.cell 1
  have c2 := HB.out.cell 2
  simp only [List.getElem?_cons_zero, List.getElem?_cons_succ] at c0 c1 c2
  have HZ := hide (show ∀ n, Below w.heap.size w ((w.alloc (.cells #[.slice A rs.length cap, .int .i64 many, .int .i64 synced] 29)).drewN n) from fun n => below_drewN HW.out n)
  have hlen : rs.length ≤ cap := hi.recs.le
  have hlen2 : cap ≤ 9223372036854775807 := hi.recs.top
  clear hi HB
  have key : (many < 1 ∧ jchk (Jr.mk A rs cap many synced).k = 1) ∨ (1 ≤ many ∧ 4096 < many ∧ jchk (Jr.mk A rs cap many synced).k = 1) ∨ (1 ≤ many ∧ many ≤ 4096 ∧ synced < 0 ∧ jchk (Jr.mk A rs cap many synced).k = 1) ∨ (1 ≤ many ∧ many ≤ 4096 ∧ 0 ≤ synced ∧ (rs.length : Int) < synced ∧ jchk (Jr.mk A rs cap many synced).k = 1) ∨ (1 ≤ many ∧ many ≤ 4096 ∧ 0 ≤ synced ∧ synced ≤ rs.length ∧ ((many < (usedB (secD rs) : Int) ∧ jchk (Jr.mk A rs cap many synced).k = 1) ∨ ((usedB (secD rs) : Int) ≤ many ∧ jchk (Jr.mk A rs cap many synced).k = 0))) := by
    cases hk : (Jr.mk A rs cap many synced).k.ok with
    | true =>
      rw [HX.out] at hk
      simp only [Bool.and_eq_true, decide_eq_true_eq] at hk
      have := jchk_yes (j := (Jr.mk A rs cap many synced).k) (by rw [HX.out]; simp only [Bool.and_eq_true, decide_eq_true_eq]; exact hk)
      exact .inr (.inr (.inr (.inr ⟨hk.1, hk.2.1, hk.2.2.1, hk.2.2.2.1, .inr ⟨hk.2.2.2.2, this⟩⟩)))
    | false =>
      have := jchk_no hk
      rw [HX.out] at hk
      simp only [Bool.and_eq_false_iff, decide_eq_false_iff_not] at hk
      simp only [this, and_true]
      omega
  clear HX
  rcases key with ⟨h1, hj⟩ | ⟨h1, h2, hj⟩ | ⟨h1, h2, h3, hj⟩ | ⟨h1, h2, h3, h4, hj⟩ | ⟨h1, h2, h3, h4, ⟨h5, hj⟩ | ⟨h5, hj⟩⟩
  all_goals rw [hj]
  · have d1 : decide (many < 1) = true := decide_eq_true h1
    clear HO h1 hj
    go_enter Try.func18, Try.ntmps18
    go_wp2_with fail
    go_quiet (fail)
    go_wp2_with fail
    go_ret
    exact ⟨rfl, HZ.out _⟩
  · have d1 : decide (many < 1) = false := decide_eq_false (by omega)
    have d2 : decide (4096 < many) = true := decide_eq_true h2
    clear HO h1 h2 hj
    go_enter Try.func18, Try.ntmps18
    go_wp2_with fail
    go_quiet (fail)
    go_wp2_with fail
    go_ret
    exact ⟨rfl, HZ.out _⟩
  · have d1 : decide (many < 1) = false := decide_eq_false (by omega)
    have d2 : decide (4096 < many) = false := decide_eq_false (by omega)
    have d3 : decide (synced < 0) = true := decide_eq_true h3
    clear HO h1 h2 h3 hj
    go_enter Try.func18, Try.ntmps18
    go_wp2_with fail
    go_quiet (fail)
    go_wp2_with fail
    go_ret
    exact ⟨rfl, HZ.out _⟩
  · have d1 : decide (many < 1) = false := decide_eq_false (by omega)
    have d2 : decide (4096 < many) = false := decide_eq_false (by omega)
    have d3 : decide (synced < 0) = false := decide_eq_false (by omega)
    have d4 : decide ((rs.length : Int) < synced) = true := decide_eq_true h4
    clear HO h1 h2 h3 h4 hj
    go_enter Try.func18, Try.ntmps18
    go_wp2_with fail
    go_quiet (fail)
    go_wp2_with fail
    go_ret
    exact ⟨rfl, HZ.out _⟩
  · have d1 : decide (many < 1) = false := decide_eq_false (by omega)
    have d2 : decide (4096 < many) = false := decide_eq_false (by omega)
    have d3 : decide (synced < 0) = false := decide_eq_false (by omega)
    have d4 : decide ((rs.length : Int) < synced) = false := decide_eq_false (by omega)
    have d5 : decide (many < (usedB (secD rs) : Int)) = true := decide_eq_true h5
    clear h1 h2 h3 h4 h5 hj
    generalize usedB (secD rs) = u at *
    go_enter Try.func18, Try.ntmps18
    go_wp2_with fail
    go_quiet (first | (go_at_call 40; refine Calls.quiet_of_same (HO.out _)))
    go_wp2_with fail
    go_ret
    exact ⟨rfl, HZ.out _⟩
  · have d1 : decide (many < 1) = false := decide_eq_false (by omega)
    have d2 : decide (4096 < many) = false := decide_eq_false (by omega)
    have d3 : decide (synced < 0) = false := decide_eq_false (by omega)
    have d4 : decide ((rs.length : Int) < synced) = false := decide_eq_false (by omega)
    have d5 : decide (many < (usedB (secD rs) : Int)) = false := decide_eq_false (by omega)
    clear h1 h2 h3 h4 h5 hj
    generalize usedB (secD rs) = u at *
    go_enter Try.func18, Try.ntmps18
    go_wp2_with fail
    go_quiet (first | (go_at_call 40; refine Calls.quiet_of_same (HO.out _)))
    go_wp2_with fail
    go_ret
    exact ⟨rfl, HZ.out _⟩
end Go.Proofs.Ytgigccgklahddaa

/- Room and Same of the reference. -/
namespace Go.Proofs.Ytgigccgklahddaa
open Go.RowKit
variable {n0 n1 : Nat}

def sameJ (x y : Jk) : Bool := decide (x.many = y.many) && (decide (x.synced = y.synced) && decide (x.recs = y.recs))
theorem sameJ_iff {x y : Jk} : sameJ x y = true ↔ x = y := by
  obtain ⟨a, b, c⟩ := x
  obtain ⟨a', b', c'⟩ := y
  simp only [sameJ, Bool.and_eq_true, decide_eq_true_eq, Jk.mk.injEq]
  exact ⟨fun h => ⟨h.2.2, h.1, h.2.1⟩, fun h => ⟨h.2.1, h.2.2, h.1⟩⟩
theorem sameJ_self (x : Jk) : sameJ x x = true := sameJ_iff.2 rfl
set_option maxRecDepth 100000 in
set_option maxHeartbeats 3200000 in
theorem jsame_any (a b : Jr) (w : World) (ha : a.In n0 w) (hb : b.In n1 w) :
    Calls Try.prog 14 #[a.v, b.v] w fun e w' => e = .returned (.bool (sameJ a.k b.k)) ∧ Below w.heap.size w w' := by
  obtain ⟨A, l, ca, ma, sa⟩ := a
  obtain ⟨B, m, cb, mb, sb⟩ := b
  have HK : Hid (Below w.heap.size w ((w.alloc (.cells #[.slice A l.length ca, .int .i64 ma, .int .i64 sa] 29)).alloc (.cells #[.slice B m.length cb, .int .i64 mb, .int .i64 sb] 29))) := hide ((below_new _ _).alloc (by simp) _)
  have b1 := (Blk.new w 29 [.slice A l.length ca, .int .i64 ma, .int .i64 sa]).alloc (.cells #[.slice B m.length cb, .int .i64 mb, .int .i64 sb] 29)
  have b2 := Blk.new (w.alloc (.cells #[.slice A l.length ca, .int .i64 ma, .int .i64 sa] 29)) 29 [.slice B m.length cb, .int .i64 mb, .int .i64 sb]
  rw [World.size_alloc] at b2
  have c0 := b1.cell 0
  have c1 := b1.cell 1
  have c2 := b1.cell 2
  have e0 := b2.cell 0
  have e1 := b2.cell 1
  have e2 := b2.cell 2
  simp only [List.getElem?_cons_zero, List.getElem?_cons_succ] at c0 c1 c2 e0 e1 e2
  have HS := hide (srec_any A l ca B m cb _ (ha.recs.below HK.out) (hb.recs.below HK.out))
  have HR : Hid (sameJ (Jr.mk A l ca ma sa).k (Jr.mk B m cb mb sb).k = (decide (ma = mb) && (decide (sa = sb) && decide (secD l = secD m)))) := hide rfl
  clear ha hb b1 b2
  by_cases h1 : ma = mb
  · have d1 : (ma == mb) = true := by simp [h1]
    by_cases h2 : sa = sb
    · have d2 : (sa == sb) = true := by simp [h2]
      rw [HR.out, decide_eq_true h1, decide_eq_true h2]
      clear h1 h2 HR
      go_enter Try.func14, Try.ntmps14
      go_wp2_with fail
      refine HS.out.mono ?_
      rintro e w2 ⟨rfl, n, rfl⟩
      have HF := hide (below_drewN HK.out n)
      go_wp2_with fail
      go_ret
      exact ⟨rfl, HF.out⟩
    · have d2 : (sa == sb) = false := by simp [h2]
      rw [HR.out, decide_eq_true h1, decide_eq_false h2]
      clear h1 h2 HR HS
      go_enter Try.func14, Try.ntmps14
      go_wp2_with fail
      go_ret
      exact ⟨rfl, HK.out⟩
  · have d1 : (ma == mb) = false := by simp [h1]
    rw [HR.out, decide_eq_false h1]
    clear h1 HR HS
    go_enter Try.func14, Try.ntmps14
    go_wp2_with fail
    go_ret
    exact ⟨rfl, HK.out⟩

set_option maxRecDepth 100000 in
set_option maxHeartbeats 3200000 in
theorem jrroom_any (j : Jr) (w : World) (hi : j.In n0 w) :
    Calls Try.prog 20 #[j.v] w fun e w' => e = .returned (.int .i64 (if j.k.ok = true then 112 * (j.many - usedB (secD j.rs)) else 0)) ∧ Below w.heap.size w w' := by
  obtain ⟨A, rs, cap, many, synced⟩ := j
  have HB := hide (Blk.new w 29 [.slice A rs.length cap, .int .i64 many, .int .i64 synced])
  have HW := hide (below_new w (.cells #[.slice A rs.length cap, .int .i64 many, .int .i64 synced] 29))
  have HC := hide (jrcheck_any _ _ (hi.below HW.out))
  have HO := hide (show ∀ W, Below (w.alloc (.cells #[.slice A rs.length cap, .int .i64 many, .int .i64 synced] 29)).heap.size (w.alloc (.cells #[.slice A rs.length cap, .int .i64 many, .int .i64 synced] 29)) W → Calls Try.prog 40 #[.slice A rs.length cap] W fun e w' => e = .returned (.int .i64 (usedB (secD rs) : Nat)) ∧ w' = W from fun W hW => (used_any A rs cap _ ((hi.recs.below HW.out).below hW) hi.short hi.few).mono fun _ _ h => ⟨h.1, h.2.symm⟩)
  have c0 := HB.out.cell 0
  have c1 := HB.out.cell 1
  have c2 := HB.out.cell 2
  simp only [List.getElem?_cons_zero, List.getElem?_cons_succ] at c0 c1 c2
  clear hi
  cases hk : (Jr.mk A rs cap many synced).k.ok with
  | false =>
    rw [jchk_no hk] at HC
    clear hk
    go_enter Try.func20, Try.ntmps20
    go_wp2_with fail
    refine HC.out.mono ?_
    rintro e w1 ⟨rfl, hb⟩
    have HF := hide (below_one HW.out hb)
    clear hb
    go_wp2_with fail
    go_ret
    exact ⟨rfl, HF.out⟩
  | true =>
    rw [jchk_yes hk] at HC
    obtain ⟨h1, h2, h3, h4, h5⟩ := ok_iff.1 hk
    replace h1 : 1 ≤ many := h1
    replace h2 : many ≤ 4096 := h2
    replace h5 : (usedB (secD rs) : Int) ≤ many := h5
    clear h3 h4 hk
    generalize usedB (secD rs) = u at *
    go_enter Try.func20, Try.ntmps20
    go_wp2_with fail
    refine HC.out.mono ?_
    rintro e w1 ⟨rfl, hb⟩
    have HF := hide (below_one HW.out hb)
    have HOn := hide (fun n => HO.out (w1.drewN n) (below_drewN hb n))
    replace c0 := (hb.cell (p := ⟨w.heap.size, 0, none⟩) HB.out.lt).trans c0
    replace c1 := (hb.cell (p := ⟨w.heap.size, 1, none⟩) HB.out.lt).trans c1
    clear hb HB c2
    have HD := hide (fun n => below_drewN HF.out n)
    go_wp2_with fail
    go_quiet (first | (go_at_call 40; refine Calls.quiet_of_same (HOn.out _)))
    go_wp2_with fail
    go_ret
    exact ⟨rfl, HD.out _⟩
end Go.Proofs.Ytgigccgklahddaa
