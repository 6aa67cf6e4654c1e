/- Room and Same of the reference. -/
import Derived.Test.YtgigccgklahddaaJrc
namespace Go.Proofs.Ytgigccgklahddaa
open Go.RowKit
variable {n0 n1 : Nat}

def sameJ (x y : Jk) : Bool := decide (x.many = y.many) && (decide (x.synced = y.synced) && decide (x.recs = y.recs))
theorem sameJ_iff {x y : Jk} : sameJ x y = true ↔ x = y := by
  obtain ⟨a, b, c⟩ := x
  obtain ⟨a', b', c'⟩ := y
  simp only [sameJ, Bool.and_eq_true, decide_eq_true_eq, Jk.mk.injEq]
  exact ⟨fun h => ⟨h.2.2, h.1, h.2.1⟩, fun h => ⟨h.2.1, h.2.2, h.1⟩⟩
theorem sameJ_self (x : Jk) : sameJ x x = true := sameJ_iff.2 rfl
set_option maxRecDepth 100000 in
set_option maxHeartbeats 3200000 in
theorem jsame_any (a b : Jr) (w : World) (ha : a.In n0 w) (hb : b.In n1 w) :
    Calls Try.prog 14 #[a.v, b.v] w fun e w' => e = .returned (.bool (sameJ a.k b.k)) ∧ Below w.heap.size w w' := by
  obtain ⟨A, l, ca, ma, sa⟩ := a
  obtain ⟨B, m, cb, mb, sb⟩ := b
  have HK : Hid (Below w.heap.size w ((w.alloc (.cells #[.slice A l.length ca, .int .i64 ma, .int .i64 sa] 29)).alloc (.cells #[.slice B m.length cb, .int .i64 mb, .int .i64 sb] 29))) := hide ((below_new _ _).alloc (by simp) _)
  have b1 := (Blk.new w 29 [.slice A l.length ca, .int .i64 ma, .int .i64 sa]).alloc (.cells #[.slice B m.length cb, .int .i64 mb, .int .i64 sb] 29)
  have b2 := Blk.new (w.alloc (.cells #[.slice A l.length ca, .int .i64 ma, .int .i64 sa] 29)) 29 [.slice B m.length cb, .int .i64 mb, .int .i64 sb]
  rw [World.size_alloc] at b2
  have c0 := b1.cell 0
  have c1 := b1.cell 1
  have c2 := b1.cell 2
  have e0 := b2.cell 0
  have e1 := b2.cell 1
  have e2 := b2.cell 2
  simp only [List.getElem?_cons_zero, List.getElem?_cons_succ] at c0 c1 c2 e0 e1 e2
  have HS := hide (srec_any A l ca B m cb _ (ha.recs.below HK.out) (hb.recs.below HK.out))
  have HR : Hid (sameJ (Jr.mk A l ca ma sa).k (Jr.mk B m cb mb sb).k = (decide (ma = mb) && (decide (sa = sb) && decide (secD l = secD m)))) := hide rfl
  clear ha hb b1 b2
  by_cases h1 : ma = mb
  · have d1 : (ma == mb) = true := by simp [h1]
    by_cases h2 : sa = sb
    · have d2 : (sa == sb) = true := by simp [h2]
      rw [HR.out, decide_eq_true h1, decide_eq_true h2]
      clear h1 h2 HR
      go_enter Try.func14, Try.ntmps14
      go_wp2_with fail
      refine HS.out.mono ?_
      rintro e w2 ⟨rfl, n, rfl⟩
      have HF := hide (below_drewN HK.out n)
      go_wp2_with fail
      go_ret
      exact ⟨rfl, HF.out⟩
    · have d2 : (sa == sb) = false := by simp [h2]
      rw [HR.out, decide_eq_true h1, decide_eq_false h2]
      clear h1 h2 HR HS
      go_enter Try.func14, Try.ntmps14
      go_wp2_with fail
      go_ret
      exact ⟨rfl, HK.out⟩
  · have d1 : (ma == mb) = false := by simp [h1]
    rw [HR.out, decide_eq_false h1]
    clear h1 HR HS
    go_enter Try.func14, Try.ntmps14
    go_wp2_with fail
    go_ret
    exact ⟨rfl, HK.out⟩

set_option maxRecDepth 100000 in
set_option maxHeartbeats 3200000 in
theorem jrroom_any (j : Jr) (w : World) (hi : j.In n0 w) :
    Calls Try.prog 20 #[j.v] w fun e w' => e = .returned (.int .i64 (if j.k.ok = true then 112 * (j.many - usedB (secD j.rs)) else 0)) ∧ Below w.heap.size w w' := by
  obtain ⟨A, rs, cap, many, synced⟩ := j
  have HB := hide (Blk.new w 29 [.slice A rs.length cap, .int .i64 many, .int .i64 synced])
  have HW := hide (below_new w (.cells #[.slice A rs.length cap, .int .i64 many, .int .i64 synced] 29))
  have HC := hide (jrcheck_any _ _ (hi.below HW.out))
  have HO := hide (show ∀ W, Below (w.alloc (.cells #[.slice A rs.length cap, .int .i64 many, .int .i64 synced] 29)).heap.size (w.alloc (.cells #[.slice A rs.length cap, .int .i64 many, .int .i64 synced] 29)) W → Calls Try.prog 40 #[.slice A rs.length cap] W fun e w' => e = .returned (.int .i64 (usedB (secD rs) : Nat)) ∧ w' = W from fun W hW => (used_any A rs cap _ ((hi.recs.below HW.out).below hW) hi.short hi.few).mono fun _ _ h => ⟨h.1, h.2.symm⟩)
  have c0 := HB.out.cell 0
  have c1 := HB.out.cell 1
  have c2 := HB.out.cell 2
  simp only [List.getElem?_cons_zero, List.getElem?_cons_succ] at c0 c1 c2
  clear hi
  cases hk : (Jr.mk A rs cap many synced).k.ok with
  | false =>
    rw [jchk_no hk] at HC
    clear hk
    go_enter Try.func20, Try.ntmps20
    go_wp2_with fail
    refine HC.out.mono ?_
    rintro e w1 ⟨rfl, hb⟩
    have HF := hide (below_one HW.out hb)
    clear hb
    go_wp2_with fail
    go_ret
    exact ⟨rfl, HF.out⟩
  | true =>
    rw [jchk_yes hk] at HC
    obtain ⟨h1, h2, h3, h4, h5⟩ := ok_iff.1 hk
    replace h1 : 1 ≤ many := h1
    replace h2 : many ≤ 4096 := h2
    replace h5 : (usedB (secD rs) : Int) ≤ many := h5
    clear h3 h4 hk
    generalize usedB (secD rs) = u at *
    go_enter Try.func20, Try.ntmps20
    go_wp2_with fail
    refine HC.out.mono ?_
    rintro e w1 ⟨rfl, hb⟩
    have HF := hide (below_one HW.out hb)
    have HOn := hide (fun n => HO.out (w1.drewN n) (below_drewN hb n))
    replace c0 := (hb.cell (p := ⟨w.heap.size, 0, none⟩) HB.out.lt).trans c0
    replace c1 := (hb.cell (p := ⟨w.heap.size, 1, none⟩) HB.out.lt).trans c1
    clear hb HB c2
    have HD := hide (fun n => below_drewN HF.out n)
    go_wp2_with fail
    go_quiet (first | (go_at_call 40; refine Calls.quiet_of_same (HOn.out _)))
    go_wp2_with fail
    go_ret
    exact ⟨rfl, HD.out _⟩
end Go.Proofs.Ytgigccgklahddaa
