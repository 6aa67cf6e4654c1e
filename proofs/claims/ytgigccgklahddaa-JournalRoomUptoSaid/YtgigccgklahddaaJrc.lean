/- Check, Room and Same of the reference. -/
import Derived.Test.YtgigccgklahddaaJfw
import Derived.Test.YtgigccgklahddaaSrec
namespace Go.Proofs.Ytgigccgklahddaa
open Go.RowKit
variable {n0 : Nat}

set_option maxRecDepth 100000 in
set_option maxHeartbeats 3200000 in
theorem jrcheck_any (j : Jr) (w : World) (hi : j.In n0 w) :
    Calls Try.prog 18 #[j.v] w fun e w' => e = .returned (.int .i64 (jchk j.k)) ∧ Below w.heap.size w w' := by
  obtain ⟨A, rs, cap, many, synced⟩ := j
  have HB := hide (Blk.new w 29 [.slice A rs.length cap, .int .i64 many, .int .i64 synced])
  have HW := hide (below_new w (.cells #[.slice A rs.length cap, .int .i64 many, .int .i64 synced] 29))
  have HX := hide (show (Jr.mk A rs cap many synced).k.ok = (decide (1 ≤ many) && (decide (many ≤ 4096) && (decide (0 ≤ synced) && (decide (synced ≤ rs.length) && decide ((usedB (secD rs) : Int) ≤ many))))) by
    show Jk.ok ⟨secD rs, many, synced⟩ = _
    simp only [Jk.ok, secD_len])
  have HO := hide (show ∀ n, Calls Try.prog 40 #[.slice A rs.length cap] ((w.alloc (.cells #[.slice A rs.length cap, .int .i64 many, .int .i64 synced] 29)).drewN n) fun e w' => e = .returned (.int .i64 (usedB (secD rs) : Nat)) ∧ w' = ((w.alloc (.cells #[.slice A rs.length cap, .int .i64 many, .int .i64 synced] 29)).drewN n) from fun n => (used_any A rs cap _ ((hi.recs.below HW.out).below (below_dn _ _ n)) hi.short hi.few).mono fun _ _ h => ⟨h.1, h.2.symm⟩)
  have c0 := HB.out.cell 0
  have c1 := HB.out.cell 1
  have c2 := HB.out.cell 2
  simp only [List.getElem?_cons_zero, List.getElem?_cons_succ] at c0 c1 c2
  have HZ := hide (show ∀ n, Below w.heap.size w ((w.alloc (.cells #[.slice A rs.length cap, .int .i64 many, .int .i64 synced] 29)).drewN n) from fun n => below_drewN HW.out n)
  have hlen : rs.length ≤ cap := hi.recs.le
  have hlen2 : cap ≤ 9223372036854775807 := hi.recs.top
  clear hi HB
  have key : (many < 1 ∧ jchk (Jr.mk A rs cap many synced).k = 1) ∨ (1 ≤ many ∧ 4096 < many ∧ jchk (Jr.mk A rs cap many synced).k = 1) ∨ (1 ≤ many ∧ many ≤ 4096 ∧ synced < 0 ∧ jchk (Jr.mk A rs cap many synced).k = 1) ∨ (1 ≤ many ∧ many ≤ 4096 ∧ 0 ≤ synced ∧ (rs.length : Int) < synced ∧ jchk (Jr.mk A rs cap many synced).k = 1) ∨ (1 ≤ many ∧ many ≤ 4096 ∧ 0 ≤ synced ∧ synced ≤ rs.length ∧ ((many < (usedB (secD rs) : Int) ∧ jchk (Jr.mk A rs cap many synced).k = 1) ∨ ((usedB (secD rs) : Int) ≤ many ∧ jchk (Jr.mk A rs cap many synced).k = 0))) := by
    cases hk : (Jr.mk A rs cap many synced).k.ok with
    | true =>
      rw [HX.out] at hk
      simp only [Bool.and_eq_true, decide_eq_true_eq] at hk
      have := jchk_yes (j := (Jr.mk A rs cap many synced).k) (by rw [HX.out]; simp only [Bool.and_eq_true, decide_eq_true_eq]; exact hk)
      exact .inr (.inr (.inr (.inr ⟨hk.1, hk.2.1, hk.2.2.1, hk.2.2.2.1, .inr ⟨hk.2.2.2.2, this⟩⟩)))
    | false =>
      have := jchk_no hk
      rw [HX.out] at hk
      simp only [Bool.and_eq_false_iff, decide_eq_false_iff_not] at hk
      simp only [this, and_true]
      omega
  clear HX
  rcases key with ⟨h1, hj⟩ | ⟨h1, h2, hj⟩ | ⟨h1, h2, h3, hj⟩ | ⟨h1, h2, h3, h4, hj⟩ | ⟨h1, h2, h3, h4, ⟨h5, hj⟩ | ⟨h5, hj⟩⟩
  all_goals rw [hj]
  · have d1 : decide (many < 1) = true := decide_eq_true h1
    clear HO h1 hj
    go_enter Try.func18, Try.ntmps18
    go_wp2_with fail
    go_quiet (fail)
    go_wp2_with fail
    go_ret
    exact ⟨rfl, HZ.out _⟩
  · have d1 : decide (many < 1) = false := decide_eq_false (by omega)
    have d2 : decide (4096 < many) = true := decide_eq_true h2
    clear HO h1 h2 hj
    go_enter Try.func18, Try.ntmps18
    go_wp2_with fail
    go_quiet (fail)
    go_wp2_with fail
    go_ret
    exact ⟨rfl, HZ.out _⟩
  · have d1 : decide (many < 1) = false := decide_eq_false (by omega)
    have d2 : decide (4096 < many) = false := decide_eq_false (by omega)
    have d3 : decide (synced < 0) = true := decide_eq_true h3
    clear HO h1 h2 h3 hj
    go_enter Try.func18, Try.ntmps18
    go_wp2_with fail
    go_quiet (fail)
    go_wp2_with fail
    go_ret
    exact ⟨rfl, HZ.out _⟩
  · have d1 : decide (many < 1) = false := decide_eq_false (by omega)
    have d2 : decide (4096 < many) = false := decide_eq_false (by omega)
    have d3 : decide (synced < 0) = false := decide_eq_false (by omega)
    have d4 : decide ((rs.length : Int) < synced) = true := decide_eq_true h4
    clear HO h1 h2 h3 h4 hj
    go_enter Try.func18, Try.ntmps18
    go_wp2_with fail
    go_quiet (fail)
    go_wp2_with fail
    go_ret
    exact ⟨rfl, HZ.out _⟩
  · have d1 : decide (many < 1) = false := decide_eq_false (by omega)
    have d2 : decide (4096 < many) = false := decide_eq_false (by omega)
    have d3 : decide (synced < 0) = false := decide_eq_false (by omega)
    have d4 : decide ((rs.length : Int) < synced) = false := decide_eq_false (by omega)
    have d5 : decide (many < (usedB (secD rs) : Int)) = true := decide_eq_true h5
    clear h1 h2 h3 h4 h5 hj
    generalize usedB (secD rs) = u at *
    go_enter Try.func18, Try.ntmps18
    go_wp2_with fail
    go_quiet (first | (go_at_call 40; refine Calls.quiet_of_same (HO.out _)))
    go_wp2_with fail
    go_ret
    exact ⟨rfl, HZ.out _⟩
  · have d1 : decide (many < 1) = false := decide_eq_false (by omega)
    have d2 : decide (4096 < many) = false := decide_eq_false (by omega)
    have d3 : decide (synced < 0) = false := decide_eq_false (by omega)
    have d4 : decide ((rs.length : Int) < synced) = false := decide_eq_false (by omega)
    have d5 : decide (many < (usedB (secD rs) : Int)) = false := decide_eq_false (by omega)
    clear h1 h2 h3 h4 h5 hj
    generalize usedB (secD rs) = u at *
    go_enter Try.func18, Try.ntmps18
    go_wp2_with fail
    go_quiet (first | (go_at_call 40; refine Calls.quiet_of_same (HO.out _)))
    go_wp2_with fail
    go_ret
    exact ⟨rfl, HZ.out _⟩
end Go.Proofs.Ytgigccgklahddaa
