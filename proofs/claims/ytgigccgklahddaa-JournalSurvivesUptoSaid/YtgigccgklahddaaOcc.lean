/- occupied, left, Check, Room. -/
import Derived.Test.YtgigccgklahddaaRec
namespace Go.Proofs.Ytgigccgklahddaa
open Go.RowKit
variable {n0 : Nat}

/-- How many sectors so many bytes occupy. -/
def secN (n : Nat) : Nat := max 1 ((n + 111) / 112)
def usedB (l : List (List UInt8)) : Nat := l.foldl (fun n b => n + secN b.length) 0
theorem usedB_take {l : List (List UInt8)} {k : Nat} (h : k < l.length) : usedB (l.take (k + 1)) = usedB (l.take k) + secN (l[k]).length := by
  unfold usedB
  rw [List.take_succ_eq_append_getElem h, List.foldl_append]
  rfl
theorem secN_le {n : Nat} (h : n ≤ 140737488355328) : secN n ≤ 1256584717460 := by unfold secN; omega
theorem secN_pos (n : Nat) : 1 ≤ secN n := by unfold secN; omega
theorem usedB_app (a b : List (List UInt8)) : usedB (a ++ b) = usedB a + usedB b := by
  have key : ∀ (l : List (List UInt8)) (n : Nat), l.foldl (fun n b => n + secN b.length) n = n + l.foldl (fun n b => n + secN b.length) 0 := by
    intro l
    induction l with
    | nil => intro n; rfl
    | cons x l ih => intro n; rw [List.foldl_cons, List.foldl_cons, ih (n + secN x.length), ih (0 + secN x.length)]; omega
  unfold usedB
  rw [List.foldl_append, key b]
theorem usedB_one (b : List UInt8) : usedB [b] = secN b.length := by simp [usedB]
attribute [irreducible] secN usedB
theorem quo_sec (n : Nat) : (if 1 < ((n : Int) + 112 - 1) / 112 then ((n : Int) + 112 - 1) / 112 else 1) = ((secN n : Nat) : Int) := by
  unfold secN
  split <;> omega

set_option maxRecDepth 100000 in
set_option maxHeartbeats 1600000 in
theorem occ_cells (A : Option Addr) (l : List Sec) (cap : Nat) (w : World) (hi : ∀ k (h : k < l.length), ∃ b o, A = some ⟨b, o, none⟩ ∧ b < w.heap.size ∧ w.cell? ⟨b, o + k, none⟩ = some (l[k]).v) (hs : ∀ s ∈ l, s.l.length ≤ 140737488355328) (hl : l.length ≤ 1000000) :
    Calls Try.prog 35 #[.slice A l.length cap] w fun e w' => e = .returned (.int .i64 (usedB (secD l) : Nat)) ∧ w = w' := by
  have HI := hide hi
  have HS := hide hs
  have HSL := hide (secD_len l)
  clear hi hs
  go_enter Try.func35, Try.ntmps35
  go_wp2_with fail
  go_loopw [2, 7] (fun v i wr => ∃ k : Nat, k ≤ l.length ∧ i = .int .i64 k ∧ v = .int .i64 (usedB ((secD l).take k) : Nat) ∧ usedB ((secD l).take k) ≤ k * 1256584717460 ∧ w = wr) (fun _ i _ => l.length - (intOf i).toNat)
  case atStart => exact ⟨0, by omega, rfl, (by rw [List.take_zero]; unfold usedB; rfl), (by rw [List.take_zero]; unfold usedB; exact Nat.zero_le _), rfl⟩
  case round =>
    obtain ⟨k, hk, rfl, rfl, hu, rfl⟩ := hrel
    by_cases hlt : k < l.length
    · have hlt' : (k : Int) < l.length := by omega
      obtain ⟨b, o, rfl, _, hc⟩ := HI.out k hlt
      have HT := hide (usedB_take (l := secD l) (k := k) (by rw [HSL.out]; exact hlt))
      rw [secD_get] at HT
      have hsk := HS.out _ (List.getElem_mem hlt)
      have HQ := hide (quo_sec (l[k]).l.length)
      have hq2 := secN_le hsk
      generalize usedB ((secD l).take k) = u at *
      generalize l[k] = s at *
      go_wp2_with fail
      go_roundw
      case rel => exact ⟨k + 1, by omega, by go_num, by rw [HT.out]; exact val_num (by rw [HQ.out]; omega), by rw [HT.out]; omega, trivial⟩
      case measure => simp [intOf]; omega
    · obtain rfl : k = l.length := by omega
      have HF := hide (show (secD l).take l.length = secD l by rw [← HSL.out, List.take_length])
      have hge : ¬ ((l.length : Int) < l.length) := by omega
      rw [HF.out]
      go_wp2_with fail
      go_ret
      exact ⟨rfl, rfl⟩

theorem occupied_any (A : Option Addr) (l : List Sec) (cap : Nat) (w : World) (hi : SecsIn n0 A l cap w) (hs : ∀ s ∈ l, s.l.length ≤ 140737488355328) (hl : l.length ≤ 1000000) :
    Calls Try.prog 35 #[.slice A l.length cap] w fun e w' => e = .returned (.int .i64 (usedB (secD l) : Nat)) ∧ w = w' := occ_cells A l cap w (fun _ h => hi.at h) hs hl
theorem wrap_i64 (n : Int) (h1 : -9223372036854775808 ≤ n) (h2 : n ≤ 9223372036854775807) : IntKind.i64.wrap n = n := by
  have e1 : (2 : Int) ^ IntKind.i64.bits = 18446744073709551616 := by decide
  have e2 : (2 : Int) ^ (IntKind.i64.bits - 1) = 9223372036854775808 := by decide
  simp only [IntKind.wrap, e1, e2]
  by_cases h : 0 ≤ n
  · have e3 : n % 18446744073709551616 = n := by omega
    rw [e3, if_neg (by simp; omega)]
  · have e3 : n % 18446744073709551616 = n + 18446744073709551616 := by omega
    rw [e3, if_pos (by simp [IntKind.signed]; omega)]
    omega
/-- A journal as a plain value. -/
structure Jk where
  recs : List (List UInt8)
  many : Int
  synced : Int
def Jk.zero : Jk := ⟨[], 0, 0⟩
def Jk.ok (j : Jk) : Bool := decide (1 ≤ j.many) && (decide (j.many ≤ 4096) && (decide (0 ≤ j.synced) && (decide (j.synced ≤ j.recs.length) && decide ((usedB j.recs : Int) ≤ j.many))))
theorem ok_iff {j : Jk} : j.ok = true ↔ 1 ≤ j.many ∧ j.many ≤ 4096 ∧ 0 ≤ j.synced ∧ j.synced ≤ j.recs.length ∧ (usedB j.recs : Int) ≤ j.many := by simp [Jk.ok]
def jchk (j : Jk) : Int := if j.ok = true then 0 else 1
theorem jchk_yes {j : Jk} (h : j.ok = true) : jchk j = 0 := by unfold jchk; rw [if_pos h]
theorem jchk_no {j : Jk} (h : j.ok = false) : jchk j = 1 := by unfold jchk; rw [if_neg (by simp [h])]
attribute [irreducible] jchk
/-- A journal as a value. -/
structure Jr where
  A : Option Addr
  rs : List Sec
  cap : Nat
  many : Int
  synced : Int
abbrev Jr.cs (j : Jr) : List Value := [.slice j.A j.rs.length j.cap, .int .i64 j.many, .int .i64 j.synced]
abbrev Jr.v (j : Jr) : Value := .agg #[.slice j.A j.rs.length j.cap, .int .i64 j.many, .int .i64 j.synced]
def Jr.k (j : Jr) : Jk := ⟨secD j.rs, j.many, j.synced⟩
def Jr.zero : Jr := ⟨none, [], 0, 0, 0⟩
structure Jr.In (n0 : Nat) (j : Jr) (W : World) : Prop where
  recs : SecsIn n0 j.A j.rs j.cap W
  many : -9223372036854775808 ≤ j.many ∧ j.many ≤ 9223372036854775807
  synced : -9223372036854775808 ≤ j.synced ∧ j.synced ≤ 9223372036854775807
  short : ∀ s ∈ j.rs, s.l.length ≤ 140737488355328
  few : j.rs.length ≤ 1000000
theorem Jr.In.below {j : Jr} {W W' : World} (h : j.In n0 W) (hb : Below W.heap.size W W') : j.In n0 W' := ⟨h.recs.below hb, h.many, h.synced, h.short, h.few⟩
theorem Jr.zero_in (W : World) : Jr.zero.In n0 W := ⟨⟨Cels.nil W _, (fun s h => by cases h), Nat.le_refl _, by decide, fun _ => rfl⟩, by decide, by decide, (fun s h => by cases h), by decide⟩

set_option maxRecDepth 100000 in
set_option maxHeartbeats 1600000 in
theorem jcheck_any (j : Jr) (w : World) (hi : j.In n0 w) :
    Calls Try.prog 17 #[j.v] w fun e w' => e = .returned (.int .i64 (jchk j.k)) ∧ Below w.heap.size w w' := by
  obtain ⟨A, rs, cap, many, synced⟩ := j
  have HI := hide hi
  have HB := hide (Blk.new w 29 [.slice A rs.length cap, .int .i64 many, .int .i64 synced])
  have HW := hide (below_new w (.cells #[.slice A rs.length cap, .int .i64 many, .int .i64 synced] 29))
  have HO := hide (occupied_any A rs cap _ (hi.recs.below HW.out) hi.short hi.few)
  have HX := hide (show (Jr.mk A rs cap many synced).k.ok = (decide (1 ≤ many) && (decide (many ≤ 4096) && (decide (0 ≤ synced) && (decide (synced ≤ rs.length) && decide ((usedB (secD rs) : Int) ≤ many))))) by
    show Jk.ok ⟨secD rs, many, synced⟩ = _
    simp only [Jk.ok, secD_len])
  clear hi
  by_cases h : 1 ≤ many ∧ many ≤ 4096 ∧ 0 ≤ synced ∧ synced ≤ rs.length
  · obtain ⟨h1, h2, h3, h4⟩ := h
    have c0 := HB.out.cell 0
    have c1 := HB.out.cell 1
    have c2 := HB.out.cell 2
    have HB2 := hide (show ∀ W, Below (w.alloc (.cells #[.slice A rs.length cap, .int .i64 many, .int .i64 synced] 29)).heap.size (w.alloc (.cells #[.slice A rs.length cap, .int .i64 many, .int .i64 synced] 29)) W → Blk W w.heap.size 29 [.slice A rs.length cap, .int .i64 many, .int .i64 synced] from fun W hW => HB.out.below hW HB.out.lt)
    have HO2 := hide (show ∀ W, Below (w.alloc (.cells #[.slice A rs.length cap, .int .i64 many, .int .i64 synced] 29)).heap.size (w.alloc (.cells #[.slice A rs.length cap, .int .i64 many, .int .i64 synced] 29)) W → Calls Try.prog 35 #[.slice A rs.length cap] W fun e w' => e = .returned (.int .i64 (usedB (secD rs) : Nat)) ∧ W = w' from fun W hW => occupied_any A rs cap W ((HI.out.recs.below HW.out).below hW) HI.out.short HI.out.few)
    go_enter Try.func17, Try.ntmps17
    go_upto_region 3 with (fail)
    have HBD := hide (show Below (w.alloc (.cells #[.slice A rs.length cap, .int .i64 many, .int .i64 synced] 29)).heap.size (w.alloc (.cells #[.slice A rs.length cap, .int .i64 many, .int .i64 synced] 29)) (w.alloc (.cells #[.slice A rs.length cap, .int .i64 many, .int .i64 synced] 29)).drew from (Below.refl _ _).drew)
    refine wp_region_plan3 (fun w' => Below (w.alloc (.cells #[.slice A rs.length cap, .int .i64 many, .int .i64 synced] 29)).heap.size (w.alloc (.cells #[.slice A rs.length cap, .int .i64 many, .int .i64 synced] 29)) w') (.take 0 (.take 1 (.take 3 (.take 4 (.run 2 (.take 5 .done)))))) (by kernel_rfl) (by kernel_rfl) HBD.out ?_
    (refine plan3_take (o := ?_) (v := ?_) (by simp only [List.getElem?_toArray, List.getElem?_cons_zero]; rfl) (yields_run (by rfl) ?_) ?_; rotate_left; (focus (intro w' hw'; have q0 := (HB2.out w' hw').cell 0; have q1 := (HB2.out w' hw').cell 1; have q2 := (HB2.out w' hw').cell 2; go_simp <;> with_reducible rfl)); (simp only [Act.put, List.setIfInBounds_toArray, List.set_cons_zero, List.set_cons_succ]))
    (refine plan3_take (o := ?_) (v := ?_) (by simp only [List.getElem?_toArray, List.getElem?_cons_succ, List.getElem?_cons_zero]; rfl) (yields_run (by rfl) ?_) ?_; rotate_left; (focus (intro w' hw'; have q0 := (HB2.out w' hw').cell 0; have q1 := (HB2.out w' hw').cell 1; have q2 := (HB2.out w' hw').cell 2; go_simp <;> with_reducible rfl)); (simp only [Act.put, List.setIfInBounds_toArray, List.set_cons_zero, List.set_cons_succ]))
    (refine plan3_take (o := ?_) (v := ?_) (by simp only [List.getElem?_toArray, List.getElem?_cons_succ, List.getElem?_cons_zero]; rfl) (yields_run (by rfl) ?_) ?_; rotate_left; (focus (intro w' hw'; have q0 := (HB2.out w' hw').cell 0; have q1 := (HB2.out w' hw').cell 1; have q2 := (HB2.out w' hw').cell 2; go_simp <;> with_reducible rfl)); (simp only [Act.put, List.setIfInBounds_toArray, List.set_cons_zero, List.set_cons_succ]))
    (refine plan3_take (o := ?_) (v := ?_) (by simp only [List.getElem?_toArray, List.getElem?_cons_succ, List.getElem?_cons_zero]; rfl) (yields_run (by rfl) ?_) ?_; rotate_left; (focus (intro w' hw'; have q0 := (HB2.out w' hw').cell 0; have q1 := (HB2.out w' hw').cell 1; have q2 := (HB2.out w' hw').cell 2; go_simp <;> with_reducible rfl)); (simp only [Act.put, List.setIfInBounds_toArray, List.set_cons_zero, List.set_cons_succ]))
    refine plan3_run (o := ?_) (by simp only [List.getElem?_toArray, List.getElem?_cons_succ, List.getElem?_cons_zero]; rfl) ?_
    intro R HR
    go_wp2_with fail
    refine (HO2.out _ HBD.out).mono ?_; rintro e v2 ⟨rfl, rfl⟩
    go_wp2_with fail
    refine HR.out _ _ HBD.out ?_
    clear HR
    (refine plan3_take (o := ?_) (v := ?_) (by simp only [List.getElem?_toArray, List.getElem?_cons_succ, List.getElem?_cons_zero]; rfl) (yields_run (by rfl) ?_) ?_; rotate_left; (focus (intro w' hw'; have q0 := (HB2.out w' hw').cell 0; have q1 := (HB2.out w' hw').cell 1; have q2 := (HB2.out w' hw').cell 2; go_simp <;> with_reducible rfl)); (simp only [Act.put, List.setIfInBounds_toArray, List.set_cons_zero, List.set_cons_succ]))
    refine plan3_done ?_
    by_cases hu : (usedB (secD rs) : Int) ≤ many
    · have HY := hide (show (Jr.mk A rs cap many synced).k.ok = true by
        rw [HX.out]
        simp only [Bool.and_eq_true, decide_eq_true_eq]
        exact ⟨h1, h2, h3, h4, hu⟩)
      go_wp2_with fail
      go_ret
      rw [jchk_yes HY.out]
      exact ⟨rfl, HW.out.trans (HBD.out.mono (by simp))⟩
    · have hu' : many < (usedB (secD rs) : Int) := by omega
      have HN := hide (show (Jr.mk A rs cap many synced).k.ok = false by
        rw [HX.out]
        simp only [Bool.and_eq_false_iff, decide_eq_false_iff_not]
        omega)
      go_wp2_with fail
      go_ret
      rw [jchk_no HN.out]
      exact ⟨rfl, HW.out.trans (HBD.out.mono (by simp))⟩
  · have hc : many < 1 ∨ (1 ≤ many ∧ 4096 < many) ∨ (1 ≤ many ∧ many ≤ 4096 ∧ synced < 0) ∨ (1 ≤ many ∧ many ≤ 4096 ∧ 0 ≤ synced ∧ (rs.length : Int) < synced) := by omega
    have HN := hide (show (Jr.mk A rs cap many synced).k.ok = false by
      rw [HX.out]
      simp only [Bool.and_eq_false_iff, decide_eq_false_iff_not]
      omega)
    have c0 := HB.out.cell 0
    have c1 := HB.out.cell 1
    have c2 := HB.out.cell 2
    clear h
    rcases hc with hc | ⟨h1, hc⟩ | ⟨h1, h2, hc⟩ | ⟨h1, h2, h3, hc⟩
    all_goals
      go_enter Try.func17, Try.ntmps17
      go_wp2_with fail
      go_ret
      rw [jchk_no HN.out]
      exact ⟨rfl, HW.out⟩

set_option maxRecDepth 100000 in
set_option maxHeartbeats 1600000 in
theorem left_any (j : Jr) (w : World) (hi : j.In n0 w) (hu : usedB (secD j.rs) ≤ 4000000000000000000) :
    Calls Try.prog 36 #[j.v] w fun e w' => e = .returned (.int .i64 (IntKind.i64.wrap (j.many - usedB (secD j.rs)))) ∧ Below w.heap.size w w' := by
  obtain ⟨A, rs, cap, many, synced⟩ := j
  have HI := hide hi
  have HB := hide (Blk.new w 29 [.slice A rs.length cap, .int .i64 many, .int .i64 synced])
  have HW := hide (below_new w (.cells #[.slice A rs.length cap, .int .i64 many, .int .i64 synced] 29))
  have HB2 := hide (show ∀ W, Below (w.alloc (.cells #[.slice A rs.length cap, .int .i64 many, .int .i64 synced] 29)).heap.size (w.alloc (.cells #[.slice A rs.length cap, .int .i64 many, .int .i64 synced] 29)) W → Blk W w.heap.size 29 [.slice A rs.length cap, .int .i64 many, .int .i64 synced] from fun W hW => HB.out.below hW HB.out.lt)
  have HO2 := hide (show ∀ W, Below (w.alloc (.cells #[.slice A rs.length cap, .int .i64 many, .int .i64 synced] 29)).heap.size (w.alloc (.cells #[.slice A rs.length cap, .int .i64 many, .int .i64 synced] 29)) W → Calls Try.prog 35 #[.slice A rs.length cap] W fun e w' => e = .returned (.int .i64 (usedB (secD rs) : Nat)) ∧ W = w' from fun W hW => occupied_any A rs cap W ((HI.out.recs.below HW.out).below hW) HI.out.short HI.out.few)
  clear hi
  go_enter Try.func36, Try.ntmps36
  go_upto_region 1 with (fail)
  have HBD := hide (show Below (w.alloc (.cells #[.slice A rs.length cap, .int .i64 many, .int .i64 synced] 29)).heap.size (w.alloc (.cells #[.slice A rs.length cap, .int .i64 many, .int .i64 synced] 29)) (w.alloc (.cells #[.slice A rs.length cap, .int .i64 many, .int .i64 synced] 29)).drew from (Below.refl _ _).drew)
  refine wp_region_plan3 (fun w' => Below (w.alloc (.cells #[.slice A rs.length cap, .int .i64 many, .int .i64 synced] 29)).heap.size (w.alloc (.cells #[.slice A rs.length cap, .int .i64 many, .int .i64 synced] 29)) w') (.take 0 (.take 1 (.take 2 (.take 3 (.run 4 (.take 5 (.run 6 .done))))))) (by kernel_rfl) (by kernel_rfl) HBD.out ?_
  (refine plan3_take (o := ?_) (v := ?_) (by simp only [List.getElem?_toArray, List.getElem?_cons_zero]; rfl) (yields_run (by rfl) ?_) ?_; rotate_left; (focus (intro w' hw'; have q0 := (HB2.out w' hw').cell 0; have q1 := (HB2.out w' hw').cell 1; have q2 := (HB2.out w' hw').cell 2; go_simp <;> with_reducible rfl)); (simp only [Act.put, List.setIfInBounds_toArray, List.set_cons_zero, List.set_cons_succ]))
  (refine plan3_take (o := ?_) (v := ?_) (by simp only [List.getElem?_toArray, List.getElem?_cons_succ, List.getElem?_cons_zero]; rfl) (yields_run (by rfl) ?_) ?_; rotate_left; (focus (intro w' hw'; have q0 := (HB2.out w' hw').cell 0; have q1 := (HB2.out w' hw').cell 1; have q2 := (HB2.out w' hw').cell 2; go_simp <;> with_reducible rfl)); (simp only [Act.put, List.setIfInBounds_toArray, List.set_cons_zero, List.set_cons_succ]))
  (refine plan3_take (o := ?_) (v := ?_) (by simp only [List.getElem?_toArray, List.getElem?_cons_succ, List.getElem?_cons_zero]; rfl) (yields_run (by rfl) ?_) ?_; rotate_left; (focus (intro w' hw'; have q0 := (HB2.out w' hw').cell 0; have q1 := (HB2.out w' hw').cell 1; have q2 := (HB2.out w' hw').cell 2; go_simp <;> with_reducible rfl)); (simp only [Act.put, List.setIfInBounds_toArray, List.set_cons_zero, List.set_cons_succ]))
  (refine plan3_take (o := ?_) (v := ?_) (by simp only [List.getElem?_toArray, List.getElem?_cons_succ, List.getElem?_cons_zero]; rfl) (yields_run (by rfl) ?_) ?_; rotate_left; (focus (intro w' hw'; have q0 := (HB2.out w' hw').cell 0; have q1 := (HB2.out w' hw').cell 1; have q2 := (HB2.out w' hw').cell 2; go_simp <;> with_reducible rfl)); (simp only [Act.put, List.setIfInBounds_toArray, List.set_cons_zero, List.set_cons_succ]))
  refine plan3_run (o := ?_) (by simp only [List.getElem?_toArray, List.getElem?_cons_succ, List.getElem?_cons_zero]; rfl) ?_
  intro R HR
  go_wp2_with fail
  refine (HO2.out _ HBD.out).mono ?_; rintro e v2 ⟨rfl, rfl⟩
  go_wp2_with fail
  refine HR.out _ _ HBD.out ?_
  clear HR
  (refine plan3_take (o := ?_) (v := ?_) (by simp only [List.getElem?_toArray, List.getElem?_cons_succ, List.getElem?_cons_zero]; rfl) (yields_run (by rfl) ?_) ?_; rotate_left; (focus (intro w' hw'; have q0 := (HB2.out w' hw').cell 0; have q1 := (HB2.out w' hw').cell 1; have q2 := (HB2.out w' hw').cell 2; go_simp <;> with_reducible rfl)); (simp only [Act.put, List.setIfInBounds_toArray, List.set_cons_zero, List.set_cons_succ]))
  refine plan3_run (o := ?_) (by simp only [List.getElem?_toArray, List.getElem?_cons_succ, List.getElem?_cons_zero]; rfl) ?_
  intro R HR
  go_wp2_with fail
  refine HR.out _ _ HBD.out ?_
  clear HR
  refine plan3_done ?_
  go_wp2_with fail
  go_ret
  exact ⟨rfl, HW.out.trans (HBD.out.mono (by simp))⟩

set_option maxRecDepth 100000 in
set_option maxHeartbeats 1600000 in
theorem room_any (j : Jr) (w : World) (hi : j.In n0 w) :
    Calls Try.prog 19 #[j.v] w fun e w' => e = .returned (.int .i64 (if j.k.ok = true then 112 * (j.many - usedB (secD j.rs)) else 0)) ∧ Below w.heap.size w w' := by
  obtain ⟨A, rs, cap, many, synced⟩ := j
  have HI := hide hi
  have HB := hide (Blk.new w 29 [.slice A rs.length cap, .int .i64 many, .int .i64 synced])
  have HW := hide (below_new w (.cells #[.slice A rs.length cap, .int .i64 many, .int .i64 synced] 29))
  have HC := hide (jcheck_any _ _ (hi.below HW.out))
  have c0 := HB.out.cell 0
  have c1 := HB.out.cell 1
  have c2 := HB.out.cell 2
  clear hi
  cases hk : (Jr.mk A rs cap many synced).k.ok with
  | false =>
    rw [jchk_no hk] at HC
    clear hk
    go_enter Try.func19, Try.ntmps19
    go_wp2_with fail
    refine HC.out.mono ?_
    rintro e w1 ⟨rfl, hb⟩
    have HF := hide (below_one HW.out hb)
    clear hb
    go_wp2_with fail
    go_ret
    exact ⟨rfl, HF.out⟩
  | true =>
    rw [jchk_yes hk] at HC
    obtain ⟨h1, h2, h3, h4, h5⟩ := ok_iff.1 hk
    replace h1 : 1 ≤ many := h1
    replace h2 : many ≤ 4096 := h2
    replace h5 : (usedB (secD rs) : Int) ≤ many := h5
    clear hk
    go_enter Try.func19, Try.ntmps19
    go_wp2_with fail
    refine HC.out.mono ?_
    rintro e w1 ⟨rfl, hb⟩
    have HF := hide (below_one HW.out hb)
    have HB1 := hide (HB.out.below hb HB.out.lt)
    have HL := hide (left_any _ w1 (HI.out.below HF.out) (by show usedB (secD rs) ≤ _; omega))
    have c0 := HB1.out.cell 0
    have c1 := HB1.out.cell 1
    have c2 := HB1.out.cell 2
    have hwr : IntKind.i64.wrap (many - (usedB (secD rs) : Int)) = many - usedB (secD rs) := wrap_i64 _ (by omega) (by omega)
    clear hb HC
    go_wp2_with fail
    refine HL.out.mono ?_
    rintro e w2 ⟨rfl, hb2⟩
    have HF2 := hide (below_one HF.out hb2)
    clear hb2 HL
    simp only [hwr]
    go_wp2_with fail
    go_ret
    exact ⟨rfl, HF2.out⟩
end Go.Proofs.Ytgigccgklahddaa
