/- few, and the reference's count of sectors. -/
import Derived.Test.YtgigccgklahddaaOcc
import Derived.BigQuiet
import Derived.Deep.QuietTactic
namespace Go.Proofs.Ytgigccgklahddaa
open Go.RowKit
variable {n0 : Nat}

/-- How many bytes records have, and one more for each. -/
def bulkB (l : List (List UInt8)) : Nat := l.foldl (fun n b => n + (1 + b.length)) 0
theorem bulkB_app (a b : List (List UInt8)) : bulkB (a ++ b) = bulkB a + bulkB b := by
  have key : ∀ (l : List (List UInt8)) (n : Nat), l.foldl (fun n b => n + (1 + b.length)) n = n + l.foldl (fun n b => n + (1 + b.length)) 0 := by
    intro l
    induction l with
    | nil => intro n; rfl
    | cons x l ih => intro n; rw [List.foldl_cons, List.foldl_cons, ih (n + (1 + x.length)), ih (0 + (1 + x.length))]; omega
  unfold bulkB
  rw [List.foldl_append, key b]
theorem bulkB_one (b : List UInt8) : bulkB [b] = 1 + b.length := by simp [bulkB]
theorem bulkB_nil : bulkB [] = 0 := rfl
theorem bulkB_take {l : List (List UInt8)} {k : Nat} (h : k < l.length) : bulkB (l.take (k + 1)) = bulkB (l.take k) + (1 + (l[k]).length) := by
  rw [List.take_succ_eq_append_getElem h, bulkB_app, bulkB_one]
theorem bulkB_le (l : List (List UInt8)) (k : Nat) : bulkB (l.take k) ≤ bulkB l := by
  have := bulkB_app (l.take k) (l.drop k)
  rw [List.take_append_drop] at this
  omega
theorem bulkB_mem {l : List (List UInt8)} {b : List UInt8} (h : b ∈ l) : 1 + b.length ≤ bulkB l := by
  obtain ⟨x, y, rfl⟩ := List.append_of_mem h
  have e : x ++ b :: y = x ++ ([b] ++ y) := rfl
  rw [e, bulkB_app, bulkB_app, bulkB_one]
  omega
theorem bulkB_len (l : List (List UInt8)) : l.length ≤ bulkB l := by
  induction l with
  | nil => exact Nat.zero_le _
  | cons x l ih =>
    have e : x :: l = [x] ++ l := rfl
    rw [e, bulkB_app, bulkB_one]
    simp only [List.length_append, List.length_cons, List.length_nil]
    omega
attribute [irreducible] bulkB
def fewB (d : Dk) (l : List (List UInt8)) : Bool := decide (d.sec.length ≤ 40) && (decide (d.pen.length ≤ 40) && decide (bulkB l ≤ 4000))
theorem fewB_iff {d : Dk} {l : List (List UInt8)} : fewB d l = true ↔ d.sec.length ≤ 40 ∧ d.pen.length ≤ 40 ∧ bulkB l ≤ 4000 := by simp [fewB]

set_option maxRecDepth 100000 in
set_option maxHeartbeats 1600000 in
theorem few_any (d : Dsk) (A : Option Addr) (l : List Sec) (cap : Nat) (w : World) (hi : d.In n0 w) (hc : ∀ k (h : k < l.length), ∃ b o, A = some ⟨b, o, none⟩ ∧ b < w.heap.size ∧ w.cell? ⟨b, o + k, none⟩ = some (l[k]).v) (hb : bulkB (secD l) ≤ 4000000000000000000) :
    Calls Try.prog 11 #[d.v, .slice A l.length cap] w fun e w' => e = .returned (.bool (fewB d.d (secD l))) ∧ Below w.heap.size w w' := by
  obtain ⟨sa, ss, sc, pa, ps, pc, left, stp⟩ := d
  have HF : Hid (fewB (Dsk.mk sa ss sc pa ps pc left stp).d (secD l) = (decide (ss.length ≤ 40) && (decide (ps.length ≤ 40) && decide (bulkB (secD l) ≤ 4000)))) := hide (by unfold fewB; simp only [Dsk.d, secD_len, wrD_len])
  have HC := hide hc
  have HU := hide hb
  have HSL := hide (secD_len l)
  have hle1 : ss.length ≤ sc := hi.sec.le
  have hcap1 : sc ≤ 9223372036854775807 := hi.sec.top
  have hle : ps.length ≤ pc := hi.pen.le
  have hcap : pc ≤ 9223372036854775807 := hi.pen.top
  have HB := hide (below_new w (.cells #[.slice sa ss.length sc, .slice pa ps.length pc, .int .i64 left, .bool stp] 25))
  have c0 := (Blk.new w 25 [.slice sa ss.length sc, .slice pa ps.length pc, .int .i64 left, .bool stp]).cell 0
  have c1 := (Blk.new w 25 [.slice sa ss.length sc, .slice pa ps.length pc, .int .i64 left, .bool stp]).cell 1
  simp only [List.getElem?_cons_zero, List.getElem?_cons_succ] at c0 c1
  have hlen : l.length ≤ 4000000000000000000 := by rw [← secD_len]; exact Nat.le_trans (bulkB_len _) hb
  generalize fewB (Dsk.mk sa ss sc pa ps pc left stp).d (secD l) = r at HF ⊢
  clear hi hc hb
  go_enter Try.func11, Try.ntmps11
  go_wp2_with fail
  generalize (w.alloc (.cells #[.slice sa ss.length sc, .slice pa ps.length pc, .int .i64 left, .bool stp] 25)) = W1 at *
  go_loopw [5, 10] (fun v i wr => ∃ k : Nat, k ≤ l.length ∧ i = .int .i64 k ∧ v = .int .i64 (bulkB ((secD l).take k) : Nat) ∧ W1 = wr) (fun _ i _ => l.length - (intOf i).toNat)
  case atStart => exact ⟨0, by omega, rfl, (by rw [List.take_zero, bulkB_nil]; rfl), rfl⟩
  case round =>
    obtain ⟨k, hk, rfl, rfl, rfl⟩ := hrel
    by_cases hlt : k < l.length
    · have hlt' : (k : Int) < l.length := by omega
      obtain ⟨b, o, rfl, hbb, hc⟩ := HC.out k hlt
      have hcell := (HB.out.cell (p := ⟨b, o + k, none⟩) hbb).trans hc
      have HT := hide (bulkB_take (l := secD l) (k := k) (by rw [HSL.out]; exact hlt))
      rw [secD_get] at HT
      have hu : bulkB ((secD l).take k) + (1 + (l[k]).l.length) ≤ 4000000000000000000 := by rw [← HT.out]; exact Nat.le_trans (bulkB_le _ _) HU.out
      clear hc
      generalize bulkB ((secD l).take k) = u at *
      generalize l[k] = s at *
      go_wp2_with fail
      go_roundw
      case rel => exact ⟨k + 1, by omega, by go_num, by rw [HT.out]; exact val_num (by omega), trivial⟩
      case measure => simp [intOf]; omega
    · obtain rfl : k = l.length := by omega
      have HF2 := hide (show (secD l).take l.length = secD l by rw [← HSL.out, List.take_length])
      have hge : ¬ ((l.length : Int) < l.length) := by omega
      rw [HF2.out]
      have hu := HU.out
      generalize bulkB (secD l) = u at *
      by_cases h1 : ss.length ≤ 40
      · have h1' : decide ((ss.length : Int) ≤ 40) = true := decide_eq_true (by omega)
        by_cases h2 : ps.length ≤ 40
        · have h2' : decide ((ps.length : Int) ≤ 40) = true := decide_eq_true (by omega)
          have h3 : decide ((u : Int) ≤ 4000) = decide (u ≤ 4000) := by
            by_cases h : u ≤ 4000
            · rw [decide_eq_true h, decide_eq_true (by omega)]
            · rw [decide_eq_false h, decide_eq_false (by omega)]
          have HE := hide (show r = decide ((u : Int) ≤ 4000) by rw [HF.out, decide_eq_true h1, decide_eq_true h2, h3]; rfl)
          clear h1 h2 h3 HF
          go_wp2_with fail
          go_ret
          exact ⟨by rw [HE.out]; rfl, HB.out⟩
        · have h2' : decide ((ps.length : Int) ≤ 40) = false := decide_eq_false (by omega)
          have HE := hide (show r = false by rw [HF.out, decide_eq_true h1, decide_eq_false h2]; rfl)
          clear h1 h2 HF
          go_wp2_with fail
          go_ret
          exact ⟨by rw [HE.out]; rfl, HB.out⟩
      · have h1' : decide ((ss.length : Int) ≤ 40) = false := decide_eq_false (by omega)
        have HE := hide (show r = false by rw [HF.out, decide_eq_false h1]; rfl)
        clear h1 HF
        go_wp2_with fail
        go_ret
        exact ⟨by rw [HE.out]; rfl, HB.out⟩

set_option maxRecDepth 100000 in
theorem sectors_any (n : Nat) (w : World) (h : n ≤ 140737488355328) : Calls Try.prog 39 #[.int .i64 n] w fun e w' => e = .returned (.int .i64 (secN n : Nat)) ∧ w = w' := by
  have HQ := hide (quo_sec n)
  go_enter Try.func39, Try.ntmps39
  go_wp2_with fail
  · go_ret
    have := HQ.out
    rw [if_pos (by omega)] at this
    exact ⟨congrArg _ (val_num this), rfl⟩
  · go_ret
    have := HQ.out
    rw [if_neg (by omega)] at this
    exact ⟨congrArg _ (val_num this), rfl⟩
set_option maxRecDepth 100000 in
set_option maxHeartbeats 1600000 in
theorem used_any (A : Option Addr) (l : List Sec) (cap : Nat) (w : World) (hi : SecsIn n0 A l cap w) (hs : ∀ s ∈ l, s.l.length ≤ 140737488355328) (hl : l.length ≤ 1000000) :
    Calls Try.prog 40 #[.slice A l.length cap] w fun e w' => e = .returned (.int .i64 (usedB (secD l) : Nat)) ∧ w = w' := by
  have HI := hide hi
  have HS := hide hs
  have HSL := hide (secD_len l)
  clear hi hs
  go_enter Try.func40, Try.ntmps40
  go_wp2_with fail
  go_loopw [3, 4] (fun v i wr => ∃ k : Nat, k ≤ l.length ∧ i = .int .i64 k ∧ v = .int .i64 (usedB ((secD l).take k) : Nat) ∧ usedB ((secD l).take k) ≤ k * 1256584717460 ∧ w = wr) (fun _ i _ => l.length - (intOf i).toNat)
  case atStart => exact ⟨0, by omega, rfl, (by rw [List.take_zero]; unfold usedB; rfl), (by rw [List.take_zero]; unfold usedB; exact Nat.zero_le _), rfl⟩
  case round =>
    obtain ⟨k, hk, rfl, rfl, hu, rfl⟩ := hrel
    by_cases hlt : k < l.length
    · have hlt' : (k : Int) < l.length := by omega
      obtain ⟨b, o, rfl, _, hc⟩ := HI.out.at hlt
      have HT := hide (usedB_take (l := secD l) (k := k) (by rw [HSL.out]; exact hlt))
      rw [secD_get] at HT
      have hsk := HS.out _ (List.getElem_mem hlt)
      have hq2 := secN_le hsk
      have HCS := hide (sectors_any (l[k]).l.length w hsk)
      generalize usedB ((secD l).take k) = u at *
      generalize l[k] = s at *
      go_wp2_with fail
      refine HCS.out.mono ?_
      rintro e w2 ⟨rfl, rfl⟩
      go_wp2_with fail
      go_roundw
      case rel => exact ⟨k + 1, by omega, by go_num, by rw [HT.out]; exact val_num (by omega), by rw [HT.out]; omega, trivial⟩
      case measure => simp [intOf]; omega
    · obtain rfl : k = l.length := by omega
      have HF := hide (show (secD l).take l.length = secD l by rw [← HSL.out, List.take_length])
      have hge : ¬ ((l.length : Int) < l.length) := by omega
      rw [HF.out]
      go_wp2_with fail
      go_ret
      exact ⟨rfl, rfl⟩
end Go.Proofs.Ytgigccgklahddaa
