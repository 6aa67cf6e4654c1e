
/- Restart and Stop, of the program and of the reference. -/
import Derived.Test.YtgigccgklahddaaNew
namespace Go.Proofs.Ytgigccgklahddaa
open Go.RowKit
variable {n0 : Nat}

theorem wrsIn_nil (W : World) : WrsIn n0 none [] 0 W := ⟨Cels.nil _ _, fun s hs => (by cases hs), Nat.le_refl _, Nat.zero_le _, fun _ => rfl⟩
theorem left_m1 : -9223372036854775808 ≤ (-1 : Int) ∧ (-1 : Int) ≤ 9223372036854775807 := by decide
theorem Blk.c4 {w : World} {X T : Nat} {v0 v1 v2 v3 : Value} (h : Blk w X T [v0, v1, v2, v3]) : w.cell? ⟨X, 0, none⟩ = some v0 ∧ w.cell? ⟨X, 1, none⟩ = some v1 ∧ w.cell? ⟨X, 2, none⟩ = some v2 ∧ w.cell? ⟨X, 3, none⟩ = some v3 := ⟨h.cell 0, h.cell 1, h.cell 2, h.cell 3⟩
theorem Blk.c2 {w : World} {X T : Nat} {v0 v1 : Value} (h : Blk w X T [v0, v1]) : w.cell? ⟨X, 0, none⟩ = some v0 ∧ w.cell? ⟨X, 1, none⟩ = some v1 := ⟨h.cell 0, h.cell 1⟩
theorem Blk.far {w : World} {X Y T : Nat} {cs : List Value} (h : Blk w X T cs) (hne : X ≠ Y) (ds : Array Value) : Blk (w.setRow Y ds) X T cs := (setRow_other w Y X ds hne).trans h
/-- A call that answers a disk and an error. -/
def Ans (n0 : Nat) (w : World) (x : Dk × Int) (e : Ending) (w' : World) : Prop := ∃ d : Dsk, e = .returned (.tuple #[d.v, .int .i64 x.2]) ∧ d.d = x.1 ∧ d.In n0 w' ∧ Below w.heap.size w w'
theorem Ans.zero {w w' : World} {x : Dk × Int} {n : Int} (hx : x = (Dk.zero, n)) (hb : Below w.heap.size w w') : Ans n0 w x (.returned (.tuple #[Dsk.zero.v, .int .i64 n])) w' := by
  subst hx
  exact ⟨Dsk.zero, rfl, rfl, Dsk.zero_in _, hb⟩

set_option maxRecDepth 10000 in
set_option maxHeartbeats 800000 in
theorem restart_any (d : Dsk) (w : World) (hi : d.In n0 w) :
    Calls Try.prog 27 #[d.v] w fun e w' => ∃ x : Dsk, e = .returned x.v ∧ x.d = d.d.restart ∧ x.In n0 w' ∧ x.sa = d.sa ∧ x.ss = d.ss ∧ x.sc = d.sc ∧ x.pa = none ∧ x.ps = [] ∧ x.pc = 0 ∧ x.left = -1 ∧ x.stp = false ∧ Below w.heap.size w w' := by
  have HI := hide hi
  clear hi
  go_enter Try.func27, Try.ntmps27
  go_wp2_with fail
  refine bodyPost_ret (v := Dsk.v ⟨d.sa, d.ss, d.sc, none, [], 0, -1, false⟩) (by simp [results, Try.results27, go_sem]) rfl ⟨⟨d.sa, d.ss, d.sc, none, [], 0, -1, false⟩, rfl, rfl, ?_, rfl, rfl, rfl, rfl, rfl, rfl, rfl, rfl, ?_⟩
  · refine ⟨HI.out.sec.below ?_, wrsIn_nil _, left_m1⟩
    exact (below_new _ _).alloc (by simp) _
  · exact (below_new _ _).alloc (by simp) _

theorem runs_is {d : Dsk} {b : Bool} (w : World) (h : d.d.runs = b) (hi : d.In n0 w) : Calls Try.prog 51 #[d.v] w fun e w' => e = .returned (.bool b) ∧ Below w.heap.size w w' := h ▸ runs_any d w hi
/-- The two blocks of a call over a disk. -/
abbrev two (d : Dsk) (w : World) : World := (w.alloc (.cells #[.slice d.sa d.ss.length d.sc, .slice d.pa d.ps.length d.pc, .int .i64 d.left, .bool d.stp] 25)).alloc (.cells #[.slice none 0 0, .slice none 0 0, .int .i64 0, .bool false] 25)
theorem two_below (d : Dsk) (w : World) : Below w.heap.size w (two d w) := (below_new _ _).alloc (by simp) _
theorem two_boxes (d : Dsk) (w : World) : Blk (two d w) w.heap.size 25 d.cs ∧ Blk (two d w) (w.heap.size + 1) 25 [.slice none 0 0, .slice none 0 0, .int .i64 0, .bool false] := by
  refine ⟨(Blk.new w 25 d.cs).alloc _, ?_⟩
  have := Blk.new (w.alloc (.cells #[.slice d.sa d.ss.length d.sc, .slice d.pa d.ps.length d.pc, .int .i64 d.left, .bool d.stp] 25)) 25 [.slice none 0 0, .slice none 0 0, .int .i64 0, .bool false]
  rw [World.size_alloc] at this
  exact this

set_option maxRecDepth 10000 in
set_option maxHeartbeats 800000 in
theorem stop_any (d : Dsk) (n : Int) (w : World) (hi : d.In n0 w) :
    Calls Try.prog 26 #[d.v, .int .i64 n] w (Ans n0 w (d.d.stop n)) := by
  have HI := hide hi
  have HT := hide (two_below d w)
  have HB := hide (two_boxes d w)
  clear hi
  cases hr : d.d.runs with
  | false =>
    have HC := hide (runs_is (two d w) hr (HI.out.below HT.out))
    have HX := hide (show d.d.stop n = (Dk.zero, 40) by simp [Dk.stop, hr])
    clear hr
    go_enter Try.func26, Try.ntmps26
    go_wp2_with fail
    refine HC.out.mono ?_
    rintro e w1 ⟨rfl, hb⟩
    have HK := hide (show Below w.heap.size w w1 from HT.out.trans (hb.mono HT.out.size))
    have HR := hide (HB.out.2.below hb HB.out.2.lt)
    clear hb
    go_wp2_with (refine wpList_store_row rfl 25 (.tmp 4) (.tmp 9) rfl (w.heap.size + 1) #[.slice none 0 0, .slice none 0 0, .int .i64 0, .bool false] rfl rfl 25 _ HR.out Try.size25 rfl (one25 _ _ _ _ _ _ _ _) ?_)
    exact bodyPost_ret (v := .tuple #[Dsk.zero.v, .int .i64 40]) (results_cell_row_tmp rfl _ _ (w.heap.size + 1) 25 #[.slice none 0 0, .slice none 0 0, .int .i64 0, .bool false] (0, 0) _ (.int .i64 40) rfl rfl (setRow_heap _ _ _ _ _ _ HR.out) Try.underlying25 rfl Try.size25) rfl (Ans.zero HX.out (below_setRow HK.out (by omega) _))
  | true =>
    have HC := hide (runs_is (two d w) hr (HI.out.below HT.out))
    by_cases hn : 0 ≤ n ∧ n ≤ 65536
    · obtain ⟨n1, n2⟩ := hn
      have HX := hide (show d.d.stop n = ({ d.d with left := n }, 0) by simp [Dk.stop, hr, n1, n2])
      clear hr
      go_enter Try.func26, Try.ntmps26
      go_wp2_with fail
      refine HC.out.mono ?_
      rintro e w1 ⟨rfl, hb⟩
      have HK := hide (show Below w.heap.size w w1 from HT.out.trans (hb.mono HT.out.size))
      have HA := hide (HB.out.1.below hb HB.out.1.lt)
      have HR := hide (HB.out.2.below hb HB.out.2.lt)
      have c2 := HA.out.c4.2.2.1
      have f2 := HA.out.free 2
      have HA2 := hide (HA.out.set 2 (.int .i64 n))
      have HR2 := hide (HR.out.apart (p := ⟨w.heap.size, 2, none⟩) (by simp) (.int .i64 n))
      simp only [List.set_cons_zero, List.set_cons_succ] at HA2
      have HK2 := hide (below_setRow (HK.out.setCell (p := ⟨w.heap.size, 2, none⟩) (Nat.le_refl _) (.int .i64 n)) (g := w.heap.size + 1) (by omega) #[.slice d.sa d.ss.length d.sc, .slice d.pa d.ps.length d.pc, .int .i64 n, .bool d.stp])
      clear hb
      go_wp2_with (first | (refine wpList_load_row rfl 25 (.tmp 2) rfl w.heap.size rfl 25 _ (0, 0) _ HA2.out Try.underlying25 rfl Try.size25 ?_) | (refine wpList_store_row rfl 25 (.tmp 4) (.tmp 19) rfl (w.heap.size + 1) #[.slice d.sa d.ss.length d.sc, .slice d.pa d.ps.length d.pc, .int .i64 n, .bool d.stp] rfl rfl 25 _ HR2.out Try.size25 rfl (one25 _ _ _ _ _ _ _ _) ?_))
      refine bodyPost_ret (v := .tuple #[Dsk.v { d with left := n }, .int .i64 0]) (results_cell_row_tmp rfl _ _ (w.heap.size + 1) 25 #[.slice d.sa d.ss.length d.sc, .slice d.pa d.ps.length d.pc, .int .i64 n, .bool d.stp] (0, 0) _ (.int .i64 0) rfl rfl (setRow_heap _ _ _ _ _ _ HR2.out) Try.underlying25 rfl Try.size25) rfl ?_
      rw [HX.out]
      exact ⟨{ d with left := n }, rfl, rfl, ⟨HI.out.sec.below HK2.out, HI.out.pen.below HK2.out, (by show -9223372036854775808 ≤ n ∧ n ≤ 9223372036854775807; omega)⟩, HK2.out⟩
    · have HX := hide (show d.d.stop n = (Dk.zero, 1) by simp [Dk.stop, hr, hn])
      have hc : n < 0 ∨ (0 ≤ n ∧ 65536 < n) := by omega
      clear hr hn
      rcases hc with hc | ⟨h1, hc⟩
      all_goals
        go_enter Try.func26, Try.ntmps26
        go_wp2_with fail
        refine HC.out.mono ?_
        rintro e w1 ⟨rfl, hb⟩
        have HK := hide (show Below w.heap.size w w1 from HT.out.trans (hb.mono HT.out.size))
        have HR := hide (HB.out.2.below hb HB.out.2.lt)
        clear hb
        go_wp2_with (refine wpList_store_row rfl 25 (.tmp 4) (.tmp 16) rfl (w.heap.size + 1) #[.slice none 0 0, .slice none 0 0, .int .i64 0, .bool false] rfl rfl 25 _ HR.out Try.size25 rfl (one25 _ _ _ _ _ _ _ _) ?_)
        exact bodyPost_ret (v := .tuple #[Dsk.zero.v, .int .i64 1]) (results_cell_row_tmp rfl _ _ (w.heap.size + 1) 25 #[.slice none 0 0, .slice none 0 0, .int .i64 0, .bool false] (0, 0) _ (.int .i64 1) rfl rfl (setRow_heap _ _ _ _ _ _ HR.out) Try.underlying25 rfl Try.size25) rfl (Ans.zero HX.out (below_setRow HK.out (by omega) _))

theorem rcheck_ok {d : Dsk} (w : World) (h : d.d.valid = true) (hi : d.In n0 w) : Calls Try.prog 33 #[d.v] w fun e w' => e = .returned (.int .i64 0) ∧ Below w.heap.size w w' := by
  have := rcheck_any d w hi
  rwa [show chk d.d = 0 by simp [chk, h]] at this
theorem rcheck_no {d : Dsk} (w : World) (h : d.d.valid = false) (hi : d.In n0 w) : Calls Try.prog 33 #[d.v] w fun e w' => e = .returned (.int .i64 40) ∧ Below w.heap.size w w' := by
  have := rcheck_any d w hi
  rwa [show chk d.d = 40 by simp [chk, h]] at this

end Go.Proofs.Ytgigccgklahddaa
