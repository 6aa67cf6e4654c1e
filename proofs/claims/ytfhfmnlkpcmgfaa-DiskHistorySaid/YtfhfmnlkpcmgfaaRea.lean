/- Read of the program. -/
import Derived.Test.YtfhfmnlkpcmgfaaBak
namespace Go.Proofs.Ytfhfmnlkpcmgfaa
open Go.RowKit Go.Shelf
variable {n0 : Nat}

/-- The four blocks of a call of Read. -/
abbrev four (d : Dsk) (i : Int) (w : World) : World := (((w.alloc (.cells #[.slice d.sa d.ss.length d.sc, .slice d.pa d.ps.length d.pc, .int .i64 d.left, .bool d.stp] 25)).alloc (.cells #[.int .i64 i] 3)).alloc (.cells #[.slice none 0 0] 35)).alloc (.cells #[.int .i64 0] 28)
structure Four (d : Dsk) (i : Int) (w W : World) : Prop where
  box : Blk W w.heap.size 25 d.cs
  at_ : Blk W (w.heap.size + 1) 3 [.int .i64 i]
  r0 : Blk W (w.heap.size + 2) 35 [.slice none 0 0]
  r1 : Blk W (w.heap.size + 3) 28 [.int .i64 0]
  bel : Below w.heap.size w W
theorem four_is (d : Dsk) (i : Int) (w : World) : Four d i w (four d i w) := by
  have b1 := Blk.new (w.alloc (.cells #[.slice d.sa d.ss.length d.sc, .slice d.pa d.ps.length d.pc, .int .i64 d.left, .bool d.stp] 25)) 3 [.int .i64 i]
  have b2 := Blk.new ((w.alloc (.cells #[.slice d.sa d.ss.length d.sc, .slice d.pa d.ps.length d.pc, .int .i64 d.left, .bool d.stp] 25)).alloc (.cells #[.int .i64 i] 3)) 35 [.slice none 0 0]
  have b3 := Blk.new (((w.alloc (.cells #[.slice d.sa d.ss.length d.sc, .slice d.pa d.ps.length d.pc, .int .i64 d.left, .bool d.stp] 25)).alloc (.cells #[.int .i64 i] 3)).alloc (.cells #[.slice none 0 0] 35)) 28 [.int .i64 0]
  simp only [World.size_alloc] at b1 b2 b3
  exact ⟨(((Blk.new w 25 d.cs).alloc _).alloc _).alloc _, (b1.alloc _).alloc _, b2.alloc _, b3, (((below_new _ _).alloc (by simp) _).alloc (by simp; omega) _).alloc (by simp; omega) _⟩
theorem Four.below {d : Dsk} {i : Int} {w W W' : World} (h : Four d i w W) (hb : Below W.heap.size W W') : Four d i w W' :=
  ⟨h.box.below hb h.box.lt, h.at_.below hb h.at_.lt, h.r0.below hb h.r0.lt, h.r1.below hb h.r1.lt, below_one h.bel hb⟩

set_option maxRecDepth 10000 in
set_option maxHeartbeats 1600000 in
theorem read_bad (d : Dsk) (i : Int) (w : World) (hi : d.In n0 w) (hx : (d.d.runs && d.d.has i) = false) :
    Calls Try.prog 21 #[d.v, .int .i64 i] w (AnsB n0 w (d.d.read i)) := by
  have HI := hide hi
  have HT := hide (four_is d i w)
  have HX := hide (show d.d.read i = ([], 40) by simp [Dk.read, hx])
  clear hi
  cases hr : d.d.runs with
  | false =>
    have HC := hide (runs_is (four d i w) hr (HI.out.below HT.out.bel))
    clear hr hx
    go_enter Try.func21, Try.ntmps21
    go_wp2_with fail
    refine HC.out.mono ?_
    rintro e w1 ⟨rfl, hb⟩
    have HF := hide (HT.out.below hb)
    have f2 := HF.out.r0.free 0
    have c2 := (HF.out.r0.cell 0).trans rfl
    have f3 := (HF.out.r1.apart (p := ⟨w.heap.size + 2, 0, none⟩) (by simp) (.slice none 0 0)).free 0
    have c3 := ((HF.out.r1.apart (p := ⟨w.heap.size + 2, 0, none⟩) (by simp) (.slice none 0 0)).cell 0).trans rfl
    simp only [List.getElem?_cons_zero] at c2 c3
    have HK := hide (((HF.out.bel.setCell (p := ⟨w.heap.size + 2, 0, none⟩) (by simp) (.slice none 0 0)).setCell (p := ⟨w.heap.size + 3, 0, none⟩) (by simp) (.int .i64 40)))
    have HE0 := hide (((HF.out.r0.set 0 (.slice none 0 0)).apart (p := ⟨w.heap.size + 3, 0, none⟩) (by simp) (.int .i64 40)).cell 0)
    have HE1 := hide (((HF.out.r1.apart (p := ⟨w.heap.size + 2, 0, none⟩) (by simp) (.slice none 0 0)).set 0 (.int .i64 40)).cell 0)
    simp only [List.set_cons_zero, List.getElem?_cons_zero] at HE0 HE1
    clear hb
    go_wp2_with fail
    have e0 := HE0.out
    have e1 := HE1.out
    refine bodyPost_ret (v := .tuple #[.slice none 0 0, .int .i64 40]) (by simp [results, Try.results21, go_sem, e0, e1]) rfl ?_
    exact AnsB.zero HX.out HK.out
  | true =>
    have HC := hide (runs_is (four d i w) hr (HI.out.below HT.out.bel))
    have hh : d.d.has i = false := by simpa [hr] using hx
    have HH := hide (fun W => has_d hh W)
    clear hr hx hh
    go_enter Try.func21, Try.ntmps21
    go_wp2_with fail
    refine HC.out.mono ?_
    rintro e w1 ⟨rfl, hb⟩
    have HF1 := hide (HT.out.below hb)
    obtain ⟨c0, c1, c2, c3⟩ := HF1.out.box.c4
    have c4 := (HF1.out.at_.cell 0).trans rfl
    simp only [List.getElem?_cons_zero] at c4
    clear hb
    go_wp2_with fail
    refine (HH.out _).mono ?_
    rintro e w2 ⟨rfl, hb⟩
    have HF := hide (HF1.out.below hb)
    clear c0 c1 c2 c3 c4 hb
    have f2 := HF.out.r0.free 0
    have c2 := (HF.out.r0.cell 0).trans rfl
    have f3 := (HF.out.r1.apart (p := ⟨w.heap.size + 2, 0, none⟩) (by simp) (.slice none 0 0)).free 0
    have c3 := ((HF.out.r1.apart (p := ⟨w.heap.size + 2, 0, none⟩) (by simp) (.slice none 0 0)).cell 0).trans rfl
    simp only [List.getElem?_cons_zero] at c2 c3
    have HK := hide (((HF.out.bel.setCell (p := ⟨w.heap.size + 2, 0, none⟩) (by simp) (.slice none 0 0)).setCell (p := ⟨w.heap.size + 3, 0, none⟩) (by simp) (.int .i64 40)))
    have HE0 := hide (((HF.out.r0.set 0 (.slice none 0 0)).apart (p := ⟨w.heap.size + 3, 0, none⟩) (by simp) (.int .i64 40)).cell 0)
    have HE1 := hide (((HF.out.r1.apart (p := ⟨w.heap.size + 2, 0, none⟩) (by simp) (.slice none 0 0)).set 0 (.int .i64 40)).cell 0)
    simp only [List.set_cons_zero, List.getElem?_cons_zero] at HE0 HE1
    go_wp2_with fail
    have e0 := HE0.out
    have e1 := HE1.out
    refine bodyPost_ret (v := .tuple #[.slice none 0 0, .int .i64 40]) (by simp [results, Try.results21, go_sem, e0, e1]) rfl ?_
    exact AnsB.zero HX.out HK.out
end Go.Proofs.Ytfhfmnlkpcmgfaa
