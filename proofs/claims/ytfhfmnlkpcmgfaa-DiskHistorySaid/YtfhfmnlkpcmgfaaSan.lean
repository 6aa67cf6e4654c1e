/- sane. -/
import Derived.Test.YtfhfmnlkpcmgfaaSap
import Derived.Test.YtfhfmnlkpcmgfaaSyt
import Derived.Deep.CutRange
import Derived.Deep.CutBlock
import Derived.Deep.Cut
namespace Go.Proofs.Ytfhfmnlkpcmgfaa
open Go.RowKit
variable {n0 : Nat}

/-- Disks that lie in boxes, and bytes, in a later world. -/
structure Env (n0 : Nat) (w : World) (l : List (Nat × Dsk)) (m : List Sec) (W : World) : Prop where
  bel : Below w.heap.size w W
  box : ∀ p ∈ l, Blk W p.1 25 p.2.cs ∧ w.heap.size ≤ p.1 ∧ n0 ≤ p.1 ∧ p.2.In n0 W
  secs : ∀ s ∈ m, s.In n0 W
section
variable {w W W' : World} {l : List (Nat × Dsk)} {m : List Sec}
theorem Env.below (h : Env n0 w l m W) (hb : Below W.heap.size W W') : Env n0 w l m W' :=
  ⟨below_one h.bel hb, fun p hp => ⟨(h.box p hp).1.below hb (h.box p hp).1.lt, (h.box p hp).2.1, (h.box p hp).2.2.1, (h.box p hp).2.2.2.below hb⟩, fun s hs => (h.secs s hs).below hb⟩
theorem Env.drew (h : Env n0 w l m W) : Env n0 w l m W.drew := h.below (Below.refl _ _).drew
theorem Env.alloc (h : Env n0 w l m W) (o : Obj) : Env n0 w l m (W.alloc o) := h.below (below_new _ _)
/-- A new box. -/
theorem Env.new (h : Env n0 w l m W) (hn : n0 ≤ w.heap.size) {d : Dsk} (hd : d.In n0 W) : Env n0 w ((W.heap.size, d) :: l) m (W.alloc (.cells d.cs.toArray 25)) := by
  have h' := h.alloc (.cells d.cs.toArray 25)
  refine ⟨h'.bel, fun p hp => ?_, h'.secs⟩
  rcases List.mem_cons.1 hp with rfl | hp
  · exact ⟨Blk.new W 25 d.cs, h.bel.size, Nat.le_trans hn h.bel.size, hd.below (below_new _ _)⟩
  · exact h'.box p hp
theorem Env.add (h : Env n0 w l m W) {s : Sec} (hs : s.In n0 W) : Env n0 w l (s :: m) W :=
  ⟨h.bel, h.box, fun t ht => by
    rcases List.mem_cons.1 ht with rfl | ht
    · exact hs
    · exact h.secs t ht⟩
/-- Another disk into a box. -/
theorem Env.put (h : Env n0 w l m W) {X : Nat} {d d' : Dsk} (hX : (X, d) ∈ l) (hd : d'.In n0 W) {l' : List (Nat × Dsk)} (hl : ∀ p ∈ l', p = (X, d') ∨ (p ∈ l ∧ p.1 ≠ X)) : Env n0 w l' m (W.setRow X d'.cs.toArray) := by
  obtain ⟨hb, hw, hn, _⟩ := h.box _ hX
  have hg : W.grownBy (W.setRow X d'.cs.toArray) (some X) := only_setRow (only_refl _ _) (.inl rfl) _
  refine ⟨below_setRow h.bel hw _, fun p hp => ?_, fun s hs => (h.secs s hs).keep hb hn hg⟩
  rcases hl p hp with rfl | ⟨hp, hne⟩
  · exact ⟨hb.row _, hw, hn, hd.keep hb hn hg⟩
  · exact ⟨(h.box p hp).1.far hne _, (h.box p hp).2.1, (h.box p hp).2.2.1, (h.box p hp).2.2.2.keep hb hn hg⟩
end
theorem write_is {d : Dsk} {i : Int} {b : Sec} {x y : Dk} {n : Int} (w : World) (hd : d.d = x) (h : x.write i b.l = (y, n)) (hi : d.In n0 w) (hb : b.In n0 w) (hri : -9223372036854775808 ≤ i ∧ i ≤ 9223372036854775807) :
    Calls Try.prog 19 #[d.v, .int .i64 i, b.v] w fun e w' => ∃ d' : Dsk, e = .returned (.tuple #[d'.v, .int .i64 n]) ∧ d'.d = y ∧ d'.In n0 w' ∧ Below w.heap.size w w' :=
  (write_any d i b w hi hb hri).mono fun e w' ⟨d', h1, h2, h3, h4⟩ => by
    rw [hd, h] at h1 h2
    exact ⟨d', h1, h2, h3, h4⟩
theorem stop_is {d : Dsk} {i : Int} {x y : Dk} {n : Int} (w : World) (hd : d.d = x) (h : x.stop i = (y, n)) (hi : d.In n0 w) :
    Calls Try.prog 25 #[d.v, .int .i64 i] w fun e w' => ∃ d' : Dsk, e = .returned (.tuple #[d'.v, .int .i64 n]) ∧ d'.d = y ∧ d'.In n0 w' ∧ Below w.heap.size w w' :=
  (stop_any d i w hi).mono fun e w' ⟨d', h1, h2, h3, h4⟩ => by
    rw [hd, h] at h1 h2
    exact ⟨d', h1, h2, h3, h4⟩
theorem sync_is {d : Dsk} {x y : Dk} {n : Int} (w : World) (hd : d.d = x) (h : x.sync = (y, n)) (hi : d.In n0 w) :
    Calls Try.prog 23 #[d.v] w fun e w' => ∃ d' : Dsk, e = .returned (.tuple #[d'.v, .int .i64 n]) ∧ d'.d = y ∧ d'.In n0 w' ∧ Below w.heap.size w w' :=
  (sync_any d w hi).mono fun e w' ⟨d', h1, h2, h3, h4⟩ => by
    rw [hd, h] at h1 h2
    exact ⟨d', h1, h2, h3, h4⟩
theorem read_is {d : Dsk} {i : Int} {x : Dk} {y : List UInt8} {n : Int} (w : World) (hd : d.d = x) (h : x.read i = (y, n)) (hi : d.In n0 w) :
    Calls Try.prog 21 #[d.v, .int .i64 i] w fun e w' => ∃ s : Sec, e = .returned (.tuple #[s.v, .int .i64 n]) ∧ s.l = y ∧ s.In n0 w' ∧ Below w.heap.size w w' :=
  (read_any d i w hi).mono fun e w' ⟨d', h1, h2, h3, h4⟩ => by
    rw [hd, h] at h1 h2
    exact ⟨d', h1, h2, h3, h4⟩
theorem restart_is {d : Dsk} {x : Dk} (w : World) (hd : d.d = x) (hi : d.In n0 w) :
    Calls Try.prog 17 #[d.v] w fun e w' => ∃ d' : Dsk, e = .returned d'.v ∧ d'.d = x.restart ∧ d'.In n0 w' ∧ Below w.heap.size w w' :=
  (restart_any d w hi).mono fun e w' ⟨d', h1, h2, h3, _, _, _, _, _, _, _, _, h4⟩ => ⟨d', h1, by rw [h2, hd], h3, h4⟩
/-- A byte slice of the call's own. -/
theorem blk_in {W : World} {b : Nat} {l : List UInt8} {cap : Nat} (h : Blk W b 5 (bs l)) (hc : l.length ≤ cap) (hm : cap ≤ 9223372036854775807) : Sec.In n0 ⟨some ⟨b, 0, none⟩, l, cap⟩ W :=
  ⟨by have := Blk.cels (n0 := n0) (xs := bs l) (cs := []) (by rw [List.append_nil]; exact h) (by omega); exact this, hc, hm, fun e => by cases e⟩

theorem Try.field25 : ∀ W, (Instr.field 25 (.agg #[.slice none 0 0, .slice none 0 0, .int .i64 (-1), .bool false]) 2).run Try.prog W = .ok (.int .i64 (-1)) W := fun _ => by kernel_rfl
def z129 : List UInt8 := List.replicate 129 0
theorem z129_len : z129.length = 129 := by simp [z129]
theorem make129 (W : World) : (Instr.makeSlice 35 (.int .i64 129) (.int .i64 129)).run Try.prog W = .ok (.slice (some ⟨W.heap.size, 0, none⟩) 129 129) (W.alloc (.cells (bs z129).toArray 5)) := by
  have := make_bytes 129 (by omega) W
  unfold z129
  exact this
attribute [irreducible] z129

set_option maxRecDepth 100000 in
set_option maxHeartbeats 6400000 in
theorem sane_any (w : World) : Calls Try.prog 10 #[] w fun e w' => e = .returned (.bool true) ∧ Below w.heap.size w w' := by
  go_enter Try.func10, Try.ntmps10
  go_wp2_with fail
  refine (new_bad 0 _ (.inl (by decide))).mono ?_
  rintro e w1 ⟨rfl, hb⟩
  have h1 : Env w.heap.size w [] [] w1 := ⟨hb, fun p hp => (by cases hp), fun s hs => (by cases hs)⟩
  have H1 := hide ((h1.new (Nat.le_refl _) (Dsk.zero_in w1)))
  clear hb h1
  go_wp2_with fail
  refine (new_ok (n0 := w.heap.size) 2 _ (by decide) (by decide)).mono ?_
  rintro e w2 ⟨d3, rfl, hd, hi, hb⟩
  have h2 := (H1.out.below hb).new (Nat.le_refl _) hi
  have HD3 := hide (show d3.d = s0 from hd)
  clear hd hi hb H1
  have H2 := hide h2
  obtain ⟨hb3, -, -, hi3⟩ := h2.box _ (List.mem_cons_self)
  obtain ⟨c0, c1, c2, c3⟩ := hb3.c4
  have hbk := Blk.new (w2.alloc (.cells d3.cs.toArray 25)) 5 (bs [7])
  rw [World.size_alloc] at hbk
  have HW1 := hide (write_is (i := 1) (n := 0) _ HD3.out e_w1 (hi3.below (below_new _ _)) (blk_in (n0 := w.heap.size) hbk (cap := 1) (by decide) (by decide)) (by decide))
  clear hb3 hi3 h2 hbk
  go_wp2_with fail
  refine HW1.out.mono ?_
  rintro e w3 ⟨d5, rfl, hd, hi, hb⟩
  have HD5 := hide (show d5.d = s1 from hd)
  have h3 := ((H2.out.alloc (.cells (bs [7]).toArray 5)).below hb).new (Nat.le_refl _) hi
  have H3 := hide h3
  clear hd hi hb c0 c1 c2 c3 HW1 H2
  obtain ⟨hb5, -, -, hi5⟩ := h3.box _ (List.mem_cons_self)
  obtain ⟨c0, c1, c2, c3⟩ := hb5.c4
  have HR1 := hide (read_is _ HD5.out e_r1 hi5)
  clear hb5 hi5 h3
  go_wp2_with fail
  refine HR1.out.mono ?_
  rintro e w4 ⟨sb, rfl, hsb, hi, hb⟩
  have HSB := hide hsb
  have h4 := (H3.out.below hb).add hi
  have H4 := hide h4
  clear hsb hi hb c0 c1 c2 c3 HR1 H3
  obtain ⟨hb3, -, -, hi3⟩ := h4.box (w2.heap.size, d3) (by simp)
  obtain ⟨c0, c1, c2, c3⟩ := hb3.c4
  have HR2 := hide (read_is _ HD3.out e_r2 hi3)
  clear hb3 hi3 h4
  go_wp2_with fail
  refine HR2.out.mono ?_
  rintro e w5 ⟨se, rfl, hse, hi, hb⟩
  have H5 := hide (H4.out.below hb)
  clear hse hi hb c0 c1 c2 c3 HR2 H4
  obtain ⟨hb3, -, -, hi3⟩ := H5.out.box (w2.heap.size, d3) (by simp)
  obtain ⟨c0, c1, c2, c3⟩ := hb3.c4
  have HLT := hide (show w2.heap.size < w5.heap.size from hb3.lt)
  have HI3 := hide (show d3.In w.heap.size w5 from hi3)
  have HW2 := hide (show ∀ W X, Below w5.heap.size w5 W → Blk W X 5 (bs z129) → Calls Try.prog 19 #[d3.v, .int .i64 0, .slice (some ⟨X, 0, none⟩) 129 129] W fun e w' => ∃ d' : Dsk, e = .returned (.tuple #[d'.v, .int .i64 1]) ∧ d'.d = Dk.zero ∧ d'.In w.heap.size w' ∧ Below W.heap.size W w' from fun W X hW hX => by
    have := write_is (i := 0) (n := 1) W HD3.out (e_w2 z129 z129_len) (HI3.out.below hW) (blk_in (n0 := w.heap.size) hX (cap := 129) (by rw [z129_len]; decide) (by decide)) (by decide)
    simp only [Sec.v, z129_len] at this
    exact this)
  have hmk := make129
  clear hb3 hi3
  go_upto_region 6 with (fail)
  go_cut [11, 12] from 48 to 53 (fun _ y W => y = .int .i64 1 ∧ Hid (Below w5.heap.size w5 W))
  case first =>
    have H0 := hide (show Below w5.heap.size w5 w5.drew from (Below.refl _ _).drew)
    refine wp_region_plan3 (fun w' => Below w5.heap.size w5 w') (.take 0 (.both 1 (.both 2 (.take 3 (.take 4 (.take 5 (.run 6 (.run 7 (.run 8 .done)))))) 6 (.run 2 (.take 3 (.take 4 (.take 5 (.run 7 (.run 8 .done))))))) 6 (.run 1 (.run 2 (.take 3 (.take 4 (.take 5 (.run 7 (.run 8 .done))))))))) (by kernel_rfl) (by kernel_rfl) ((Below.refl _ _).drew) ?_
    generalize w5.drew = wD at H0 ⊢
    (refine plan3_take (o := ?_) (v := ?_) (by simp only [List.getElem?_toArray, List.getElem?_cons_zero]; rfl) (yields_run (by rfl) ?_) ?_; rotate_left; (focus (intro w' hw'; have q0 := (hw'.cell (p := ⟨w2.heap.size, 0, none⟩) HLT.out).trans c0; have q1 := (hw'.cell (p := ⟨w2.heap.size, 1, none⟩) HLT.out).trans c1; have q2 := (hw'.cell (p := ⟨w2.heap.size, 2, none⟩) HLT.out).trans c2; have q3 := (hw'.cell (p := ⟨w2.heap.size, 3, none⟩) HLT.out).trans c3; go_simp <;> with_reducible rfl)); (simp only [Act.put, List.setIfInBounds_toArray, List.set_cons_zero, List.set_cons_succ]))
    refine plan3_both (o1 := ?_) (o2 := ?_) (by simp only [List.getElem?_toArray, List.getElem?_cons_succ, List.getElem?_cons_zero]; rfl) (by simp only [List.getElem?_toArray, List.getElem?_cons_succ, List.getElem?_cons_zero]; rfl) ?_ ?_
    · intro R HR
      have HS1 := hide (H0.out.alloc H0.out.size (.cells (bs z129).toArray 5))
      have HB1 := hide (Blk.new wD 5 (bs z129))
      try simp only [World.size_alloc] at HB1
      go_wp2_with fail
      refine HR.out _ _ HS1.out ?_
      clear HR
      refine plan3_both (o1 := ?_) (o2 := ?_) (by simp only [List.getElem?_toArray, List.getElem?_cons_succ, List.getElem?_cons_zero]; rfl) (by simp only [List.getElem?_toArray, List.getElem?_cons_succ, List.getElem?_cons_zero]; rfl) ?_ ?_
      · intro R HR
        go_wp2_with fail
        (with_reducible refine (HW2.out _ _ HS1.out HB1.out).mono ?_)
        rintro e v2 ⟨x2, rfl, hd, hi, hb⟩
        have HS2 := hide (below_one HS1.out hb)
        clear hd hi hb
        go_wp2_with fail
        refine HR.out _ _ HS2.out ?_
        clear HR
        (refine plan3_take (o := ?_) (v := ?_) (by simp only [List.getElem?_toArray, List.getElem?_cons_succ, List.getElem?_cons_zero]; rfl) (yields_run (by rfl) ?_) ?_; rotate_left; (focus (intro w' _; go_simp <;> with_reducible rfl)); (simp only [Act.put, List.setIfInBounds_toArray, List.set_cons_zero, List.set_cons_succ]))
        (refine plan3_take (o := ?_) (v := ?_) (by simp only [List.getElem?_toArray, List.getElem?_cons_succ, List.getElem?_cons_zero]; rfl) (yields_run (by rfl) ?_) ?_; rotate_left; (focus (intro w' _; go_simp <;> with_reducible rfl)); (simp only [Act.put, List.setIfInBounds_toArray, List.set_cons_zero, List.set_cons_succ]))
        (refine plan3_take (o := ?_) (v := ?_) (by simp only [List.getElem?_toArray, List.getElem?_cons_succ, List.getElem?_cons_zero]; rfl) (yields_run (by rfl) ?_) ?_; rotate_left; (focus (intro w' _; go_simp <;> with_reducible rfl)); (simp only [Act.put, List.setIfInBounds_toArray, List.set_cons_zero, List.set_cons_succ]))
        refine plan3_run (o := ?_) (by simp only [List.getElem?_toArray, List.getElem?_cons_succ, List.getElem?_cons_zero]; rfl) ?_
        intro R HR
        have HS3 := hide (HS2.out.alloc HS2.out.size (.cells #[.slice none 0 0, .slice none 0 0, .int .i64 0, .bool false] 25))
        have HX3 := hide (Blk.new v2 25 [.slice none 0 0, .slice none 0 0, .int .i64 0, .bool false])
        have HZ3 := hide HS2.out.size
        try simp only [World.size_alloc] at HX3
        try simp only [World.size_alloc] at HZ3
        have HB3 := hide (HB1.out.alloc (.cells #[.slice none 0 0, .slice none 0 0, .int .i64 0, .bool false] 25))
        go_wp2_with fail
        refine HR.out _ _ HS3.out ?_
        clear HR
        refine plan3_run (o := ?_) (by simp only [List.getElem?_toArray, List.getElem?_cons_succ, List.getElem?_cons_zero]; rfl) ?_
        intro R HR
        have HS4 := hide (below_setRow HS3.out HZ3.out #[.slice x2.sa x2.ss.length x2.sc, .slice x2.pa x2.ps.length x2.pc, .int .i64 x2.left, .bool x2.stp])
        refine wpList_store_row rfl 25 (.tmp 11) (.tmp 52) rfl _ #[.slice x2.sa x2.ss.length x2.sc, .slice x2.pa x2.ps.length x2.pc, .int .i64 x2.left, .bool x2.stp] rfl rfl 25 _ HX3.out Try.size25 rfl (one25 _ _ _ _ _ _ _ _) ?_
        refine HR.out _ _ HS4.out ?_
        clear HR
        refine plan3_run (o := ?_) (by simp only [List.getElem?_toArray, List.getElem?_cons_succ, List.getElem?_cons_zero]; rfl) ?_
        intro R HR
        go_wp2_with fail
        refine HR.out _ _ HS4.out ?_
        clear HR
        refine plan3_done ?_
        go_wp2_with fail
        go_meet
        case rel => exact ⟨rfl, HS4⟩
      · intro R HR
        have HS2 := hide (HS1.out.alloc HS1.out.size (.cells #[.slice none 0 0, .slice none 0 0, .int .i64 0, .bool false] 25))
        have HX2 := hide (Blk.new (wD.alloc (.cells (bs z129).toArray 5)) 25 [.slice none 0 0, .slice none 0 0, .int .i64 0, .bool false])
        have HZ2 := hide HS1.out.size
        try simp only [World.size_alloc] at HX2
        try simp only [World.size_alloc] at HZ2
        have HB2 := hide (HB1.out.alloc (.cells #[.slice none 0 0, .slice none 0 0, .int .i64 0, .bool false] 25))
        go_wp2_with fail
        refine HR.out _ _ HS2.out ?_
        clear HR
        refine plan3_run (o := ?_) (by simp only [List.getElem?_toArray, List.getElem?_cons_succ, List.getElem?_cons_zero]; rfl) ?_
        intro R HR
        go_wp2_with fail
        (with_reducible refine (HW2.out _ _ HS2.out HB2.out).mono ?_)
        rintro e v3 ⟨x3, rfl, hd, hi, hb⟩
        have HS3 := hide (below_one HS2.out hb)
        have HX3 := hide (HX2.out.below hb HX2.out.lt)
        clear hd hi hb
        go_wp2_with fail
        refine HR.out _ _ HS3.out ?_
        clear HR
        (refine plan3_take (o := ?_) (v := ?_) (by simp only [List.getElem?_toArray, List.getElem?_cons_succ, List.getElem?_cons_zero]; rfl) (yields_run (by rfl) ?_) ?_; rotate_left; (focus (intro w' _; go_simp <;> with_reducible rfl)); (simp only [Act.put, List.setIfInBounds_toArray, List.set_cons_zero, List.set_cons_succ]))
        (refine plan3_take (o := ?_) (v := ?_) (by simp only [List.getElem?_toArray, List.getElem?_cons_succ, List.getElem?_cons_zero]; rfl) (yields_run (by rfl) ?_) ?_; rotate_left; (focus (intro w' _; go_simp <;> with_reducible rfl)); (simp only [Act.put, List.setIfInBounds_toArray, List.set_cons_zero, List.set_cons_succ]))
        (refine plan3_take (o := ?_) (v := ?_) (by simp only [List.getElem?_toArray, List.getElem?_cons_succ, List.getElem?_cons_zero]; rfl) (yields_run (by rfl) ?_) ?_; rotate_left; (focus (intro w' _; go_simp <;> with_reducible rfl)); (simp only [Act.put, List.setIfInBounds_toArray, List.set_cons_zero, List.set_cons_succ]))
        refine plan3_run (o := ?_) (by simp only [List.getElem?_toArray, List.getElem?_cons_succ, List.getElem?_cons_zero]; rfl) ?_
        intro R HR
        have HS4 := hide (below_setRow HS3.out HZ2.out #[.slice x3.sa x3.ss.length x3.sc, .slice x3.pa x3.ps.length x3.pc, .int .i64 x3.left, .bool x3.stp])
        refine wpList_store_row rfl 25 (.tmp 11) (.tmp 52) rfl _ #[.slice x3.sa x3.ss.length x3.sc, .slice x3.pa x3.ps.length x3.pc, .int .i64 x3.left, .bool x3.stp] rfl rfl 25 _ HX3.out Try.size25 rfl (one25 _ _ _ _ _ _ _ _) ?_
        refine HR.out _ _ HS4.out ?_
        clear HR
        refine plan3_run (o := ?_) (by simp only [List.getElem?_toArray, List.getElem?_cons_succ, List.getElem?_cons_zero]; rfl) ?_
        intro R HR
        go_wp2_with fail
        refine HR.out _ _ HS4.out ?_
        clear HR
        refine plan3_done ?_
        go_wp2_with fail
        go_meet
        case rel => exact ⟨rfl, HS4⟩
    · intro R HR
      have HS1 := hide (H0.out.alloc H0.out.size (.cells #[.slice none 0 0, .slice none 0 0, .int .i64 0, .bool false] 25))
      have HX1 := hide (Blk.new wD 25 [.slice none 0 0, .slice none 0 0, .int .i64 0, .bool false])
      have HZ1 := hide H0.out.size
      try simp only [World.size_alloc] at HX1
      try simp only [World.size_alloc] at HZ1
      go_wp2_with fail
      refine HR.out _ _ HS1.out ?_
      clear HR
      refine plan3_run (o := ?_) (by simp only [List.getElem?_toArray, List.getElem?_cons_succ, List.getElem?_cons_zero]; rfl) ?_
      intro R HR
      have HS2 := hide (HS1.out.alloc HS1.out.size (.cells (bs z129).toArray 5))
      have HB2 := hide (Blk.new (wD.alloc (.cells #[.slice none 0 0, .slice none 0 0, .int .i64 0, .bool false] 25)) 5 (bs z129))
      try simp only [World.size_alloc] at HB2
      have HX2 := hide (HX1.out.alloc (.cells (bs z129).toArray 5))
      go_wp2_with fail
      refine HR.out _ _ HS2.out ?_
      clear HR
      refine plan3_run (o := ?_) (by simp only [List.getElem?_toArray, List.getElem?_cons_succ, List.getElem?_cons_zero]; rfl) ?_
      intro R HR
      go_wp2_with fail
      (with_reducible refine (HW2.out _ _ HS2.out HB2.out).mono ?_)
      rintro e v3 ⟨x3, rfl, hd, hi, hb⟩
      have HS3 := hide (below_one HS2.out hb)
      have HX3 := hide (HX2.out.below hb HX2.out.lt)
      clear hd hi hb
      go_wp2_with fail
      refine HR.out _ _ HS3.out ?_
      clear HR
      (refine plan3_take (o := ?_) (v := ?_) (by simp only [List.getElem?_toArray, List.getElem?_cons_succ, List.getElem?_cons_zero]; rfl) (yields_run (by rfl) ?_) ?_; rotate_left; (focus (intro w' _; go_simp <;> with_reducible rfl)); (simp only [Act.put, List.setIfInBounds_toArray, List.set_cons_zero, List.set_cons_succ]))
      (refine plan3_take (o := ?_) (v := ?_) (by simp only [List.getElem?_toArray, List.getElem?_cons_succ, List.getElem?_cons_zero]; rfl) (yields_run (by rfl) ?_) ?_; rotate_left; (focus (intro w' _; go_simp <;> with_reducible rfl)); (simp only [Act.put, List.setIfInBounds_toArray, List.set_cons_zero, List.set_cons_succ]))
      (refine plan3_take (o := ?_) (v := ?_) (by simp only [List.getElem?_toArray, List.getElem?_cons_succ, List.getElem?_cons_zero]; rfl) (yields_run (by rfl) ?_) ?_; rotate_left; (focus (intro w' _; go_simp <;> with_reducible rfl)); (simp only [Act.put, List.setIfInBounds_toArray, List.set_cons_zero, List.set_cons_succ]))
      refine plan3_run (o := ?_) (by simp only [List.getElem?_toArray, List.getElem?_cons_succ, List.getElem?_cons_zero]; rfl) ?_
      intro R HR
      have HS4 := hide (below_setRow HS3.out HZ1.out #[.slice x3.sa x3.ss.length x3.sc, .slice x3.pa x3.ps.length x3.pc, .int .i64 x3.left, .bool x3.stp])
      refine wpList_store_row rfl 25 (.tmp 11) (.tmp 52) rfl _ #[.slice x3.sa x3.ss.length x3.sc, .slice x3.pa x3.ps.length x3.pc, .int .i64 x3.left, .bool x3.stp] rfl rfl 25 _ HX3.out Try.size25 rfl (one25 _ _ _ _ _ _ _ _) ?_
      refine HR.out _ _ HS4.out ?_
      clear HR
      refine plan3_run (o := ?_) (by simp only [List.getElem?_toArray, List.getElem?_cons_succ, List.getElem?_cons_zero]; rfl) ?_
      intro R HR
      go_wp2_with fail
      refine HR.out _ _ HS4.out ?_
      clear HR
      refine plan3_done ?_
      go_wp2_with fail
      go_meet
      case rel => exact ⟨rfl, HS4⟩
  case rest =>
    obtain ⟨rfl, hb⟩ := hcut
    have H6 := hide (H5.out.below hb.out)
    clear hb H5 HW2 hmk c0 c1 c2 c3 HI3 HLT
    generalize wc = w6 at *
    obtain ⟨hb5, -, -, hi5⟩ := H6.out.box (w3.heap.size, d5) (by simp)
    obtain ⟨c0, c1, c2, c3⟩ := hb5.c4
    have HST := hide (stop_is _ HD5.out e_s hi5)
    clear hb5 hi5
    go_wp2_with fail
    refine HST.out.mono ?_
    rintro e w7 ⟨d13, rfl, hd, hi, hb⟩
    have HD13 := hide (show d13.d = s2 from hd)
    have H7 := hide ((H6.out.below hb).new (Nat.le_refl _) hi)
    have HN7 := hide (show w3.heap.size ≠ w7.heap.size ∧ w2.heap.size ≠ w7.heap.size ∧ w1.heap.size ≠ w7.heap.size from ⟨Nat.ne_of_lt ((H6.out.below hb).box (w3.heap.size, d5) (by simp)).1.lt, Nat.ne_of_lt ((H6.out.below hb).box (w2.heap.size, d3) (by simp)).1.lt, Nat.ne_of_lt ((H6.out.below hb).box (w1.heap.size, Dsk.zero) (by simp)).1.lt⟩)
    clear hd hi hb c0 c1 c2 c3 HST H6
    have HNE := hide (show w3.heap.size ≠ w7.heap.size ∧ w2.heap.size ≠ w7.heap.size ∧ w1.heap.size ≠ w7.heap.size from ⟨HN7.out.1, HN7.out.2.1, HN7.out.2.2⟩)
    have HEP := hide (show ∀ W x, Below (w7.alloc (.cells d13.cs.toArray 25)).heap.size (w7.alloc (.cells d13.cs.toArray 25)) W → x.In w.heap.size W → Env w.heap.size w [(w7.heap.size, x), (w3.heap.size, d5), (w2.heap.size, d3), (w1.heap.size, Dsk.zero)] [sb] (W.setRow w7.heap.size x.cs.toArray) from fun W x hW hx => (H7.out.below hW).put (d := d13) (by simp) hx (fun p hp => by
      simp only [List.mem_cons, List.not_mem_nil, or_false] at hp
      rcases hp with rfl | rfl | rfl | rfl
      · exact .inl rfl
      · exact .inr ⟨by simp, HNE.out.1⟩
      · exact .inr ⟨by simp, HNE.out.2.1⟩
      · exact .inr ⟨by simp, HNE.out.2.2⟩))
    have HC13 := hide (H7.out.box (w7.heap.size, d13) (by simp)).1.c4
    have HLT := hide (H7.out.box (w7.heap.size, d13) (by simp)).1.lt
    have HI13 := hide (H7.out.box (w7.heap.size, d13) (by simp)).2.2.2
    have HDB : Hid (∀ W, Calls Try.prog 27 #[.int .u8 8] W fun e w' => e = .returned (.slice (some ⟨W.heap.size, 0, none⟩) 128 128) ∧ Blk w' W.heap.size 5 (bs (dblS 8)) ∧ Below W.heap.size W w') := hide (fun W => double_any 8 W)
    have HW3 := hide (show ∀ W X, Below (w7.alloc (.cells d13.cs.toArray 25)).heap.size (w7.alloc (.cells d13.cs.toArray 25)) W → Blk W X 5 (bs (dblS 8)) → Calls Try.prog 19 #[d13.v, .int .i64 0, .slice (some ⟨X, 0, none⟩) 128 128] W fun e w' => ∃ d' : Dsk, e = .returned (.tuple #[d'.v, .int .i64 0]) ∧ d'.d = s3 ∧ d'.In w.heap.size w' ∧ Below W.heap.size W w' from fun W X hW hX => by
      have := write_is (i := 0) (n := 0) (b := ⟨some ⟨X, 0, none⟩, dblS 8, 128⟩) W HD13.out e_w3 (HI13.out.below hW) (blk_in (n0 := w.heap.size) hX (by rw [dbl_len]; decide) (by decide)) (by decide)
      simp only [Sec.v, dbl_len] at this
      exact this)
    go_wp2_with fail
    go_upto_region 8 with (fail)
    have H0 := hide (show Below (w7.alloc (.cells d13.cs.toArray 25)).heap.size (w7.alloc (.cells d13.cs.toArray 25)) (w7.alloc (.cells d13.cs.toArray 25)) from Below.refl _ _)
    generalize w7.alloc (.cells d13.cs.toArray 25) = wA at *
    go_cut [15] from 59 to 64 (fun y W => y = .int .i64 0 ∧ Hid (∃ x : Dsk, x.d = s3 ∧ Env w.heap.size w [(w7.heap.size, x), (w3.heap.size, d5), (w2.heap.size, d3), (w1.heap.size, Dsk.zero)] [sb] W))
    case first =>
      refine wp_region_plan3 (fun _ => True) (.both 0 (.run 1 (.run 2 (.take 3 (.take 4 (.take 5 (.run 6 (.run 7 .done))))))) 1 (.run 0 (.run 2 (.take 3 (.take 4 (.take 5 (.run 6 (.run 7 .done)))))))) (by kernel_rfl) (by kernel_rfl) trivial ?_
      have H0 := hide (show Below wA.heap.size wA wA.drew from (Below.refl _ _).drew)
      generalize wA.drew = wD at H0 ⊢
      refine plan3_both (o1 := ?_) (o2 := ?_) (by simp only [List.getElem?_toArray, List.getElem?_cons_zero]; rfl) (by simp only [List.getElem?_toArray, List.getElem?_cons_succ, List.getElem?_cons_zero]; rfl) ?_ ?_
      · intro R HR
        have q0 := (H0.out.cell (p := ⟨w7.heap.size, 0, none⟩) HLT.out).trans HC13.out.1
        have q1 := (H0.out.cell (p := ⟨w7.heap.size, 1, none⟩) HLT.out).trans HC13.out.2.1
        have q2 := (H0.out.cell (p := ⟨w7.heap.size, 2, none⟩) HLT.out).trans HC13.out.2.2.1
        have q3 := (H0.out.cell (p := ⟨w7.heap.size, 3, none⟩) HLT.out).trans HC13.out.2.2.2
        go_wp2_with fail
        refine HR.out _ _ trivial ?_
        clear HR q0 q1 q2 q3
        refine plan3_run (o := ?_) (by simp only [List.getElem?_toArray, List.getElem?_cons_succ, List.getElem?_cons_zero]; rfl) ?_
        intro R HR
        go_wp2_with fail
        (with_reducible refine (HDB.out _).mono ?_)
        rintro e v2 ⟨rfl, hB, hb⟩
        have HB2 := hide hB
        have HS2 := hide (below_one H0.out hb)
        clear hB hb
        go_wp2_with fail
        refine HR.out _ _ trivial ?_
        clear HR
        refine plan3_run (o := ?_) (by simp only [List.getElem?_toArray, List.getElem?_cons_succ, List.getElem?_cons_zero]; rfl) ?_
        intro R HR
        go_wp2_with fail
        (with_reducible refine (HW3.out _ _ HS2.out HB2.out).mono ?_)
        rintro e v3 ⟨x3, rfl, hd, hi, hb⟩
        have HS3 := hide (below_one HS2.out hb)
        have HD3 := hide hd
        have HI3 := hide hi
        clear hd hi hb
        go_wp2_with fail
        refine HR.out _ _ trivial ?_
        clear HR
        (refine plan3_take (o := ?_) (v := ?_) (by simp only [List.getElem?_toArray, List.getElem?_cons_succ, List.getElem?_cons_zero]; rfl) (yields_run (by rfl) ?_) ?_; rotate_left; (focus (intro w' _; go_simp <;> with_reducible rfl)); (simp only [Act.put, List.setIfInBounds_toArray, List.set_cons_zero, List.set_cons_succ]))
        (refine plan3_take (o := ?_) (v := ?_) (by simp only [List.getElem?_toArray, List.getElem?_cons_succ, List.getElem?_cons_zero]; rfl) (yields_run (by rfl) ?_) ?_; rotate_left; (focus (intro w' _; go_simp <;> with_reducible rfl)); (simp only [Act.put, List.setIfInBounds_toArray, List.set_cons_zero, List.set_cons_succ]))
        (refine plan3_take (o := ?_) (v := ?_) (by simp only [List.getElem?_toArray, List.getElem?_cons_succ, List.getElem?_cons_zero]; rfl) (yields_run (by rfl) ?_) ?_; rotate_left; (focus (intro w' _; go_simp <;> with_reducible rfl)); (simp only [Act.put, List.setIfInBounds_toArray, List.set_cons_zero, List.set_cons_succ]))
        refine plan3_run (o := ?_) (by simp only [List.getElem?_toArray, List.getElem?_cons_succ, List.getElem?_cons_zero]; rfl) ?_
        intro R HR
        have HE4 := hide (HEP.out v3 x3 HS3.out HI3.out)
        have HX4 := hide ((H7.out.below HS3.out).box (w7.heap.size, d13) (by simp)).1
        refine wpList_store_row rfl 25 (.tmp 13) (.tmp 63) rfl _ #[.slice x3.sa x3.ss.length x3.sc, .slice x3.pa x3.ps.length x3.pc, .int .i64 x3.left, .bool x3.stp] rfl rfl 25 _ HX4.out Try.size25 rfl (one25 _ _ _ _ _ _ _ _) ?_
        refine HR.out _ _ trivial ?_
        clear HR
        refine plan3_run (o := ?_) (by simp only [List.getElem?_toArray, List.getElem?_cons_succ, List.getElem?_cons_zero]; rfl) ?_
        intro R HR
        go_wp2_with fail
        refine HR.out _ _ trivial ?_
        clear HR
        refine plan3_done ?_
        go_wp2_with fail
        go_meet
        case rel => exact ⟨rfl, hide ⟨x3, HD3.out, HE4.out⟩⟩
      · intro R HR
        go_wp2_with fail
        (with_reducible refine (HDB.out _).mono ?_)
        rintro e v1 ⟨rfl, hB, hb⟩
        have HB1 := hide hB
        have HS1 := hide (below_one H0.out hb)
        clear hB hb
        go_wp2_with fail
        refine HR.out _ _ trivial ?_
        clear HR
        refine plan3_run (o := ?_) (by simp only [List.getElem?_toArray, List.getElem?_cons_zero]; rfl) ?_
        intro R HR
        have q0 := (HS1.out.cell (p := ⟨w7.heap.size, 0, none⟩) HLT.out).trans HC13.out.1
        have q1 := (HS1.out.cell (p := ⟨w7.heap.size, 1, none⟩) HLT.out).trans HC13.out.2.1
        have q2 := (HS1.out.cell (p := ⟨w7.heap.size, 2, none⟩) HLT.out).trans HC13.out.2.2.1
        have q3 := (HS1.out.cell (p := ⟨w7.heap.size, 3, none⟩) HLT.out).trans HC13.out.2.2.2
        go_wp2_with fail
        refine HR.out _ _ trivial ?_
        clear HR q0 q1 q2 q3
        refine plan3_run (o := ?_) (by simp only [List.getElem?_toArray, List.getElem?_cons_succ, List.getElem?_cons_zero]; rfl) ?_
        intro R HR
        go_wp2_with fail
        (with_reducible refine (HW3.out _ _ HS1.out HB1.out).mono ?_)
        rintro e v3 ⟨x3, rfl, hd, hi, hb⟩
        have HS3 := hide (below_one HS1.out hb)
        have HD3 := hide hd
        have HI3 := hide hi
        clear hd hi hb
        go_wp2_with fail
        refine HR.out _ _ trivial ?_
        clear HR
        (refine plan3_take (o := ?_) (v := ?_) (by simp only [List.getElem?_toArray, List.getElem?_cons_succ, List.getElem?_cons_zero]; rfl) (yields_run (by rfl) ?_) ?_; rotate_left; (focus (intro w' _; go_simp <;> with_reducible rfl)); (simp only [Act.put, List.setIfInBounds_toArray, List.set_cons_zero, List.set_cons_succ]))
        (refine plan3_take (o := ?_) (v := ?_) (by simp only [List.getElem?_toArray, List.getElem?_cons_succ, List.getElem?_cons_zero]; rfl) (yields_run (by rfl) ?_) ?_; rotate_left; (focus (intro w' _; go_simp <;> with_reducible rfl)); (simp only [Act.put, List.setIfInBounds_toArray, List.set_cons_zero, List.set_cons_succ]))
        (refine plan3_take (o := ?_) (v := ?_) (by simp only [List.getElem?_toArray, List.getElem?_cons_succ, List.getElem?_cons_zero]; rfl) (yields_run (by rfl) ?_) ?_; rotate_left; (focus (intro w' _; go_simp <;> with_reducible rfl)); (simp only [Act.put, List.setIfInBounds_toArray, List.set_cons_zero, List.set_cons_succ]))
        refine plan3_run (o := ?_) (by simp only [List.getElem?_toArray, List.getElem?_cons_succ, List.getElem?_cons_zero]; rfl) ?_
        intro R HR
        have HE4 := hide (HEP.out v3 x3 HS3.out HI3.out)
        have HX4 := hide ((H7.out.below HS3.out).box (w7.heap.size, d13) (by simp)).1
        refine wpList_store_row rfl 25 (.tmp 13) (.tmp 63) rfl _ #[.slice x3.sa x3.ss.length x3.sc, .slice x3.pa x3.ps.length x3.pc, .int .i64 x3.left, .bool x3.stp] rfl rfl 25 _ HX4.out Try.size25 rfl (one25 _ _ _ _ _ _ _ _) ?_
        refine HR.out _ _ trivial ?_
        clear HR
        refine plan3_run (o := ?_) (by simp only [List.getElem?_toArray, List.getElem?_cons_succ, List.getElem?_cons_zero]; rfl) ?_
        intro R HR
        go_wp2_with fail
        refine HR.out _ _ trivial ?_
        clear HR
        refine plan3_done ?_
        go_wp2_with fail
        go_meet
        case rel => exact ⟨rfl, hide ⟨x3, HD3.out, HE4.out⟩⟩
    case rest =>
      obtain ⟨rfl, hx⟩ := hcut
      obtain ⟨x13, hd, he⟩ := hx.out
      have HD13' := hide (show x13.d = s3 from hd)
      have H8 := hide he
      clear hd he hx H7 HEP HC13 HLT HI13 HDB HW3 H0 HD13
      generalize wc = w8 at *
      obtain ⟨hb13, -, -, hi13⟩ := H8.out.box (w7.heap.size, x13) (by simp)
      obtain ⟨c0, c1, c2, c3⟩ := hb13.c4
      have HSY := hide (sync_is _ HD13'.out e_y hi13)
      clear hb13 hi13
      go_wp2_with fail
      refine HSY.out.mono ?_
      rintro e w9 ⟨d16, rfl, hd, hi, hb⟩
      have HD16 := hide (show d16.d = s4 from hd)
      have H9 := hide ((H8.out.below hb).new (Nat.le_refl _) hi)
      have HN9 := hide (show w7.heap.size ≠ w9.heap.size ∧ w3.heap.size ≠ w9.heap.size ∧ w2.heap.size ≠ w9.heap.size ∧ w1.heap.size ≠ w9.heap.size from ⟨Nat.ne_of_lt ((H8.out.below hb).box (w7.heap.size, x13) (by simp)).1.lt, Nat.ne_of_lt ((H8.out.below hb).box (w3.heap.size, d5) (by simp)).1.lt, Nat.ne_of_lt ((H8.out.below hb).box (w2.heap.size, d3) (by simp)).1.lt, Nat.ne_of_lt ((H8.out.below hb).box (w1.heap.size, Dsk.zero) (by simp)).1.lt⟩)
      clear hd hi hb c0 c1 c2 c3 HSY H8
      obtain ⟨hb16, -, -, hi16⟩ := H9.out.box (w9.heap.size, d16) (by simp)
      have HBX := hide hb16
      obtain ⟨c0, c1, c2, c3⟩ := hb16.c4
      have hst : d16.stp = true := by have := congrArg Dk.stp HD16.out; exact this
      have HST := hide hst
      have c3' : (w9.alloc (.cells d16.cs.toArray 25)).cell? ⟨w9.heap.size, 3, none⟩ = some (.bool true) := by rw [← hst]; exact c3
      have HRS : Hid (Calls Try.prog 17 #[.agg #[.slice d16.sa d16.ss.length d16.sc, .slice d16.pa d16.ps.length d16.pc, .int .i64 d16.left, .bool true]] (w9.alloc (.cells d16.cs.toArray 25)) fun e w' => ∃ d' : Dsk, e = .returned d'.v ∧ d'.d = s4.restart ∧ d'.In w.heap.size w' ∧ Below (w9.alloc (.cells d16.cs.toArray 25)).heap.size (w9.alloc (.cells d16.cs.toArray 25)) w') := hide (by
        have := restart_is _ HD16.out hi16
        rwa [show d16.v = .agg #[.slice d16.sa d16.ss.length d16.sc, .slice d16.pa d16.ps.length d16.pc, .int .i64 d16.left, .bool true] by simp [Dsk.v, hst]] at this)
      have HEP := hide (show ∀ W x, Below (w9.alloc (.cells d16.cs.toArray 25)).heap.size (w9.alloc (.cells d16.cs.toArray 25)) W → x.In w.heap.size W → Env w.heap.size w [(w9.heap.size, x), (w7.heap.size, x13), (w3.heap.size, d5), (w2.heap.size, d3), (w1.heap.size, Dsk.zero)] [sb] (W.setRow w9.heap.size x.cs.toArray) from fun W x hW hx => (H9.out.below hW).put (d := d16) (by simp) hx (fun p hp => by
        simp only [List.mem_cons, List.not_mem_nil, or_false] at hp
        rcases hp with rfl | rfl | rfl | rfl | rfl
        · exact .inl rfl
        · exact .inr ⟨by simp, HN9.out.1⟩
        · exact .inr ⟨by simp, HN9.out.2.1⟩
        · exact .inr ⟨by simp, HN9.out.2.2.1⟩
        · exact .inr ⟨by simp, HN9.out.2.2.2⟩))
      clear hb16 hi16 c3 hst
      go_wp2_with fail
      refine HRS.out.mono ?_
      rintro e w10 ⟨y16, rfl, hd, hi, hb⟩
      have HY := hide (show y16.d = s4.restart from hd)
      have HE10 := hide (HEP.out w10 y16 hb hi)
      have HX10 := hide (HBX.out.below hb HBX.out.lt)
      clear hd hi hb c0 c1 c2 c3' HRS HEP HBX H9
      obtain ⟨hb16, -, -, hi16⟩ := HE10.out.box (w9.heap.size, y16) (by simp)
      obtain ⟨c0, c1, c2, c3⟩ := hb16.c4
      have HR1 := hide (read_is _ HY.out e_x1 hi16)
      clear hb16 hi16
      go_wp2_with (refine wpList_store_row rfl 25 (.tmp 16) (.tmp 110) rfl w9.heap.size #[.slice y16.sa y16.ss.length y16.sc, .slice y16.pa y16.ps.length y16.pc, .int .i64 y16.left, .bool y16.stp] rfl rfl 25 _ HX10.out Try.size25 rfl (one25 _ _ _ _ _ _ _ _) ?_)
      refine HR1.out.mono ?_
      rintro e w11 ⟨so, rfl, hso, hi, hb⟩
      have HSO := hide hso
      have H11 := hide ((HE10.out.below hb).add hi)
      clear hso hi hb c0 c1 c2 c3 HR1 HE10 HX10
      obtain ⟨hb16, -, -, hi16⟩ := H11.out.box (w9.heap.size, y16) (by simp)
      obtain ⟨c0, c1, c2, c3⟩ := hb16.c4
      have HR0 := hide (read_is _ HY.out e_x0 hi16)
      clear hb16 hi16
      go_wp2_with fail
      refine HR0.out.mono ?_
      rintro e w12 ⟨sn, rfl, hsn, hi, hb⟩
      have HSN := hide hsn
      have H12 := hide ((H11.out.below hb).add hi)
      clear hsn hi hb c0 c1 c2 c3 HR0 H11
      obtain ⟨hb5, -, -, hi5⟩ := H12.out.box (w3.heap.size, d5) (by simp)
      obtain ⟨c0, c1, c2, c3⟩ := hb5.c4
      have HRR := hide (restart_is _ HD5.out hi5)
      clear hb5 hi5
      go_wp2_with fail
      refine HRR.out.mono ?_
      rintro e w13 ⟨z, rfl, hd, hi, hb⟩
      have H13 := hide (H12.out.below hb)
      have HRL := hide (read_is _ (show z.d = s1.restart from hd) e_l hi)
      clear hd hi hb c0 c1 c2 c3 HRR H12
      go_wp2_with fail
      refine HRL.out.mono ?_
      rintro e w14 ⟨sl, rfl, hsl, hi, hb⟩
      have HSL := hide hsl
      have H14 := hide ((H13.out.below hb).add hi)
      clear hsl hi hb HRL H13
      obtain ⟨bb, ob, hAb, _, fb⟩ := (H14.out.secs sb (by simp)).byte (n := 128) (by rw [HSB.out]; exact p7_len) (by decide)
      obtain ⟨bo, oo, hAo, _, fo⟩ := (H14.out.secs so (by simp)).byte (n := 128) (by rw [HSO.out]; exact p7_len) (by decide)
      obtain ⟨bn, on, hAn, _, fn⟩ := (H14.out.secs sn (by simp)).byte (n := 128) (by rw [HSN.out]; exact t8_len) (by decide)
      obtain ⟨bl, ol, hAl, _, fl⟩ := (H14.out.secs sl (by simp)).byte (n := 128) (by rw [HSL.out]; exact zeroS_len) (by decide)
      have x1 := fb 0 _ (by rw [HSB.out]; exact b_p7)
      have x2 := fo 0 _ (by rw [HSO.out]; exact b_p7)
      have x3 := fn 0 _ (by rw [HSN.out]; exact b_t8.1)
      have x4 := fn 64 _ (by rw [HSN.out]; exact b_t8.2)
      have x5 := fl 0 _ (by rw [HSL.out]; exact z_at 0 (by omega))
      have l1 : sb.l.length = 128 := by rw [HSB.out]; exact p7_len
      have l2 : so.l.length = 128 := by rw [HSO.out]; exact p7_len
      have l3 : sn.l.length = 128 := by rw [HSN.out]; exact t8_len
      have l4 : sl.l.length = 128 := by rw [HSL.out]; exact zeroS_len
      simp only [Nat.add_zero] at x1 x2 x3 x4 x5
      clear fb fo fn fl
      have HCK : Hid (∀ W, Calls Try.prog 15 #[.agg #[.slice none 0 0, .slice none 0 0, .int .i64 0, .bool false]] W fun e w' => e = .returned (.int .i64 40) ∧ Below W.heap.size W w') := hide (fun W => check_any (n0 := 0) Dsk.zero W (Dsk.zero_in W))
      have HRZ : Hid (∀ W, Calls Try.prog 17 #[.agg #[.slice none 0 0, .slice none 0 0, .int .i64 0, .bool false]] W fun e w' => e = .returned (.agg #[.slice none 0 0, .slice none 0 0, .int .i64 (-1), .bool false]) ∧ Below W.heap.size W w') := hide (fun W => (restart_any (n0 := 0) Dsk.zero W (Dsk.zero_in W)).mono fun e w' ⟨x, h1, _, _, h2, h3, h4, h5, h6, h7, h8, h9, h10⟩ => by
        obtain ⟨xa, xs, xc, xb, xp, xd, xl, xt⟩ := x
        simp only at h2 h3 h4 h5 h6 h7 h8 h9
        subst h2 h3 h4 h5 h6 h7 h8 h9
        exact ⟨h1, h10⟩)
      have HBB := hide H14.out.bel
      clear H14
      have v1 : sb.v = .slice (some ⟨bb, ob, none⟩) 128 sb.cap := by simp [Sec.v, hAb, l1]
      have v2 : so.v = .slice (some ⟨bo, oo, none⟩) 128 so.cap := by simp [Sec.v, hAo, l2]
      have v3 : sn.v = .slice (some ⟨bn, on, none⟩) 128 sn.cap := by simp [Sec.v, hAn, l3]
      have v4 : sl.v = .slice (some ⟨bl, ol, none⟩) 128 sl.cap := by simp [Sec.v, hAl, l4]
      rw [v1, v2, v3, v4]
      clear v1 v2 v3 v4 hAb hAo hAn hAl l1 l2 l3 l4
      go_wp2_with fail
      refine (HCK.out _).mono ?_
      rintro e w15 ⟨rfl, hb⟩
      have HB15 := hide (below_one HBB.out hb)
      clear hb
      go_wp2_with fail
      refine (HRZ.out _).mono ?_
      rintro e w16 ⟨rfl, hb⟩
      have HB16 := hide (below_one HB15.out hb)
      clear hb
      have hfl := Try.field25
      go_wp2_with fail
      go_ret
      exact ⟨rfl, HB16.out⟩
end Go.Proofs.Ytfhfmnlkpcmgfaa
