
/- New. -/
import Derived.Test.YtgigccgklahddaaSof
import Derived.Test.YtgigccgklahddaaHoist
import Derived.Test.YtgigccgklahddaaPlanT
namespace Go.Proofs.Ytgigccgklahddaa
open Go.RowKit
variable {n0 : Nat}

theorem Try.info35 : (Try.prog.info? 35).map (fun i => (i.zero, i.size, i.bytes)) = some (some (.slice none 0 0), 1, 24) := by kernel_rfl
theorem hinfo35 : ∃ i0, Try.prog.info? 35 = some i0 ∧ i0.zero = some (.slice none 0 0) ∧ i0.size = 1 ∧ i0.bytes = 24 := by
  obtain ⟨i0, hi, hz0, hz1, hz2⟩ := info_parts Try.info35
  exact ⟨i0, hi, hz0, hz1, hz2⟩
set_option maxRecDepth 20000 in
theorem make_secs (n : Nat) (hn : n ≤ 1000000) (W : World) : (Instr.makeSlice 22 (.int .i64 (n : Int)) (.int .i64 (n : Int))).run Try.prog W = .ok (.slice (some ⟨W.heap.size, 0, none⟩) n n) (W.alloc (.cells (List.replicate n (.slice none 0 0)).toArray 35)) := by
  obtain ⟨i0, hi, hz, h1, h2⟩ := hinfo35
  rw [run_make_rowN 22 35 i0 _ Try.underlying22 hi hz _ _ n n (Nat.le_refl _) (by rw [h2]; omega) (by omega) W, h1]
  congr 4
  simp [madeCells, Value.cells]
  apply Array.ext
  · simp
  · intro i h1 h2; simp [Nat.mod_one]

/-- A sector of the call's own: a block of 128 bytes. -/
def Sec.Own (s : Sec) (W : World) : Prop := s.cap = 128 ∧ s.l.length = 128 ∧ ∃ B, s.A = some ⟨B, 0, none⟩ ∧ Blk W B 5 (bs s.l)
section
variable {W W' : World} {s : Sec}
theorem Sec.Own.in (h : s.Own W) : s.In n0 W := by
  obtain ⟨h1, h2, B, e, hB⟩ := h
  refine ⟨fun _ => ⟨B, 0, e, hB.lt, hB.okb (by omega), fun i hi => ?_⟩, by omega, by omega, fun h => by rw [h] at e; cases e⟩
  rw [Nat.zero_add, hB.cell, List.getElem?_eq_getElem hi]
theorem Sec.Own.of {B : Nat} {l : List UInt8} (h : Blk W B 5 (bs l)) (hl : l.length = 128) : Sec.Own ⟨some ⟨B, 0, none⟩, l, 128⟩ W := ⟨rfl, hl, B, rfl, h⟩
theorem Sec.Own.below (h : s.Own W) (hb : Below W.heap.size W W') : s.Own W' := by
  obtain ⟨h1, h2, B, e, hB⟩ := h
  exact ⟨h1, h2, B, e, hB.below hb hB.lt⟩
theorem Sec.Own.only {g T : Nat} {cs : List Value} (h : s.Own W) (hg : W.grownBy W' (some g)) (hG : Blk W g T cs) (hT : T ≠ 5) : s.Own W' := by
  obtain ⟨h1, h2, B, e, hB⟩ := h
  exact ⟨h1, h2, B, e, hB.only hg (hB.ne hG (by omega))⟩
/-- A store elsewhere. -/
theorem Sec.Own.set (h : s.Own W) {R T : Nat} {cs : List Value} (hR : Blk W R T cs) (hT : T ≠ 5) (i : Nat) (v : Value) : s.Own (W.setCell ⟨R, i, none⟩ v) := by
  obtain ⟨h1, h2, B, e, hB⟩ := h
  exact ⟨h1, h2, B, e, hB.apart (p := ⟨R, i, none⟩) (hB.ne hR (by omega)) v⟩
end

theorem results_cell_row_tmp {P : Program} {fn : Func} {p u : Tmp} {ty : TypeId} (h : fn.results = #[.cell p ty, .tmp u]) (tmps : Array Value) (w : World) (g : Nat) (t : TypeId) (cs : Array Value) (fr : Nat × Nat) (d : TypeDesc) (x : Value)
    (hp : tmps.getD p undef = .pointer (some ⟨g, 0, none⟩)) (hx : tmps.getD u undef = x) (hg : w.heap[g]? = some (.cells cs t fr))
    (hu : P.underlying ty = some d) (hd : (match d with | .struct _ | .array _ _ => true | _ => false) = true) (hi : (P.info? ty).map (·.size) = some cs.size) :
    (results fn tmps).run P w = .ok (.tuple #[.agg cs, x]) w := by
  rw [results_cell_tmp h, hp, hx]
  simp [asAddr, run_loadVar_row w g t ty cs fr d hg hu hd hi]
theorem one25 (a : Option Addr) (n c : Nat) (b : Option Addr) (m d : Nat) (x : Int) (s : Bool) : (#[Value.slice a n c, .slice b m d, .int .i64 x, .bool s]).all (·.oneCell') = true := by simp [Value.oneCell']
theorem Try.size25 : (Try.prog.info? 25).map (·.size) = some 4 := by kernel_rfl

set_option maxRecDepth 10000 in
set_option maxHeartbeats 800000 in
theorem new_bad (n : Int) (w : World) (h : n < 1 ∨ 4096 < n) :
    Calls Try.prog 24 #[.int .i64 n] w fun e w' => e = .returned (.tuple #[Dsk.zero.v, .int .i64 1]) ∧ Below w.heap.size w w' := by
  have h' : n < 1 ∨ (1 ≤ n ∧ 4096 < n) := by omega
  clear h
  rcases h' with h | ⟨h1, h⟩
  all_goals
    go_enter Try.func24, Try.ntmps24
    go_wp2_with fail
    exact bodyPost_ret (v := .tuple #[Dsk.zero.v, .int .i64 1]) (by simp [results, Try.results24, go_sem, Dsk.zero]) rfl ⟨rfl, below_new _ _⟩

/-- A row of n sectors, of which some are made. -/
structure NewI (w : World) (n : Nat) (l : List Sec) (wr : World) : Prop where
  own : ∀ s ∈ l, s.Own wr ∧ s.l = zeroS
  row : Blk wr (w.heap.size + 1) 35 (secs l ++ List.replicate (n - l.length) (.slice none 0 0))
  box : Blk wr w.heap.size 25 [.slice (some ⟨w.heap.size + 1, 0, none⟩) n n, .slice none 0 0, .int .i64 0, .bool false]
  bel : Below w.heap.size w wr
theorem NewI.put {w wr w1 : World} {n : Nat} {l : List Sec} (h : NewI w n l wr) (hk : l.length < n) (hb : Below wr.heap.size wr w1) {B : Nat} (hB : Blk w1 B 5 (bs zeroS)) :
    NewI w n (l ++ [⟨some ⟨B, 0, none⟩, zeroS, 128⟩]) (w1.setCell ⟨w.heap.size + 1, l.length, none⟩ (.slice (some ⟨B, 0, none⟩) 128 128)) := by
  have hr := h.row.below hb h.row.lt
  refine ⟨fun s hs => ?_, ?_, ((h.box.below hb h.box.lt).apart (by simp) _), (below_one h.bel hb).setCell (by simp) _⟩
  · rcases List.mem_append.1 hs with hs | hs
    · exact ⟨((h.own s hs).1.below hb).set hr (by omega) _ _, (h.own s hs).2⟩
    · obtain rfl : s = _ := by simpa using hs
      exact ⟨(Sec.Own.of hB zeroS_len).set hr (by omega) _ _, rfl⟩
  · have := hr.set l.length (.slice (some ⟨B, 0, none⟩) 128 128)
    rw [List.set_append_right _ _ (by rw [secs_len]; omega), secs_len, Nat.sub_self, show n - l.length = (n - l.length - 1) + 1 by omega, List.replicate_succ, List.set_cons_zero] at this
    rw [secs_app, List.append_assoc]
    simp only [List.length_append, List.length_cons, List.length_nil]
    rw [show n - (l.length + 1) = n - l.length - 1 by omega]
    have e : secs [⟨some ⟨B, 0, none⟩, zeroS, 128⟩] = [Value.slice (some ⟨B, 0, none⟩) 128 128] := by simp [secs, zeroS_len]
    rw [e]
    exact this

theorem hI2 {w wr : World} {l : List Sec} (h : NewI w l.length l wr) (hl : l.length ≤ 4096) : (Dsk.d ⟨some ⟨w.heap.size + 1, 0, none⟩, l, l.length, none, [], 0, -1, false⟩ = ⟨List.replicate l.length zeroS, [], -1, false⟩) ∧
    (Dsk.In n0 ⟨some ⟨w.heap.size + 1, 0, none⟩, l, l.length, none, [], 0, -1, false⟩ ((wr.setCell ⟨w.heap.size, 2, none⟩ (.int .i64 (-1))).setRow w.heap.size #[.slice (some ⟨w.heap.size + 1, 0, none⟩) l.length l.length, .slice none 0 0, .int .i64 (-1), .bool false])) ∧
    Below w.heap.size w ((wr.setCell ⟨w.heap.size, 2, none⟩ (.int .i64 (-1))).setRow w.heap.size #[.slice (some ⟨w.heap.size + 1, 0, none⟩) l.length l.length, .slice none 0 0, .int .i64 (-1), .bool false]) := by
  have hg : wr.grownBy ((wr.setCell ⟨w.heap.size, 2, none⟩ (.int .i64 (-1))).setRow w.heap.size #[.slice (some ⟨w.heap.size + 1, 0, none⟩) l.length l.length, .slice none 0 0, .int .i64 (-1), .bool false]) (some w.heap.size) :=
    only_setRow (only_setCell (only_refl _ _) (.inl rfl) _) (.inl rfl) _
  refine ⟨?_, ⟨⟨fun _ => ⟨_, _, rfl, ?_, (h.row.only hg (by omega)).okb (by omega), fun i hi => ?_⟩, fun s hs => ((h.own s hs).1.only hg h.box (by omega)).in, Nat.le_refl _, ?_, fun h => (by cases h)⟩, ⟨Cels.nil _ _, fun s hs => (by cases hs), Nat.le_refl _, Nat.zero_le _, fun _ => rfl⟩, (show -9223372036854775808 ≤ (-1 : Int) ∧ (-1 : Int) ≤ 9223372036854775807 by decide)⟩, below_of_only h.bel hg (Nat.le_refl _)⟩
  · have : secD l = List.replicate l.length zeroS := List.eq_replicate_iff.2 ⟨secD_len l, fun b hb => by
      obtain ⟨s, hs, rfl⟩ := List.mem_map.1 hb
      exact (h.own s hs).2⟩
    simp only [Dsk.d, this]
    rfl
  · exact Nat.lt_of_lt_of_le h.row.lt hg.size
  · have := (h.row.only hg (by omega)).cell i
    rw [Nat.zero_add, this, Nat.sub_self, List.replicate_zero, List.append_nil]
    exact List.getElem?_eq_getElem hi
  · show l.length ≤ _
    omega

set_option maxRecDepth 10000 in
set_option maxHeartbeats 1600000 in
theorem new_ok (n : Nat) (w : World) (h1 : 1 ≤ n) (h2 : n ≤ 4096) :
    Calls Try.prog 24 #[.int .i64 n] w fun e w' => ∃ d : Dsk, e = .returned (.tuple #[d.v, .int .i64 0]) ∧ d.d = ⟨List.replicate n zeroS, [], -1, false⟩ ∧ d.In n0 w' ∧ Below w.heap.size w w' := by
  have q1 : (1 : Int) ≤ n := by omega
  have q2 : (n : Int) ≤ 4096 := by omega
  have hmk := make_secs n (by omega)
  have HI0 : Hid (NewI w n [] ((w.alloc (.cells #[.slice (some ⟨w.heap.size + 1, 0, none⟩) n n, .slice none 0 0, .int .i64 0, .bool false] 25)).alloc (.cells (List.replicate n (.slice none 0 0)).toArray 35))) := by
    have b1 := Blk.new (w.alloc (.cells #[.slice (some ⟨w.heap.size + 1, 0, none⟩) n n, .slice none 0 0, .int .i64 0, .bool false] 25)) 35 (List.replicate n (.slice none 0 0))
    rw [World.size_alloc] at b1
    exact hide ⟨fun s hs => (by cases hs), by simpa [secs] using b1, (Blk.new w 25 [.slice (some ⟨w.heap.size + 1, 0, none⟩) n n, .slice none 0 0, .int .i64 0, .bool false]).alloc _, (below_new _ _).alloc (by simp) _⟩
  go_enter Try.func24, Try.ntmps24
  go_wp2_with fail
  go_loopw [18, 4] (fun i _ wr => ∃ l : List Sec, l.length ≤ n ∧ i = .int .i64 (l.length : Nat) ∧ Hid (NewI w n l wr)) (fun i _ _ => n - (intOf i).toNat)
  case atStart => exact ⟨[], Nat.zero_le _, rfl, HI0⟩
  case round =>
    obtain ⟨l, hk, rfl, HI⟩ := hrel
    by_cases hlt : l.length < n
    · have HS := hide (fun W => sectorOf_any (n0 := 0) ⟨none, [], 0⟩ W ⟨Cels.nil _ _, Nat.le_refl _, by decide, fun _ => rfl⟩)
      rw [padS_nil] at HS
      have hcell := (HI.out.box.cell 0).trans (by rfl : _ = some (.slice (some ⟨w.heap.size + 1, 0, none⟩) n n))
      have hlt' : (l.length : Int) < n := by omega
      go_wp2_with fail
      refine wp_region_hoist (fun w' => w'.cell? ⟨w.heap.size, 0, none⟩ = some (.slice (some ⟨w.heap.size + 1, 0, none⟩) n n)) [true, true, true, false, false, false] (by kernel_rfl) (by kernel_rfl) hcell ?_
      repeat (refine head_take (v := ?_) (yields_run (by rfl) ?_) ?_; rotate_left; (focus (intro w' hw'; go_simp <;> with_reducible rfl)); (simp only [Act.put, List.setIfInBounds_toArray, List.set_cons_zero, List.set_cons_succ]))
      refine head_skip (head_skip (head_skip (head_done ?_)))
      repeat refine tail_skip ?_
      refine tail_step ?_
      intro R HR
      go_wp2_with fail
      refine (HS.out _).mono ?_
      rintro e w1 ⟨rfl, hB, hb⟩
      have hb := below_ofdrew hb
      have HN := hide (HI.out.put hlt hb hB)
      have hr := (HI.out.row.below hb HI.out.row.lt).cell l.length
      rw [List.getElem?_append_right (by rw [secs_len]; omega), secs_len, Nat.sub_self, List.getElem?_replicate, if_pos (by omega)] at hr
      have hf := (HI.out.row.below hb HI.out.row.lt).free l.length
      have hc1 := (HI.out.box.below hb HI.out.box.lt).cell 0
      have hc2 := HN.out.box.cell 0
      rw [List.getElem?_cons_zero] at hc1 hc2
      have HSs := hide (And.intro hc1 hc2)
      clear hB hb hc1 hc2
      go_wp2_with fail
      refine HR.out _ _ HSs.out.1 ?_
      clear HR
      refine tail_step ?_
      intro R HR
      go_wp2_with fail
      refine HR.out _ _ HSs.out.1 ?_
      clear HR
      refine tail_step ?_
      intro R HR
      go_wp2_with fail
      refine HR.out _ _ HSs.out.2 ?_
      clear HR
      refine tail_done ?_
      go_wp2_with fail
      go_roundw
      case rel => exact ⟨l ++ [⟨some ⟨wr.heap.size, 0, none⟩, zeroS, 128⟩], by simp; omega, by simp, HN⟩
      case measure => simp [intOf]; omega
    · obtain rfl : n = l.length := by omega
      have hx := HI.out.box
      have c0 := (hx.cell 0).trans rfl
      have c1 := (hx.cell 1).trans rfl
      have c2 := (hx.cell 2).trans rfl
      have c3 := (hx.cell 3).trans rfl
      have f2 := hx.free 2
      have HD := hide (hx.set 2 (.int .i64 (-1)))
      have d := HD.out
      have d0 := (d.cell 0).trans rfl
      have d1 := (d.cell 1).trans rfl
      have d2 := (d.cell 2).trans rfl
      have d3 := (d.cell 3).trans rfl
      simp only [List.set_cons_zero, List.set_cons_succ, List.getElem?_cons_zero, List.getElem?_cons_succ] at c0 c1 c2 c3 d0 d1 d2 d3 HD
      have HF := hide (hI2 (n0 := n0) HI.out h2)
      clear hx d
      go_wp2_with (refine wpList_store_row rfl 25 (.tmp 2) (.tmp 28) rfl w.heap.size #[.slice (some ⟨w.heap.size + 1, 0, none⟩) l.length l.length, .slice none 0 0, .int .i64 (-1), .bool false] rfl rfl 25 _ HD.out Try.size25 rfl (one25 _ _ _ _ _ _ _ _) ?_)
      exact bodyPost_ret (v := .tuple #[.agg #[.slice (some ⟨w.heap.size + 1, 0, none⟩) l.length l.length, .slice none 0 0, .int .i64 (-1), .bool false], .int .i64 0]) (results_cell_row_tmp rfl _ _ w.heap.size 25 #[.slice (some ⟨w.heap.size + 1, 0, none⟩) l.length l.length, .slice none 0 0, .int .i64 (-1), .bool false] (0, 0) _ (.int .i64 0) rfl rfl (setRow_heap _ _ _ _ _ _ HD.out) Try.underlying25 rfl Try.size25) rfl ⟨⟨some ⟨w.heap.size + 1, 0, none⟩, l, l.length, none, [], 0, -1, false⟩, rfl, HF.out.1, HF.out.2⟩
end Go.Proofs.Ytgigccgklahddaa
