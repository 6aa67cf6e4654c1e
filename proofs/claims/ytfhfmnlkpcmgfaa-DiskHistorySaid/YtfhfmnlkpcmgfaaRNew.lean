/- New of the reference. -/
import Derived.Test.YtfhfmnlkpcmgfaaRWri2
import Derived.Test.YtfhfmnlkpcmgfaaNew
import Derived.Deep.CutRange
import Derived.Deep.CutBlock
import Derived.Deep.Cut
namespace Go.Proofs.Ytfhfmnlkpcmgfaa
open Go.RowKit
variable {n0 : Nat}

set_option maxRecDepth 10000 in
set_option maxHeartbeats 800000 in
theorem rnew_bad (n : Int) (w : World) (h : n < 1 ∨ 4096 < n) :
    Calls Try.prog 13 #[.int .i64 n] w fun e w' => e = .returned (.tuple #[Dsk.zero.v, .int .i64 1]) ∧ Below w.heap.size w w' := by
  have h' : n < 1 ∨ (1 ≤ n ∧ 4096 < n) := by omega
  clear h
  have HB := hide (Blk.new w 25 [.slice none 0 0, .slice none 0 0, .int .i64 0, .bool false])
  have HK := hide (below_setRow (below_new w (.cells #[.slice none 0 0, .slice none 0 0, .int .i64 0, .bool false] 25)) (Nat.le_refl _) #[.slice none 0 0, .slice none 0 0, .int .i64 0, .bool false])
  rcases h' with h | ⟨h1, h⟩
  all_goals
    go_enter Try.func13, Try.ntmps13
    go_wp2_with (refine wpList_store_row rfl 25 (.tmp 2) (.tmp 12) rfl w.heap.size #[.slice none 0 0, .slice none 0 0, .int .i64 0, .bool false] rfl rfl 25 _ HB.out Try.size25 rfl (one25 _ _ _ _ _ _ _ _) ?_)
    exact bodyPost_ret (v := .tuple #[Dsk.zero.v, .int .i64 1]) (results_cell_row_tmp rfl _ _ w.heap.size 25 #[.slice none 0 0, .slice none 0 0, .int .i64 0, .bool false] (0, 0) _ (.int .i64 1) rfl rfl (setRow_heap _ _ _ _ _ _ HB.out) Try.underlying25 rfl Try.size25) rfl ⟨rfl, HK.out⟩

theorem own_set {w : World} {base e size n X T i : Nat} {v u : Value} {xs cs : List Value} (h : w.ownsRow base e size v n xs) (hX : Blk w X T cs) (hT : T ≠ e) : (w.setCell ⟨X, i, none⟩ u).ownsRow base e size v n xs := by
  have hg : w.grownBy (w.setCell ⟨X, i, none⟩ u) (some X) := only_setCell (only_refl _ _) (.inl rfl) _
  refine ⟨h.1, ?_⟩
  rcases h.2 with h2 | ⟨g, cap, cur, rfl, h1, h2, h3⟩
  · exact .inl h2
  · refine .inr ⟨g, cap, cur, rfl, h1, ?_, h3⟩
    rw [hg.block g (h.lt g rfl).2 (fun he => by
      injection he with he
      subst he
      unfold Blk at hX
      rw [hX] at h2
      injection h2 with h2
      injection h2 with _ h2
      exact hT h2)]
    exact h2

/-- Sectors under way, and the two blocks of the call. -/
structure RN (w : World) (l : List Sec) (A : Option Addr) (cap : Nat) (wr : World) : Prop where
  own : wr.ownsRow w.heap.size 35 1 (.slice A l.length cap) l.length (secs l)
  each : ∀ s ∈ l, s.Own wr ∧ s.l = zeroS
  res : Blk wr w.heap.size 25 [.slice none 0 0, .slice none 0 0, .int .i64 0, .bool false]
  box : Blk wr (w.heap.size + 1) 25 [.slice A l.length cap, .slice none 0 0, .int .i64 (-1), .bool false]
  bel : Below w.heap.size w wr
theorem RN.below {w : World} {l : List Sec} {A : Option Addr} {cap : Nat} {wr w' : World} (h : RN w l A cap wr) (hb : Below wr.heap.size wr w') : RN w l A cap w' :=
  ⟨own_later h.own hb, fun s hs => ⟨(h.each s hs).1.below hb, (h.each s hs).2⟩, h.res.below hb h.res.lt, h.box.below hb h.box.lt, below_one h.bel hb⟩
/-- One sector more. -/
theorem RN.more {w : World} {l : List Sec} {A A' : Option Addr} {cap cap' B : Nat} {wr w' : World} (h : RN w l A cap wr) (hB : Blk wr B 5 (bs zeroS))
    (hown : w'.ownsRow w.heap.size 35 1 (.slice A' (l.length + 1) cap') (l.length + 1) (secs l ++ [.slice (some ⟨B, 0, none⟩) 128 128])) (hg : wr.grownBy w' (Value.slice A l.length cap).ownBlock) :
    RN w (l ++ [⟨some ⟨B, 0, none⟩, zeroS, 128⟩]) A' cap' (w'.setCell ⟨w.heap.size + 1, 0, none⟩ (.slice A' (l.length + 1) cap')) := by
  have hbx := h.box.app h.own hg (by omega)
  have hrs := h.res.app h.own hg (by omega)
  have e : secs [⟨some ⟨B, 0, none⟩, zeroS, 128⟩] = [Value.slice (some ⟨B, 0, none⟩) 128 128] := by simp [secs, zeroS_len]
  have e2 : (l ++ [(⟨some ⟨B, 0, none⟩, zeroS, 128⟩ : Sec)]).length = l.length + 1 := by simp
  refine ⟨?_, fun s hs => ?_, ?_, ?_, ?_⟩
  · rw [e2, secs_app, e]
    exact own_set hown hbx (by omega)
  · rcases List.mem_append.1 hs with hs | hs
    · obtain ⟨⟨h1, h2, C, h3, h4⟩, h5⟩ := h.each s hs
      exact ⟨Sec.Own.set ⟨h1, h2, C, h3, h4.app h.own hg (by omega)⟩ hbx (by omega) _ _, h5⟩
    · obtain rfl : s = _ := by simpa using hs
      exact ⟨(Sec.Own.of (hB.app h.own hg (by omega)) zeroS_len).set hbx (by omega) _ _, rfl⟩
  · exact hrs.apart (p := ⟨w.heap.size + 1, 0, none⟩) (by simp) _
  · rw [e2]
    exact hbx.set 0 _
  · exact (below_app h.bel h.own hg (Nat.le_refl _) h.bel.size).setCell (by simp) _
theorem RN.done {w wr : World} {l : List Sec} {A : Option Addr} {cap : Nat} (h : RN w l A cap wr) (h0 : 0 < l.length) : (Dsk.d ⟨A, l, cap, none, [], 0, -1, false⟩ = ⟨List.replicate l.length zeroS, [], -1, false⟩) ∧
    (Dsk.In n0 ⟨A, l, cap, none, [], 0, -1, false⟩ (wr.setRow w.heap.size #[.slice A l.length cap, .slice none 0 0, .int .i64 (-1), .bool false])) ∧
    Below w.heap.size w (wr.setRow w.heap.size #[.slice A l.length cap, .slice none 0 0, .int .i64 (-1), .bool false]) := by
  have hg : wr.grownBy (wr.setRow w.heap.size #[.slice A l.length cap, .slice none 0 0, .int .i64 (-1), .bool false]) (some w.heap.size) := only_setRow (only_refl _ _) (.inl rfl) _
  obtain ⟨g, c', he, hg2, _⟩ := h.own.form (by omega)
  obtain ⟨rfl, rfl⟩ := slice_inj he
  have hc := own_caps h.own
  obtain ⟨cs, hcs⟩ := own_blk h.own
  have hcs := hcs.far (hcs.ne h.res (by omega)) #[.slice (some ⟨g, 0, none⟩) l.length cap, .slice none 0 0, .int .i64 (-1), .bool false]
  refine ⟨?_, ⟨⟨hcs.cels (by omega), fun s hs => ((h.each s hs).1.only hg h.res (by omega)).in, hc.1, hc.2, fun h => (by cases h)⟩, ⟨Cels.nil _ _, fun s hs => (by cases hs), Nat.le_refl _, Nat.zero_le _, fun _ => rfl⟩, (show -9223372036854775808 ≤ (-1 : Int) ∧ (-1 : Int) ≤ 9223372036854775807 by decide)⟩, below_of_only h.bel hg (Nat.le_refl _)⟩
  have : secD l = List.replicate l.length zeroS := List.eq_replicate_iff.2 ⟨secD_len l, fun b hb => by
    obtain ⟨s, hs, rfl⟩ := List.mem_map.1 hb
    exact (h.each s hs).2⟩
  simp only [Dsk.d, this]
  rfl

set_option maxRecDepth 10000 in
set_option maxHeartbeats 3200000 in
theorem rnew_ok (n : Nat) (w : World) (h1 : 1 ≤ n) (h2 : n ≤ 4096) :
    Calls Try.prog 13 #[.int .i64 n] w fun e w' => ∃ d : Dsk, e = .returned (.tuple #[d.v, .int .i64 0]) ∧ d.d = ⟨List.replicate n zeroS, [], -1, false⟩ ∧ d.In n0 w' ∧ Below w.heap.size w w' := by
  have q1 : (1 : Int) ≤ n := by omega
  have q2 : (n : Int) ≤ 4096 := by omega
  have hmk : ∀ W : World, (Instr.makeSlice 35 (.int .i64 128) (.int .i64 128)).run Try.prog W = .ok (.slice (some ⟨W.heap.size, 0, none⟩) 128 128) (W.alloc (.cells (bs zeroS).toArray 5)) := fun W => by have := make_bytes 128 (by omega) W; rw [show (List.replicate 128 (0 : UInt8)) = zeroS by unfold zeroS; rfl] at this; exact this
  have hb1 := (Blk.new (w.alloc (.cells #[.slice none 0 0, .slice none 0 0, .int .i64 0, .bool false] 25)) 25 [.slice none 0 0, .slice none 0 0, .int .i64 0, .bool false])
  have HI0 : Hid (RN w [] none 0 (((w.alloc (.cells #[.slice none 0 0, .slice none 0 0, .int .i64 0, .bool false] 25)).alloc (.cells #[.slice none 0 0, .slice none 0 0, .int .i64 0, .bool false] 25)).setRow (w.heap.size + 1) #[.slice none 0 0, .slice none 0 0, .int .i64 (-1), .bool false])) := by
    rw [World.size_alloc] at hb1
    exact hide ⟨⟨by simp [secs], .inl ⟨rfl, rfl⟩⟩, fun s hs => (by cases hs), ((Blk.new w 25 [.slice none 0 0, .slice none 0 0, .int .i64 0, .bool false]).alloc _).far (by simp) _, hb1.row _, below_setRow ((below_new _ _).alloc (by simp) _) (by simp) _⟩
  rw [World.size_alloc] at hb1
  have HB1 := hide hb1
  obtain ⟨i35, hi35⟩ := hinfo35
  have HI35 := hide hi35
  clear hi35
  clear hb1
  go_enter Try.func13, Try.ntmps13
  go_wp2_with (refine wpList_store_row rfl 25 (.tmp 4) (.tmp 13) rfl (w.heap.size + 1) #[.slice none 0 0, .slice none 0 0, .int .i64 (-1), .bool false] rfl rfl 25 _ HB1.out Try.size25 rfl (one25 _ _ _ _ _ _ _ _) ?_)
  go_loopw [5] (fun i wr => ∃ (l : List Sec) (A : Option Addr) (cap : Nat), l.length ≤ n ∧ i = .int .i64 (l.length : Nat) ∧ Hid (RN w l A cap wr)) (fun i _ => n - (intOf i).toNat)
  case atStart => exact ⟨[], none, 0, Nat.zero_le _, rfl, HI0⟩
  case round =>
    clear HI0 HB1
    obtain ⟨l, A, cap, hk, rfl, HI⟩ := hrel
    by_cases hlt : l.length < n
    · have hlt' : (l.length : Int) < n := by omega
      go_upto_region 7 with (fail)
      have HI1 := hide (HI.out.below (Below.refl _ _).drew)
      refine wp_region_plan3 (fun _ => True) (.take 0 (.both 1 (.run 2 (.run 3 (.run 4 (.take 5 (.run 6 .done))))) 2 (.both 1 (.run 3 (.run 4 (.take 5 (.run 6 .done)))) 3 (.run 1 (.run 4 (.take 5 (.run 6 .done))))))) (by kernel_rfl) (by kernel_rfl) trivial ?_
      generalize wr.drew = wD at HI1 ⊢
      (refine plan3_take (o := ?_) (v := ?_) (by simp only [List.getElem?_toArray, List.getElem?_cons_zero]; rfl) (yields_run (by rfl) ?_) ?_; rotate_left; (focus (intro w' _; go_simp <;> with_reducible rfl)); (simp only [Act.put, List.setIfInBounds_toArray, List.set_cons_zero, List.set_cons_succ]))
      refine plan3_both (o1 := ?_) (o2 := ?_) (by simp only [List.getElem?_toArray, List.getElem?_cons_succ, List.getElem?_cons_zero]; rfl) (by simp only [List.getElem?_toArray, List.getElem?_cons_succ, List.getElem?_cons_zero]; rfl) ?_ ?_
      · intro R HR
        obtain ⟨c0, -, -, -⟩ := HI1.out.box.c4
        go_wp2_with fail
        refine HR.out _ _ trivial ?_
        clear HR c0
        refine plan3_run (o := ?_) (by simp only [List.getElem?_toArray, List.getElem?_cons_succ, List.getElem?_cons_zero]; rfl) ?_
        intro R HR
        have HI3 := hide (HI1.out.below (below_new _ (.cells (bs zeroS).toArray 5)))
        have HB3 := hide (Blk.new wD 5 (bs zeroS))
        go_wp2_with fail
        refine HR.out _ _ trivial ?_
        clear HR
        refine plan3_run (o := ?_) (by simp only [List.getElem?_toArray, List.getElem?_cons_succ, List.getElem?_cons_zero]; rfl) ?_
        intro R HR
        have HI4 := hide (HI3.out.below (below_new _ (.cells #[.slice (some ⟨wD.heap.size, 0, none⟩) 128 128] 35)))
        have HB4 := hide (HB3.out.alloc (.cells #[.slice (some ⟨wD.heap.size, 0, none⟩) 128 128] 35))
        have HN4 := hide (new_cells (wD.alloc (.cells (bs zeroS).toArray 5)) 35 [.slice (some ⟨wD.heap.size, 0, none⟩) 128 128])
        simp only [World.size_alloc] at HN4
        go_wp2_with fail
        refine HR.out _ _ trivial ?_
        clear HR
        refine plan3_run (o := ?_) (by simp only [List.getElem?_toArray, List.getElem?_cons_succ, List.getElem?_cons_zero]; rfl) ?_
        intro R HR
        have hz := HI4.out.bel.size
        at_builtin
        refine wpList_app rfl (.tmp 20) (.tmp 22) 22 rfl w.heap.size 35 i35 _ 1 24 Try.underlying22 HI35.out rfl (by omega) _ l.length (secs l) rfl HI4.out.own (some ⟨wD.heap.size + 1, 0, none⟩) 1 1 [.slice (some ⟨wD.heap.size, 0, none⟩) 128 128] rfl (fun h => by cases h) rfl HN4.out (by simp [Value.oneCell']) (by unfold maxLen; omega) (by omega) hz ?_
        intro A5 cap5 w5 hown hg
        have HF := hide (HI4.out.more HB4.out hown hg)
        have hbx := HI4.out.box.app HI4.out.own hg (by omega)
        have f0 := hbx.free 0
        obtain ⟨c0, -, -, -⟩ := hbx.c4
        clear hbx hown hg
        go_wp2_with fail
        refine HR.out _ _ trivial ?_
        clear HR
        (refine plan3_take (o := ?_) (v := ?_) (by simp only [List.getElem?_toArray, List.getElem?_cons_succ, List.getElem?_cons_zero]; rfl) (yields_run (by rfl) ?_) ?_; rotate_left; (focus (intro w' _; go_simp <;> with_reducible rfl)); (simp only [Act.put, List.setIfInBounds_toArray, List.set_cons_zero, List.set_cons_succ]))
        refine plan3_run (o := ?_) (by simp only [List.getElem?_toArray, List.getElem?_cons_succ, List.getElem?_cons_zero]; rfl) ?_
        intro R HR
        go_wp2_with fail
        refine HR.out _ _ trivial ?_
        clear HR
        refine plan3_done ?_
        go_wp2_with fail
        go_roundw
        case rel => exact ⟨_, A5, cap5, by simp; omega, by simp, HF⟩
        case measure => simp [intOf]; omega
      · intro R HR
        have HI2 := hide (HI1.out.below (below_new _ (.cells (bs zeroS).toArray 5)))
        have HB2 := hide (Blk.new wD 5 (bs zeroS))
        go_wp2_with fail
        refine HR.out _ _ trivial ?_
        clear HR
        refine plan3_both (o1 := ?_) (o2 := ?_) (by simp only [List.getElem?_toArray, List.getElem?_cons_succ, List.getElem?_cons_zero]; rfl) (by simp only [List.getElem?_toArray, List.getElem?_cons_succ, List.getElem?_cons_zero]; rfl) ?_ ?_
        · intro R HR
          obtain ⟨c0, -, -, -⟩ := HI2.out.box.c4
          go_wp2_with fail
          refine HR.out _ _ trivial ?_
          clear HR c0
          refine plan3_run (o := ?_) (by simp only [List.getElem?_toArray, List.getElem?_cons_succ, List.getElem?_cons_zero]; rfl) ?_
          intro R HR
          have HI4 := hide (HI2.out.below (below_new _ (.cells #[.slice (some ⟨wD.heap.size, 0, none⟩) 128 128] 35)))
          have HB4 := hide (HB2.out.alloc (.cells #[.slice (some ⟨wD.heap.size, 0, none⟩) 128 128] 35))
          have HN4 := hide (new_cells (wD.alloc (.cells (bs zeroS).toArray 5)) 35 [.slice (some ⟨wD.heap.size, 0, none⟩) 128 128])
          simp only [World.size_alloc] at HN4
          go_wp2_with fail
          refine HR.out _ _ trivial ?_
          clear HR
          refine plan3_run (o := ?_) (by simp only [List.getElem?_toArray, List.getElem?_cons_succ, List.getElem?_cons_zero]; rfl) ?_
          intro R HR
          have hz := HI4.out.bel.size
          at_builtin
          refine wpList_app rfl (.tmp 20) (.tmp 22) 22 rfl w.heap.size 35 i35 _ 1 24 Try.underlying22 HI35.out rfl (by omega) _ l.length (secs l) rfl HI4.out.own (some ⟨wD.heap.size + 1, 0, none⟩) 1 1 [.slice (some ⟨wD.heap.size, 0, none⟩) 128 128] rfl (fun h => by cases h) rfl HN4.out (by simp [Value.oneCell']) (by unfold maxLen; omega) (by omega) hz ?_
          intro A5 cap5 w5 hown hg
          have HF := hide (HI4.out.more HB4.out hown hg)
          have hbx := HI4.out.box.app HI4.out.own hg (by omega)
          have f0 := hbx.free 0
          obtain ⟨c0, -, -, -⟩ := hbx.c4
          clear hbx hown hg
          go_wp2_with fail
          refine HR.out _ _ trivial ?_
          clear HR
          (refine plan3_take (o := ?_) (v := ?_) (by simp only [List.getElem?_toArray, List.getElem?_cons_succ, List.getElem?_cons_zero]; rfl) (yields_run (by rfl) ?_) ?_; rotate_left; (focus (intro w' _; go_simp <;> with_reducible rfl)); (simp only [Act.put, List.setIfInBounds_toArray, List.set_cons_zero, List.set_cons_succ]))
          refine plan3_run (o := ?_) (by simp only [List.getElem?_toArray, List.getElem?_cons_succ, List.getElem?_cons_zero]; rfl) ?_
          intro R HR
          go_wp2_with fail
          refine HR.out _ _ trivial ?_
          clear HR
          refine plan3_done ?_
          go_wp2_with fail
          go_roundw
          case rel => exact ⟨_, A5, cap5, by simp; omega, by simp, HF⟩
          case measure => simp [intOf]; omega
        · intro R HR
          have HI3 := hide (HI2.out.below (below_new _ (.cells #[.slice (some ⟨wD.heap.size, 0, none⟩) 128 128] 35)))
          have HB3 := hide (HB2.out.alloc (.cells #[.slice (some ⟨wD.heap.size, 0, none⟩) 128 128] 35))
          have HN3 := hide (new_cells (wD.alloc (.cells (bs zeroS).toArray 5)) 35 [.slice (some ⟨wD.heap.size, 0, none⟩) 128 128])
          simp only [World.size_alloc] at HN3
          go_wp2_with fail
          refine HR.out _ _ trivial ?_
          clear HR
          refine plan3_run (o := ?_) (by simp only [List.getElem?_toArray, List.getElem?_cons_succ, List.getElem?_cons_zero]; rfl) ?_
          intro R HR
          obtain ⟨c0, -, -, -⟩ := HI3.out.box.c4
          go_wp2_with fail
          refine HR.out _ _ trivial ?_
          clear HR c0
          refine plan3_run (o := ?_) (by simp only [List.getElem?_toArray, List.getElem?_cons_succ, List.getElem?_cons_zero]; rfl) ?_
          intro R HR
          have hz := HI3.out.bel.size
          at_builtin
          refine wpList_app rfl (.tmp 20) (.tmp 22) 22 rfl w.heap.size 35 i35 _ 1 24 Try.underlying22 HI35.out rfl (by omega) _ l.length (secs l) rfl HI3.out.own (some ⟨wD.heap.size + 1, 0, none⟩) 1 1 [.slice (some ⟨wD.heap.size, 0, none⟩) 128 128] rfl (fun h => by cases h) rfl HN3.out (by simp [Value.oneCell']) (by unfold maxLen; omega) (by omega) hz ?_
          intro A5 cap5 w5 hown hg
          have HF := hide (HI3.out.more HB3.out hown hg)
          have hbx := HI3.out.box.app HI3.out.own hg (by omega)
          have f0 := hbx.free 0
          obtain ⟨c0, -, -, -⟩ := hbx.c4
          clear hbx hown hg
          go_wp2_with fail
          refine HR.out _ _ trivial ?_
          clear HR
          (refine plan3_take (o := ?_) (v := ?_) (by simp only [List.getElem?_toArray, List.getElem?_cons_succ, List.getElem?_cons_zero]; rfl) (yields_run (by rfl) ?_) ?_; rotate_left; (focus (intro w' _; go_simp <;> with_reducible rfl)); (simp only [Act.put, List.setIfInBounds_toArray, List.set_cons_zero, List.set_cons_succ]))
          refine plan3_run (o := ?_) (by simp only [List.getElem?_toArray, List.getElem?_cons_succ, List.getElem?_cons_zero]; rfl) ?_
          intro R HR
          go_wp2_with fail
          refine HR.out _ _ trivial ?_
          clear HR
          refine plan3_done ?_
          go_wp2_with fail
          go_roundw
          case rel => exact ⟨_, A5, cap5, by simp; omega, by simp, HF⟩
          case measure => simp [intOf]; omega
    · obtain rfl : n = l.length := by omega
      have hle : ¬ ((l.length : Int) < l.length) := by omega
      obtain ⟨c0, c1, c2, c3⟩ := HI.out.box.c4
      have HR := hide HI.out.res
      have HF := hide (HI.out.done (n0 := n0) (by omega))
      go_wp2_with (refine wpList_store_row rfl 25 (.tmp 2) (.tmp 25) rfl w.heap.size #[.slice A l.length cap, .slice none 0 0, .int .i64 (-1), .bool false] rfl rfl 25 _ HR.out Try.size25 rfl (one25 _ _ _ _ _ _ _ _) ?_)
      exact bodyPost_ret (v := .tuple #[.agg #[.slice A l.length cap, .slice none 0 0, .int .i64 (-1), .bool false], .int .i64 0]) (results_cell_row_tmp rfl _ _ w.heap.size 25 #[.slice A l.length cap, .slice none 0 0, .int .i64 (-1), .bool false] (0, 0) _ (.int .i64 0) rfl rfl (setRow_heap _ _ _ _ _ _ HR.out) Try.underlying25 rfl Try.size25) rfl ⟨⟨A, l, cap, none, [], 0, -1, false⟩, rfl, HF.out.1, HF.out.2⟩
end Go.Proofs.Ytfhfmnlkpcmgfaa
