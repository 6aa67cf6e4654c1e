/- The scanner: add. -/
import Derived.Test.YtemapfhiiefieaaDoorScan
import Derived.Test.YtemapfhiiefieaaDoorPlanT
namespace Go.Proofs.YtemapfhiiefieaaDoor
open Go.RowKit
theorem plan3_named {P : Program} {ops : Array Oper} {Q : Exit → Act → World → Prop} {S : World → Prop} {p : Plan3} {a : Act} {w : World} (h : ∀ W, Hid (W = w) → wpPlan3 P ops Q S p a W) : wpPlan3 P ops Q S p a w := h w rfl
theorem Tryd.info35 : (Tryd.prog.info? 35).map (fun i => (i.zero, i.size, i.bytes)) = some (some (.agg #[.int .i64 0, .string ⟨#[]⟩, .int .i64 0, .int .i64 0]), 4, 40) := by kernel_rfl
theorem Sc.later {S : Nat} {l : List UInt8} {a : Nat} {v : Value} {ts : List Tk} {w w' : World} (h : Sc S l a v ts w) (hb : Below w.heap.size w w') : Sc S l a v ts w' :=
  ⟨h.block.below hb h.block.lt, World.ownsRow.kept h.own (only_of_below hb none) (by cases v.ownBlock with | none => exact .inl rfl | some x => exact .inr (by simp)), tab_below h.tab hb (by have := h.block.lt; omega), h.pos⟩

set_option maxRecDepth 10000 in
set_option maxHeartbeats 4000000 in
theorem add_any (S : Nat) (l : List UInt8) (a : Nat) (v : Value) (ts : List Tk) (kind : Nat) (text : List UInt8) (n size : Nat) (w : World) (h : Sc S l a v ts w) (ha : a + size ≤ l.length) (hl : l.length ≤ 1000000) (hts : ts.length ≤ 1000000) :
    Calls Tryd.prog 57 #[.pointer (some ⟨S, 0, none⟩), .agg #[.int .i64 (kind : Nat), .string (str text), .int .i64 (n : Nat), .int .i64 0], .int .i64 (size : Nat)] w fun e w' => e = .returned (.tuple #[]) ∧ RP S l (a + size) (ts ++ [⟨kind, text, n, a⟩]) w w' := by
  obtain ⟨i0, hi, hz0, hz1, hz2⟩ := info_parts Tryd.info35
  have HINF := hide (And.intro hi (And.intro hz0 (And.intro hz1 hz2)))
  clear hi hz0 hz1 hz2
  have HSC0 := hide h
  have q3 : (w.alloc (.cells #[.int .i64 (kind : Nat), .string (str text), .int .i64 (n : Nat), .int .i64 0] 35)).cell? ⟨w.heap.size, 3, none⟩ = some (.int .i64 0) := (Blk.new w 35 [.int .i64 (kind : Nat), .string (str text), .int .i64 (n : Nat), .int .i64 0]).cell 3
  have qf := (Blk.new w 35 [.int .i64 (kind : Nat), .string (str text), .int .i64 (n : Nat), .int .i64 0]).free 3
  have HX1 : Hid (Blk (w.alloc (.cells #[.int .i64 (kind : Nat), .string (str text), .int .i64 (n : Nat), .int .i64 (a : Nat)] 35)) w.heap.size 35 [.int .i64 (kind : Nat), .string (str text), .int .i64 (n : Nat), .int .i64 (a : Nat)]) := hide (Blk.new w 35 [.int .i64 (kind : Nat), .string (str text), .int .i64 (n : Nat), .int .i64 (a : Nat)])
  have HBL : Hid (Below w.heap.size w (w.alloc (.cells #[.int .i64 (kind : Nat), .string (str text), .int .i64 (n : Nat), .int .i64 (a : Nat)] 35))) := hide (below_new w _)
  have hc1 := (h.later (below_new w (.cells #[.int .i64 (kind : Nat), .string (str text), .int .i64 (n : Nat), .int .i64 0] 35))).cells.2.1
  have HVL := hide (fun (k' : Nat) (e : v.ownBlock = some k') => (h.own.lt k' e).2)
  have HSL := hide h.block.lt
  have HTB := hide h.tab
  have HPS := hide h.pos
  clear h
  have ha9 : (a : Int) + (size : Int) ≤ 1000000 := by omega
  go_enter Tryd.func57, Tryd.ntmps57
  go_wp2_with fail
  clear q3 qf hc1
  refine name_code ?_
  intro W1 HW1
  have HF : Hid (Blk W1 w.heap.size 35 [.int .i64 (kind : Nat), .string (str text), .int .i64 (n : Nat), .int .i64 (a : Nat)] ∧ Below w.heap.size w W1) := by
    have e : W1 = w.alloc (.cells #[.int .i64 (kind : Nat), .string (str text), .int .i64 (n : Nat), .int .i64 (a : Nat)] 35) := HW1.out
    subst e
    exact hide ⟨HX1.out, HBL.out⟩
  clear HW1 HX1 HBL
  refine wp_region_plan3 (fun W => Hid (Blk W w.heap.size 35 [.int .i64 (kind : Nat), .string (str text), .int .i64 (n : Nat), .int .i64 (a : Nat)])) (.take 0 (.take 1 (.take 2 (.take 3 (.take 5 (.both 4 (.run 6 (.run 7 (.take 8 (.take 9 (.run 10 .done))))) 6 (.run 4 (.run 7 (.take 8 (.take 9 (.run 10 .done))))))))))) (by kernel_rfl) (by kernel_rfl) (hide HF.out.1.drew) ?_
  refine plan3_named ?_
  intro Wd HWd
  have HX : Hid (Hid (Blk Wd w.heap.size 35 [.int .i64 (kind : Nat), .string (str text), .int .i64 (n : Nat), .int .i64 (a : Nat)])) := by
    have e : Wd = W1.drew := HWd.out
    subst e
    exact hide (hide HF.out.1.drew)
  have HSC : Hid (Sc S l a v ts Wd) := by
    have e : Wd = W1.drew := HWd.out
    subst e
    exact hide (HSC0.out.later HF.out.2).drew
  have HBE : Hid (Below S w Wd) := by
    have e : Wd = W1.drew := HWd.out
    subst e
    exact hide (HF.out.2.drew.mono (Nat.le_of_lt HSC0.out.block.lt))
  clear HWd HF HSC0
  (refine plan3_take (o := ?_) (v := ?_) (by simp only [List.getElem?_toArray, List.getElem?_cons_zero]; rfl) (yields_run (by rfl) ?_) ?_; rotate_left; (focus (intro w' _; go_simp <;> with_reducible rfl)); (simp only [Act.put, List.setIfInBounds_toArray, List.set_cons_zero, List.set_cons_succ]))
  (refine plan3_take (o := ?_) (v := ?_) (by simp only [List.getElem?_toArray, List.getElem?_cons_succ, List.getElem?_cons_zero]; rfl) (yields_run (by rfl) ?_) ?_; rotate_left; (focus (intro w' _; go_simp <;> with_reducible rfl)); (simp only [Act.put, List.setIfInBounds_toArray, List.set_cons_zero, List.set_cons_succ]))
  (refine plan3_take (o := ?_) (v := ?_) (by simp only [List.getElem?_toArray, List.getElem?_cons_succ, List.getElem?_cons_zero]; rfl) (yields_run (by rfl) ?_) ?_; rotate_left; (focus (intro w' _; go_simp <;> with_reducible rfl)); (simp only [Act.put, List.setIfInBounds_toArray, List.set_cons_zero, List.set_cons_succ]))
  (refine plan3_take (o := ?_) (v := ?_) (by simp only [List.getElem?_toArray, List.getElem?_cons_succ, List.getElem?_cons_zero]; rfl) (yields_run (by rfl) ?_) ?_; rotate_left; (focus (intro w' _; go_simp <;> with_reducible rfl)); (simp only [Act.put, List.setIfInBounds_toArray, List.set_cons_zero, List.set_cons_succ]))
  (refine plan3_take (o := ?_) (v := ?_) (by simp only [List.getElem?_toArray, List.getElem?_cons_succ, List.getElem?_cons_zero]; rfl) (yields_run (by rfl) ?_) ?_; rotate_left; (focus (intro w' hS; have hb := hS.out; have q0 := hb.cell 0; have q1 := hb.cell 1; have q2 := hb.cell 2; have q3 := hb.cell 3; simp only [List.getElem?_cons_zero, List.getElem?_cons_succ] at q0 q1 q2 q3; go_simp <;> with_reducible rfl)); (simp only [Act.put, List.setIfInBounds_toArray, List.set_cons_zero, List.set_cons_succ]))
  refine plan3_both (o1 := ?_) (o2 := ?_) (by simp only [List.getElem?_toArray, List.getElem?_cons_succ, List.getElem?_cons_zero]; rfl) (by simp only [List.getElem?_toArray, List.getElem?_cons_succ, List.getElem?_cons_zero]; rfl) ?_ ?_
  · intro R0 HR
    obtain ⟨_, _, hx, _⟩ := HSC.out.cells
    go_wp2_with fail
    refine HR.out _ _ HX.out ?_
    clear HR hx
    refine plan3_run (o := ?_) (by simp only [List.getElem?_toArray, List.getElem?_cons_succ, List.getElem?_cons_zero]; rfl) ?_
    intro R0 HR
    go_wp2_with fail
    refine HR.out _ _ (show Hid (Blk (Wd.alloc (.cells ([.int .i64 (kind : Nat), .string (str text), .int .i64 (n : Nat), .int .i64 (a : Nat)] : List Value).toArray 35)) w.heap.size 35 [.int .i64 (kind : Nat), .string (str text), .int .i64 (n : Nat), .int .i64 (a : Nat)]) from hide (HX.out.out.alloc _)) ?_
    clear HR
    refine plan3_named ?_
    intro Wc1 HWn
    have HEQ : Hid (Wc1 = Wd.alloc (.cells ([.int .i64 (kind : Nat), .string (str text), .int .i64 (n : Nat), .int .i64 (a : Nat)] : List Value).toArray 35)) := HWn
    have HX' : Hid (Hid (Blk Wc1 w.heap.size 35 [.int .i64 (kind : Nat), .string (str text), .int .i64 (n : Nat), .int .i64 (a : Nat)])) := by
      have e : Wc1 = Wd.alloc (.cells ([.int .i64 (kind : Nat), .string (str text), .int .i64 (n : Nat), .int .i64 (a : Nat)] : List Value).toArray 35) := HWn.out
      rw [e]
      exact hide (hide (HX.out.out.alloc _))
    have HSC' : Hid (Sc S l a v ts Wc1) := by
      have e : Wc1 = Wd.alloc (.cells ([.int .i64 (kind : Nat), .string (str text), .int .i64 (n : Nat), .int .i64 (a : Nat)] : List Value).toArray 35) := HWn.out
      rw [e]
      exact hide (HSC.out.later (below_new _ _))
    have HBE' : Hid (Below S w Wc1) := by
      have e : Wc1 = Wd.alloc (.cells ([.int .i64 (kind : Nat), .string (str text), .int .i64 (n : Nat), .int .i64 (a : Nat)] : List Value).toArray 35) := HWn.out
      rw [e]
      exact hide (HBE.out.alloc (Nat.le_of_lt HSC.out.block.lt) _)
    clear HX HSC HBE HWn
    have HX := HX'
    have HSC := HSC'
    have HBE := HBE'
    clear HX' HSC' HBE'
    refine plan3_run (o := ?_) (by simp only [List.getElem?_toArray, List.getElem?_cons_succ, List.getElem?_cons_zero]; rfl) ?_
    intro R0 HR
    have hown := HSC.out.own
    obtain rfl : Wc1 = Wd.alloc (.cells ([.int .i64 (kind : Nat), .string (str text), .int .i64 (n : Nat), .int .i64 (a : Nat)] : List Value).toArray 35) := HEQ.out
    refine wpList_append_lies _ rfl (.tmp 15) (.tmp 17) 23 rfl (S + 1) 35 i0 _ 4 40 Tryd.underlying23 HINF.out.1 HINF.out.2.1 HINF.out.2.2.1 HINF.out.2.2.2 rfl (by decide) v ts.length (tcs ts) rfl hown ⟨Wd.heap.size, 0, none⟩ 1 1 [.int .i64 (kind : Nat), .string (str text), .int .i64 (n : Nat), .int .i64 (a : Nat)] rfl rfl (World.news_of_block (cs := ([.int .i64 (kind : Nat), .string (str text), .int .i64 (n : Nat), .int .i64 (a : Nat)] : List Value).toArray) (t := 35) (fr := (0, 0)) (heap_alloc_new Wd _)) (by simp [Value.oneCell']) (by omega) (by unfold maxLen; omega) (by omega) (by have := HSC.out.block.lt; omega) (Wd.heap.size + 1) (by simp) ?_
    intro g cp w4 hown4 hg4 _ _
    have HRW := hide (fun (k' : Nat) (e : v.ownBlock = some k') => (hown.lt k' e).1)
    have HB4 : Hid (Blk w4 S 49 (scs l a v)) := hide ((hg4.block _ HSC.out.block.lt (fun e => by have := HRW.out S e.symm; omega)).trans HSC.out.block)
    have HBE' : Hid (Below S w w4) := hide (HBE.out.grown hg4 (Nat.le_of_lt HSC.out.block.lt) (fun k' e => by have := HRW.out k' e; omega))
    have HOW := hide hown4
    have HX' : Hid (Hid (Blk w4 w.heap.size 35 [.int .i64 (kind : Nat), .string (str text), .int .i64 (n : Nat), .int .i64 (a : Nat)])) := hide (hide ((hg4.block _ HX.out.out.lt (fun e => by have := HVL.out _ e.symm; omega)).trans HX.out.out))
    clear hown hown4 hg4 HRW HSC HBE HX
    have HBE := HBE'
    have HX := HX'
    clear HBE' HX'
    refine HR.out _ _ HX.out ?_
    clear HR
    (simp only [Act.put, List.setIfInBounds_toArray, List.set_cons_zero, List.set_cons_succ])
    (refine plan3_take (o := ?_) (v := ?_) (by simp only [List.getElem?_toArray, List.getElem?_cons_succ, List.getElem?_cons_zero]; rfl) (yields_run (by rfl) ?_) ?_; rotate_left; (focus (intro w' _; go_simp <;> with_reducible rfl)); (simp only [Act.put, List.setIfInBounds_toArray, List.set_cons_zero, List.set_cons_succ]))
    (refine plan3_take (o := ?_) (v := ?_) (by simp only [List.getElem?_toArray, List.getElem?_cons_succ, List.getElem?_cons_zero]; rfl) (yields_run (by rfl) ?_) ?_; rotate_left; (focus (intro w' _; go_simp <;> with_reducible rfl)); (simp only [Act.put, List.setIfInBounds_toArray, List.set_cons_zero, List.set_cons_succ]))
    refine plan3_run (o := ?_) (by simp only [List.getElem?_toArray, List.getElem?_cons_succ, List.getElem?_cons_zero]; rfl) ?_
    intro R0 HR
    have hx : w4.cell? ⟨S, 2, none⟩ = some v := by rw [HB4.out.cell]; rfl
    have hxf := HB4.out.free
    go_wp2_with fail
    refine HR.out _ _ (show Hid (Blk (w4.setCell ⟨S, 2, none⟩ (.slice (some ⟨g, 0, none⟩) (ts.length + 1) cp)) w.heap.size 35 [.int .i64 (kind : Nat), .string (str text), .int .i64 (n : Nat), .int .i64 (a : Nat)]) from hide (HX.out.out.apart (by have := HSL.out; intro e; simp at e; omega) _)) ?_
    clear HR hx hxf
    refine plan3_done ?_
    have HB5 := hide (HB4.out.set 2 (.slice (some ⟨g, 0, none⟩) (ts.length + 1) cp))
    have hcast : ((a + size : Nat) : Int) = (a : Int) + (size : Int) := by omega
    have HB6 : Hid (Blk ((w4.setCell ⟨S, 2, none⟩ (.slice (some ⟨g, 0, none⟩) (ts.length + 1) cp)).setCell ⟨S, 1, none⟩ (.int .i64 ((a : Int) + (size : Int)))) S 49 (scs l (a + size) (.slice (some ⟨g, 0, none⟩) (ts.length + 1) cp))) := hide (by have := HB5.out.set 1 (.int .i64 ((a : Int) + (size : Int))); unfold scs; rw [hcast]; exact this)
    have HO6 : Hid (((w4.setCell ⟨S, 2, none⟩ (.slice (some ⟨g, 0, none⟩) (ts.length + 1) cp)).setCell ⟨S, 1, none⟩ (.int .i64 ((a : Int) + (size : Int)))).ownsRow (S + 1) 35 4 (.slice (some ⟨g, 0, none⟩) (ts.length + 1) cp) (ts.length + 1) (tcs ts ++ [.int .i64 (kind : Nat), .string (str text), .int .i64 (n : Nat), .int .i64 (a : Nat)])) := hide (World.ownsRow.kept (World.ownsRow.kept HOW.out (only_setCell (only_refl w4 (some S)) (.inl rfl) _) (.inr (fun e => by have := (HOW.out.lt S e).1; omega))) (only_setCell (only_refl _ (some S)) (.inl rfl) _) (.inr (fun e => by have := (HOW.out.lt S e).1; omega)))
    have HE6 : Hid (Below S w ((w4.setCell ⟨S, 2, none⟩ (.slice (some ⟨g, 0, none⟩) (ts.length + 1) cp)).setCell ⟨S, 1, none⟩ (.int .i64 ((a : Int) + (size : Int))))) := hide ((HBE.out.setCell (p := ⟨S, 2, none⟩) (Nat.le_refl S) _).setCell (p := ⟨S, 1, none⟩) (Nat.le_refl S) _)
    have hd1 : (w4.setCell ⟨S, 2, none⟩ (.slice (some ⟨g, 0, none⟩) (ts.length + 1) cp)).cell? ⟨S, 1, none⟩ = some (.int .i64 (a : Nat)) := by rw [HB5.out.cell]; rfl
    have hdf := HB5.out.free
    clear hcast
    go_wp2_with fail
    go_end0
    exact ⟨rfl, ⟨_, ⟨HB6.out, by rw [List.length_append, tcs_snoc]; exact HO6.out, tab_below HTB.out HE6.out HPS.out, HPS.out⟩⟩, HE6.out⟩
  · intro R0 HR
    go_wp2_with fail
    refine HR.out _ _ (show Hid (Blk (Wd.alloc (.cells ([.int .i64 (kind : Nat), .string (str text), .int .i64 (n : Nat), .int .i64 (a : Nat)] : List Value).toArray 35)) w.heap.size 35 [.int .i64 (kind : Nat), .string (str text), .int .i64 (n : Nat), .int .i64 (a : Nat)]) from hide (HX.out.out.alloc _)) ?_
    clear HR
    refine plan3_named ?_
    intro Wc2 HWn
    have HEQ : Hid (Wc2 = Wd.alloc (.cells ([.int .i64 (kind : Nat), .string (str text), .int .i64 (n : Nat), .int .i64 (a : Nat)] : List Value).toArray 35)) := HWn
    have HX' : Hid (Hid (Blk Wc2 w.heap.size 35 [.int .i64 (kind : Nat), .string (str text), .int .i64 (n : Nat), .int .i64 (a : Nat)])) := by
      have e : Wc2 = Wd.alloc (.cells ([.int .i64 (kind : Nat), .string (str text), .int .i64 (n : Nat), .int .i64 (a : Nat)] : List Value).toArray 35) := HWn.out
      rw [e]
      exact hide (hide (HX.out.out.alloc _))
    have HSC' : Hid (Sc S l a v ts Wc2) := by
      have e : Wc2 = Wd.alloc (.cells ([.int .i64 (kind : Nat), .string (str text), .int .i64 (n : Nat), .int .i64 (a : Nat)] : List Value).toArray 35) := HWn.out
      rw [e]
      exact hide (HSC.out.later (below_new _ _))
    have HBE' : Hid (Below S w Wc2) := by
      have e : Wc2 = Wd.alloc (.cells ([.int .i64 (kind : Nat), .string (str text), .int .i64 (n : Nat), .int .i64 (a : Nat)] : List Value).toArray 35) := HWn.out
      rw [e]
      exact hide (HBE.out.alloc (Nat.le_of_lt HSC.out.block.lt) _)
    clear HX HSC HBE HWn
    have HX := HX'
    have HSC := HSC'
    have HBE := HBE'
    clear HX' HSC' HBE'
    refine plan3_run (o := ?_) (by simp only [List.getElem?_toArray, List.getElem?_cons_succ, List.getElem?_cons_zero]; rfl) ?_
    intro R0 HR
    obtain ⟨_, _, hx, _⟩ := HSC.out.cells
    go_wp2_with fail
    refine HR.out _ _ HX.out ?_
    clear HR hx
    refine plan3_run (o := ?_) (by simp only [List.getElem?_toArray, List.getElem?_cons_succ, List.getElem?_cons_zero]; rfl) ?_
    intro R0 HR
    have hown := HSC.out.own
    obtain rfl : Wc2 = Wd.alloc (.cells ([.int .i64 (kind : Nat), .string (str text), .int .i64 (n : Nat), .int .i64 (a : Nat)] : List Value).toArray 35) := HEQ.out
    refine wpList_append_lies _ rfl (.tmp 15) (.tmp 17) 23 rfl (S + 1) 35 i0 _ 4 40 Tryd.underlying23 HINF.out.1 HINF.out.2.1 HINF.out.2.2.1 HINF.out.2.2.2 rfl (by decide) v ts.length (tcs ts) rfl hown ⟨Wd.heap.size, 0, none⟩ 1 1 [.int .i64 (kind : Nat), .string (str text), .int .i64 (n : Nat), .int .i64 (a : Nat)] rfl rfl (World.news_of_block (cs := ([.int .i64 (kind : Nat), .string (str text), .int .i64 (n : Nat), .int .i64 (a : Nat)] : List Value).toArray) (t := 35) (fr := (0, 0)) (heap_alloc_new Wd _)) (by simp [Value.oneCell']) (by omega) (by unfold maxLen; omega) (by omega) (by have := HSC.out.block.lt; omega) (Wd.heap.size + 1) (by simp) ?_
    intro g cp w4 hown4 hg4 _ _
    have HRW := hide (fun (k' : Nat) (e : v.ownBlock = some k') => (hown.lt k' e).1)
    have HB4 : Hid (Blk w4 S 49 (scs l a v)) := hide ((hg4.block _ HSC.out.block.lt (fun e => by have := HRW.out S e.symm; omega)).trans HSC.out.block)
    have HBE' : Hid (Below S w w4) := hide (HBE.out.grown hg4 (Nat.le_of_lt HSC.out.block.lt) (fun k' e => by have := HRW.out k' e; omega))
    have HOW := hide hown4
    have HX' : Hid (Hid (Blk w4 w.heap.size 35 [.int .i64 (kind : Nat), .string (str text), .int .i64 (n : Nat), .int .i64 (a : Nat)])) := hide (hide ((hg4.block _ HX.out.out.lt (fun e => by have := HVL.out _ e.symm; omega)).trans HX.out.out))
    clear hown hown4 hg4 HRW HSC HBE HX
    have HBE := HBE'
    have HX := HX'
    clear HBE' HX'
    refine HR.out _ _ HX.out ?_
    clear HR
    (simp only [Act.put, List.setIfInBounds_toArray, List.set_cons_zero, List.set_cons_succ])
    (refine plan3_take (o := ?_) (v := ?_) (by simp only [List.getElem?_toArray, List.getElem?_cons_succ, List.getElem?_cons_zero]; rfl) (yields_run (by rfl) ?_) ?_; rotate_left; (focus (intro w' _; go_simp <;> with_reducible rfl)); (simp only [Act.put, List.setIfInBounds_toArray, List.set_cons_zero, List.set_cons_succ]))
    (refine plan3_take (o := ?_) (v := ?_) (by simp only [List.getElem?_toArray, List.getElem?_cons_succ, List.getElem?_cons_zero]; rfl) (yields_run (by rfl) ?_) ?_; rotate_left; (focus (intro w' _; go_simp <;> with_reducible rfl)); (simp only [Act.put, List.setIfInBounds_toArray, List.set_cons_zero, List.set_cons_succ]))
    refine plan3_run (o := ?_) (by simp only [List.getElem?_toArray, List.getElem?_cons_succ, List.getElem?_cons_zero]; rfl) ?_
    intro R0 HR
    have hx : w4.cell? ⟨S, 2, none⟩ = some v := by rw [HB4.out.cell]; rfl
    have hxf := HB4.out.free
    go_wp2_with fail
    refine HR.out _ _ (show Hid (Blk (w4.setCell ⟨S, 2, none⟩ (.slice (some ⟨g, 0, none⟩) (ts.length + 1) cp)) w.heap.size 35 [.int .i64 (kind : Nat), .string (str text), .int .i64 (n : Nat), .int .i64 (a : Nat)]) from hide (HX.out.out.apart (by have := HSL.out; intro e; simp at e; omega) _)) ?_
    clear HR hx hxf
    refine plan3_done ?_
    have HB5 := hide (HB4.out.set 2 (.slice (some ⟨g, 0, none⟩) (ts.length + 1) cp))
    have hcast : ((a + size : Nat) : Int) = (a : Int) + (size : Int) := by omega
    have HB6 : Hid (Blk ((w4.setCell ⟨S, 2, none⟩ (.slice (some ⟨g, 0, none⟩) (ts.length + 1) cp)).setCell ⟨S, 1, none⟩ (.int .i64 ((a : Int) + (size : Int)))) S 49 (scs l (a + size) (.slice (some ⟨g, 0, none⟩) (ts.length + 1) cp))) := hide (by have := HB5.out.set 1 (.int .i64 ((a : Int) + (size : Int))); unfold scs; rw [hcast]; exact this)
    have HO6 : Hid (((w4.setCell ⟨S, 2, none⟩ (.slice (some ⟨g, 0, none⟩) (ts.length + 1) cp)).setCell ⟨S, 1, none⟩ (.int .i64 ((a : Int) + (size : Int)))).ownsRow (S + 1) 35 4 (.slice (some ⟨g, 0, none⟩) (ts.length + 1) cp) (ts.length + 1) (tcs ts ++ [.int .i64 (kind : Nat), .string (str text), .int .i64 (n : Nat), .int .i64 (a : Nat)])) := hide (World.ownsRow.kept (World.ownsRow.kept HOW.out (only_setCell (only_refl w4 (some S)) (.inl rfl) _) (.inr (fun e => by have := (HOW.out.lt S e).1; omega))) (only_setCell (only_refl _ (some S)) (.inl rfl) _) (.inr (fun e => by have := (HOW.out.lt S e).1; omega)))
    have HE6 : Hid (Below S w ((w4.setCell ⟨S, 2, none⟩ (.slice (some ⟨g, 0, none⟩) (ts.length + 1) cp)).setCell ⟨S, 1, none⟩ (.int .i64 ((a : Int) + (size : Int))))) := hide ((HBE.out.setCell (p := ⟨S, 2, none⟩) (Nat.le_refl S) _).setCell (p := ⟨S, 1, none⟩) (Nat.le_refl S) _)
    have hd1 : (w4.setCell ⟨S, 2, none⟩ (.slice (some ⟨g, 0, none⟩) (ts.length + 1) cp)).cell? ⟨S, 1, none⟩ = some (.int .i64 (a : Nat)) := by rw [HB5.out.cell]; rfl
    have hdf := HB5.out.free
    clear hcast
    go_wp2_with fail
    go_end0
    exact ⟨rfl, ⟨_, ⟨HB6.out, by rw [List.length_append, tcs_snoc]; exact HO6.out, tab_below HTB.out HE6.out HPS.out, HPS.out⟩⟩, HE6.out⟩
end Go.Proofs.YtemapfhiiefieaaDoor
