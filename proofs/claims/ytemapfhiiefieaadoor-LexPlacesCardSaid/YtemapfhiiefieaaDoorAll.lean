/- The scanner: readAll. -/
import Derived.Test.YtemapfhiiefieaaDoorLexs
namespace Go.Proofs.YtemapfhiiefieaaDoor
open Go.RowKit

/-- A post that says the same of a panic whatever the slots hold. -/
def AnyPanic (Q : Exit → Act → World → Prop) : Exit → Act → World → Prop
  | .panic c, a, w => ∀ a', a'.defers = a.defers → Q (.panic c) a' w
  | e, a, w => Q e a w
theorem AnyPanic.imp {Q : Exit → Act → World → Prop} : ∀ (e : Exit) (a : Act) (w : World), AnyPanic Q e a w → Q e a w := fun e a w h => by
  cases e <;> first | exact h | exact h a rfl
theorem put_defers (a : Act) (d : Option Nat) (v : Value) : (a.put d v).defers = a.defers := by cases d <;> rfl
/-- The region, by a plan; it may panic. -/
theorem wp_region_plan3p {P : Program} {Q : Exit → Act → World → Prop} {id : Nat} {a : Act} {w : World} {l : List Oper} (S : World → Prop) (p : Plan3) (hm : P.follows .mixedOrders = true) (hB : (Region.noSelect l.toArray && decide (p.len = l.length) && plan3B .any l.toArray p (Array.replicate l.toArray.size false)) = true) (hS : S w.drew)
    (h : wpPlan3 P l.toArray (AnyPanic Q) S p a w.drew) : (Code.region id l.toArray true).wp P Q a w := by
  simp only [Bool.and_eq_true, decide_eq_true_eq] at hB
  refine Code.wp_mono AnyPanic.imp (wp_region_held (S := S) hm ?_)
  have := plan3_sound (md := .any) (Q := AnyPanic Q) hB.1.1 (fun _ d v a _ h a' e => h a' (e.trans (put_defers a d v).symm)) p _ a w.drew hS hB.2 h
  rw [hB.1.2] at this
  exact this
theorem plan3_donep {P : Program} {ops : Array Oper} {Q : Exit → Act → World → Prop} {S : World → Prop} {a : Act} {w : World} (h : Q .normal a w) : wpPlan3 P ops (AnyPanic Q) S .done a w := h

/-- What readAll leaves. -/
def AllPost (S : Nat) (l : List UInt8) (w : World) (e : Ending) (w' : World) : Prop :=
  match lexS l with
  | .ok ts => e = .returned (.tuple #[]) ∧ RP S l l.length ts w w'
  | .error p => e = wrong p ∧ Below S w w'
def atOf (S : Nat) (w : World) : Nat := match w.cell? ⟨S, 1, none⟩ with
  | some (.int _ i) => i.toNat
  | _ => 0
theorem Sc.at {S : Nat} {l : List UInt8} {a : Nat} {v : Value} {ts : List Tk} {w : World} (h : Sc S l a v ts w) : atOf S w = a := by
  unfold atOf
  rw [h.cells.2.1]
  simp

set_option maxRecDepth 10000 in
set_option maxHeartbeats 8000000 in
theorem readAll_any (S : Nat) (l : List UInt8) (v : Value) (w : World) (h : Sc S l 0 v [] w) (hl : l.length ≤ 1000000) :
    Calls Tryd.prog 26 #[.pointer (some ⟨S, 0, none⟩)] w (AllPost S l w) := by
  have HSC := hide h
  have hs := str_size l
  clear h
  go_enter Tryd.func26, Tryd.ntmps26
  go_wp2_with fail
  go_loopw [5] (fun _ wr => ∃ (a : Nat) (v : Value) (ts : List Tk), Hid (Sc S l a v ts wr ∧ Below S w wr ∧ lexL (l.length - a) (l.drop a) a ts = lexS l) ∧ a ≤ l.length ∧ ts.length ≤ a) (fun _ wr => l.length - atOf S wr)
  case atStart => exact ⟨0, v, [], hide ⟨HSC.out, Below.refl _ _, rfl⟩, Nat.zero_le _, Nat.zero_le _⟩
  case round =>
    clear HSC v
    obtain ⟨a, v, ts, HJ, hal, htl⟩ := hrel
    obtain ⟨c0, c1, _, _⟩ := HJ.out.1.cells
    by_cases ha : a < l.length
    · have haI : (a : Int) < (l.length : Int) := by omega
      go_wp2_with fail
      go_quiet (fail)
      go_wp2_with fail
      have HSQ := hide (HJ.out.1.drewN nq)
      have HAT := hide HJ.out.1.at
      clear c0 c1
      have hget : (str l)[a]'(by rw [hs]; exact ha) = l[a] := rfl
      have hts : ts.length ≤ 1000000 := by omega
      obtain ⟨c, hc⟩ : ∃ c, l[a] = c := ⟨_, rfl⟩
      rw [hc] at hget
      have HLC := hide hc
      clear hc
      have hle := clsN_le c.toNat
      have HC' : cls c = 0 ∨ cls c = 1 ∨ cls c = 2 ∨ cls c = 3 ∨ cls c = 4 ∨ cls c = 5 := by unfold cls; omega
      clear hle
      rcases HC' with hcc | hcc | hcc | hcc | hcc | hcc
      all_goals (have HCC := hide hcc; have HC := hide (show cls l[a] = _ from (congrArg cls HLC.out).trans hcc); clear hcc)
      · have HPO := hide (fun (Wd : World) (HSD : Hid (Sc S l a v ts Wd)) => show Calls Tryd.prog 42 #[.pointer (some ⟨S, 0, none⟩)] Wd (ReadPost S l a ts Wd) from refuse_post S l a v ts Wd HSD.out ha (.inl HC.out))
        refine wp_region_plan3p (fun _ => True) (.take 0 (.take 1 (.take 2 (.take 3 (.take 5 (.take 6 (.take 7 (.take 11 (.take 12 (.take 15 (.both 4 (.run 8 (.take 9 (.run 10 (.take 13 (.run 14 (.run 16 .done)))))) 8 (.run 4 (.take 9 (.run 10 (.take 13 (.run 14 (.run 16 .done))))))))))))))))) (by kernel_rfl) (by kernel_rfl) trivial ?_
        refine plan3_named ?_
        intro Wd HWd
        have HSD : Hid (Sc S l a v ts Wd) := by
          have e : Wd = (wr.drewN nq).drew := HWd.out
          subst e
          exact hide HSQ.out.drew
        have HBD : Hid (Below S w Wd) := by
          have e : Wd = (wr.drewN nq).drew := HWd.out
          subst e
          exact hide (HJ.out.2.1.trans (below_dn S _ nq)).drew
        have HPO := hide (HPO.out Wd HSD)
        clear HWd
        (refine plan3_take (o := ?_) (v := ?_) (by simp only [List.getElem?_toArray, List.getElem?_cons_zero]; rfl) (yields_run (by rfl) ?_) ?_; rotate_left; (focus (intro w' _; go_simp <;> with_reducible rfl)); (simp only [Act.put, List.setIfInBounds_toArray, List.set_cons_zero, List.set_cons_succ]))
        (refine plan3_take (o := ?_) (v := ?_) (by simp only [List.getElem?_toArray, List.getElem?_cons_succ, List.getElem?_cons_zero]; rfl) (yields_run (by rfl) ?_) ?_; rotate_left; (focus (intro w' _; go_simp <;> with_reducible rfl)); (simp only [Act.put, List.setIfInBounds_toArray, List.set_cons_zero, List.set_cons_succ]))
        (refine plan3_take (o := ?_) (v := ?_) (by simp only [List.getElem?_toArray, List.getElem?_cons_succ, List.getElem?_cons_zero]; rfl) (yields_run (by rfl) ?_) ?_; rotate_left; (focus (intro w' _; go_simp <;> with_reducible rfl)); (simp only [Act.put, List.setIfInBounds_toArray, List.set_cons_zero, List.set_cons_succ]))
        (refine plan3_take (o := ?_) (v := ?_) (by simp only [List.getElem?_toArray, List.getElem?_cons_succ, List.getElem?_cons_zero]; rfl) (yields_run (by rfl) ?_) ?_; rotate_left; (focus (intro w' _; go_simp <;> with_reducible rfl)); (simp only [Act.put, List.setIfInBounds_toArray, List.set_cons_zero, List.set_cons_succ]))
        (refine plan3_take (o := ?_) (v := ?_) (by simp only [List.getElem?_toArray, List.getElem?_cons_succ, List.getElem?_cons_zero]; rfl) (yields_run (by rfl) ?_) ?_; rotate_left; (focus (intro w' _; go_simp <;> with_reducible rfl)); (simp only [Act.put, List.setIfInBounds_toArray, List.set_cons_zero, List.set_cons_succ]))
        (refine plan3_take (o := ?_) (v := ?_) (by simp only [List.getElem?_toArray, List.getElem?_cons_succ, List.getElem?_cons_zero]; rfl) (yields_run (by rfl) ?_) ?_; rotate_left; (focus (intro w' _; go_simp <;> with_reducible rfl)); (simp only [Act.put, List.setIfInBounds_toArray, List.set_cons_zero, List.set_cons_succ]))
        (refine plan3_take (o := ?_) (v := ?_) (by simp only [List.getElem?_toArray, List.getElem?_cons_succ, List.getElem?_cons_zero]; rfl) (yields_run (by rfl) ?_) ?_; rotate_left; (focus (intro w' _; go_simp <;> with_reducible rfl)); (simp only [Act.put, List.setIfInBounds_toArray, List.set_cons_zero, List.set_cons_succ]))
        (refine plan3_take (o := ?_) (v := ?_) (by simp only [List.getElem?_toArray, List.getElem?_cons_succ, List.getElem?_cons_zero]; rfl) (yields_run (by rfl) ?_) ?_; rotate_left; (focus (intro w' _; go_simp <;> with_reducible rfl)); (simp only [Act.put, List.setIfInBounds_toArray, List.set_cons_zero, List.set_cons_succ]))
        (refine plan3_take (o := ?_) (v := ?_) (by simp only [List.getElem?_toArray, List.getElem?_cons_succ, List.getElem?_cons_zero]; rfl) (yields_run (by rfl) ?_) ?_; rotate_left; (focus (intro w' _; go_simp <;> with_reducible rfl)); (simp only [Act.put, List.setIfInBounds_toArray, List.set_cons_zero, List.set_cons_succ]))
        (refine plan3_take (o := ?_) (v := ?_) (by simp only [List.getElem?_toArray, List.getElem?_cons_succ, List.getElem?_cons_zero]; rfl) (yields_run (by rfl) ?_) ?_; rotate_left; (focus (intro w' _; go_simp <;> with_reducible rfl)); (simp only [Act.put, List.setIfInBounds_toArray, List.set_cons_zero, List.set_cons_succ]))
        refine plan3_both (o1 := ?_) (o2 := ?_) (by simp only [List.getElem?_toArray, List.getElem?_cons_succ, List.getElem?_cons_zero]; rfl) (by simp only [List.getElem?_toArray, List.getElem?_cons_succ, List.getElem?_cons_zero]; rfl) ?_ ?_
        · intro R0 HR
          obtain ⟨hx, _, _, _⟩ := HSD.out.cells
          go_wp2_with fail
          refine HR.out _ _ trivial ?_
          clear HR hx
          refine plan3_run (o := ?_) (by simp only [List.getElem?_toArray, List.getElem?_cons_succ, List.getElem?_cons_zero]; rfl) ?_
          intro R0 HR
          obtain ⟨_, hx, _, _⟩ := HSD.out.cells
          go_wp2_with fail
          refine HR.out _ _ trivial ?_
          clear HR hx
          (refine plan3_take (o := ?_) (v := ?_) (by simp only [List.getElem?_toArray, List.getElem?_cons_succ, List.getElem?_cons_zero]; rfl) (yields_run (by rfl) ?_) ?_; rotate_left; (focus (intro w' _; go_simp <;> with_reducible rfl)); (simp only [Act.put, List.setIfInBounds_toArray, List.set_cons_zero, List.set_cons_succ]))
          refine plan3_run (o := ?_) (by simp only [List.getElem?_toArray, List.getElem?_cons_succ, List.getElem?_cons_zero]; rfl) ?_
          intro R0 HR
          go_wp2_with fail
          have hco := classOf_any c Wd HSD.out.tab
          rw [HCC.out] at hco
          refine hco.mono ?_
          clear hco
          rintro e wz ⟨rfl, rfl⟩
          go_wp2_with fail
          refine HR.out _ _ trivial ?_
          clear HR
          (refine plan3_take (o := ?_) (v := ?_) (by simp only [List.getElem?_toArray, List.getElem?_cons_succ, List.getElem?_cons_zero]; rfl) (yields_run (by rfl) ?_) ?_; rotate_left; (focus (intro w' _; go_simp <;> with_reducible rfl)); (simp only [Act.put, List.setIfInBounds_toArray, List.set_cons_zero, List.set_cons_succ]))
          refine plan3_run (o := ?_) (by simp only [List.getElem?_toArray, List.getElem?_cons_succ, List.getElem?_cons_zero]; rfl) ?_
          intro R0 HR
          have hx : Wd.cell? ⟨S, 3, none⟩ = some (fn 42) := by rw [HSD.out.block.cell]; rfl
          go_wp2_with fail
          refine HR.out _ _ trivial ?_
          clear HR hx
          refine plan3_run (o := ?_) (by simp only [List.getElem?_toArray, List.getElem?_cons_succ, List.getElem?_cons_zero]; rfl) ?_
          intro R0 HR
          go_wp2_with fail
          refine HPO.out.mono ?_
          rintro e wz hz
          rcases hz.two ha with ⟨rfl, hbz, hlz⟩ | ⟨sz, ts', rfl, hrz, hlz, hs1, hs2, hs3⟩
          · have HPA : Hid (AllPost S l w (wrong a) wz) := hide (by unfold AllPost; rw [show lexS l = .error a from HJ.out.2.2.symm.trans hlz]; exact ⟨rfl, HBD.out.trans hbz⟩)
            clear hz hbz hlz
            go_wp2_with fail
            intro a' he
            exact ⟨he, HPA.out⟩
          have HRZ := hide hrz
          have HLZ := hide hlz
          clear hz hrz hlz
          go_wp2_with fail
          refine HR.out _ _ trivial ?_
          clear HR
          refine plan3_donep ?_
          obtain ⟨v', hv'⟩ := HRZ.out.1
          have HNX := hide (And.intro hv' (And.intro (HBD.out.trans HRZ.out.2) (HLZ.out.symm.trans HJ.out.2.2)))
          have HMS := hide hv'.at
          clear hv' HRZ HLZ
          go_wp2_with fail
          go_roundw
          case rel => exact ⟨a + sz, v', ts', hide HNX.out, hs2, by omega⟩
          case measure => rw [HMS.out, HAT.out]; omega
        · intro R0 HR
          obtain ⟨_, hx, _, _⟩ := HSD.out.cells
          go_wp2_with fail
          refine HR.out _ _ trivial ?_
          clear HR hx
          refine plan3_run (o := ?_) (by simp only [List.getElem?_toArray, List.getElem?_cons_succ, List.getElem?_cons_zero]; rfl) ?_
          intro R0 HR
          obtain ⟨hx, _, _, _⟩ := HSD.out.cells
          go_wp2_with fail
          refine HR.out _ _ trivial ?_
          clear HR hx
          (refine plan3_take (o := ?_) (v := ?_) (by simp only [List.getElem?_toArray, List.getElem?_cons_succ, List.getElem?_cons_zero]; rfl) (yields_run (by rfl) ?_) ?_; rotate_left; (focus (intro w' _; go_simp <;> with_reducible rfl)); (simp only [Act.put, List.setIfInBounds_toArray, List.set_cons_zero, List.set_cons_succ]))
          refine plan3_run (o := ?_) (by simp only [List.getElem?_toArray, List.getElem?_cons_succ, List.getElem?_cons_zero]; rfl) ?_
          intro R0 HR
          go_wp2_with fail
          have hco := classOf_any c Wd HSD.out.tab
          rw [HCC.out] at hco
          refine hco.mono ?_
          clear hco
          rintro e wz ⟨rfl, rfl⟩
          go_wp2_with fail
          refine HR.out _ _ trivial ?_
          clear HR
          (refine plan3_take (o := ?_) (v := ?_) (by simp only [List.getElem?_toArray, List.getElem?_cons_succ, List.getElem?_cons_zero]; rfl) (yields_run (by rfl) ?_) ?_; rotate_left; (focus (intro w' _; go_simp <;> with_reducible rfl)); (simp only [Act.put, List.setIfInBounds_toArray, List.set_cons_zero, List.set_cons_succ]))
          refine plan3_run (o := ?_) (by simp only [List.getElem?_toArray, List.getElem?_cons_succ, List.getElem?_cons_zero]; rfl) ?_
          intro R0 HR
          have hx : Wd.cell? ⟨S, 3, none⟩ = some (fn 42) := by rw [HSD.out.block.cell]; rfl
          go_wp2_with fail
          refine HR.out _ _ trivial ?_
          clear HR hx
          refine plan3_run (o := ?_) (by simp only [List.getElem?_toArray, List.getElem?_cons_succ, List.getElem?_cons_zero]; rfl) ?_
          intro R0 HR
          go_wp2_with fail
          refine HPO.out.mono ?_
          rintro e wz hz
          rcases hz.two ha with ⟨rfl, hbz, hlz⟩ | ⟨sz, ts', rfl, hrz, hlz, hs1, hs2, hs3⟩
          · have HPA : Hid (AllPost S l w (wrong a) wz) := hide (by unfold AllPost; rw [show lexS l = .error a from HJ.out.2.2.symm.trans hlz]; exact ⟨rfl, HBD.out.trans hbz⟩)
            clear hz hbz hlz
            go_wp2_with fail
            intro a' he
            exact ⟨he, HPA.out⟩
          have HRZ := hide hrz
          have HLZ := hide hlz
          clear hz hrz hlz
          go_wp2_with fail
          refine HR.out _ _ trivial ?_
          clear HR
          refine plan3_donep ?_
          obtain ⟨v', hv'⟩ := HRZ.out.1
          have HNX := hide (And.intro hv' (And.intro (HBD.out.trans HRZ.out.2) (HLZ.out.symm.trans HJ.out.2.2)))
          have HMS := hide hv'.at
          clear hv' HRZ HLZ
          go_wp2_with fail
          go_roundw
          case rel => exact ⟨a + sz, v', ts', hide HNX.out, hs2, by omega⟩
          case measure => rw [HMS.out, HAT.out]; omega
      · have HPO := hide (fun (Wd : World) (HSD : Hid (Sc S l a v ts Wd)) => show Calls Tryd.prog 43 #[.pointer (some ⟨S, 0, none⟩)] Wd (ReadPost S l a ts Wd) from white_post S l a v ts Wd HSD.out ha hl HC.out)
        refine wp_region_plan3p (fun _ => True) (.take 0 (.take 1 (.take 2 (.take 3 (.take 5 (.take 6 (.take 7 (.take 11 (.take 12 (.take 15 (.both 4 (.run 8 (.take 9 (.run 10 (.take 13 (.run 14 (.run 16 .done)))))) 8 (.run 4 (.take 9 (.run 10 (.take 13 (.run 14 (.run 16 .done))))))))))))))))) (by kernel_rfl) (by kernel_rfl) trivial ?_
        refine plan3_named ?_
        intro Wd HWd
        have HSD : Hid (Sc S l a v ts Wd) := by
          have e : Wd = (wr.drewN nq).drew := HWd.out
          subst e
          exact hide HSQ.out.drew
        have HBD : Hid (Below S w Wd) := by
          have e : Wd = (wr.drewN nq).drew := HWd.out
          subst e
          exact hide (HJ.out.2.1.trans (below_dn S _ nq)).drew
        have HPO := hide (HPO.out Wd HSD)
        clear HWd
        (refine plan3_take (o := ?_) (v := ?_) (by simp only [List.getElem?_toArray, List.getElem?_cons_zero]; rfl) (yields_run (by rfl) ?_) ?_; rotate_left; (focus (intro w' _; go_simp <;> with_reducible rfl)); (simp only [Act.put, List.setIfInBounds_toArray, List.set_cons_zero, List.set_cons_succ]))
        (refine plan3_take (o := ?_) (v := ?_) (by simp only [List.getElem?_toArray, List.getElem?_cons_succ, List.getElem?_cons_zero]; rfl) (yields_run (by rfl) ?_) ?_; rotate_left; (focus (intro w' _; go_simp <;> with_reducible rfl)); (simp only [Act.put, List.setIfInBounds_toArray, List.set_cons_zero, List.set_cons_succ]))
        (refine plan3_take (o := ?_) (v := ?_) (by simp only [List.getElem?_toArray, List.getElem?_cons_succ, List.getElem?_cons_zero]; rfl) (yields_run (by rfl) ?_) ?_; rotate_left; (focus (intro w' _; go_simp <;> with_reducible rfl)); (simp only [Act.put, List.setIfInBounds_toArray, List.set_cons_zero, List.set_cons_succ]))
        (refine plan3_take (o := ?_) (v := ?_) (by simp only [List.getElem?_toArray, List.getElem?_cons_succ, List.getElem?_cons_zero]; rfl) (yields_run (by rfl) ?_) ?_; rotate_left; (focus (intro w' _; go_simp <;> with_reducible rfl)); (simp only [Act.put, List.setIfInBounds_toArray, List.set_cons_zero, List.set_cons_succ]))
        (refine plan3_take (o := ?_) (v := ?_) (by simp only [List.getElem?_toArray, List.getElem?_cons_succ, List.getElem?_cons_zero]; rfl) (yields_run (by rfl) ?_) ?_; rotate_left; (focus (intro w' _; go_simp <;> with_reducible rfl)); (simp only [Act.put, List.setIfInBounds_toArray, List.set_cons_zero, List.set_cons_succ]))
        (refine plan3_take (o := ?_) (v := ?_) (by simp only [List.getElem?_toArray, List.getElem?_cons_succ, List.getElem?_cons_zero]; rfl) (yields_run (by rfl) ?_) ?_; rotate_left; (focus (intro w' _; go_simp <;> with_reducible rfl)); (simp only [Act.put, List.setIfInBounds_toArray, List.set_cons_zero, List.set_cons_succ]))
        (refine plan3_take (o := ?_) (v := ?_) (by simp only [List.getElem?_toArray, List.getElem?_cons_succ, List.getElem?_cons_zero]; rfl) (yields_run (by rfl) ?_) ?_; rotate_left; (focus (intro w' _; go_simp <;> with_reducible rfl)); (simp only [Act.put, List.setIfInBounds_toArray, List.set_cons_zero, List.set_cons_succ]))
        (refine plan3_take (o := ?_) (v := ?_) (by simp only [List.getElem?_toArray, List.getElem?_cons_succ, List.getElem?_cons_zero]; rfl) (yields_run (by rfl) ?_) ?_; rotate_left; (focus (intro w' _; go_simp <;> with_reducible rfl)); (simp only [Act.put, List.setIfInBounds_toArray, List.set_cons_zero, List.set_cons_succ]))
        (refine plan3_take (o := ?_) (v := ?_) (by simp only [List.getElem?_toArray, List.getElem?_cons_succ, List.getElem?_cons_zero]; rfl) (yields_run (by rfl) ?_) ?_; rotate_left; (focus (intro w' _; go_simp <;> with_reducible rfl)); (simp only [Act.put, List.setIfInBounds_toArray, List.set_cons_zero, List.set_cons_succ]))
        (refine plan3_take (o := ?_) (v := ?_) (by simp only [List.getElem?_toArray, List.getElem?_cons_succ, List.getElem?_cons_zero]; rfl) (yields_run (by rfl) ?_) ?_; rotate_left; (focus (intro w' _; go_simp <;> with_reducible rfl)); (simp only [Act.put, List.setIfInBounds_toArray, List.set_cons_zero, List.set_cons_succ]))
        refine plan3_both (o1 := ?_) (o2 := ?_) (by simp only [List.getElem?_toArray, List.getElem?_cons_succ, List.getElem?_cons_zero]; rfl) (by simp only [List.getElem?_toArray, List.getElem?_cons_succ, List.getElem?_cons_zero]; rfl) ?_ ?_
        · intro R0 HR
          obtain ⟨hx, _, _, _⟩ := HSD.out.cells
          go_wp2_with fail
          refine HR.out _ _ trivial ?_
          clear HR hx
          refine plan3_run (o := ?_) (by simp only [List.getElem?_toArray, List.getElem?_cons_succ, List.getElem?_cons_zero]; rfl) ?_
          intro R0 HR
          obtain ⟨_, hx, _, _⟩ := HSD.out.cells
          go_wp2_with fail
          refine HR.out _ _ trivial ?_
          clear HR hx
          (refine plan3_take (o := ?_) (v := ?_) (by simp only [List.getElem?_toArray, List.getElem?_cons_succ, List.getElem?_cons_zero]; rfl) (yields_run (by rfl) ?_) ?_; rotate_left; (focus (intro w' _; go_simp <;> with_reducible rfl)); (simp only [Act.put, List.setIfInBounds_toArray, List.set_cons_zero, List.set_cons_succ]))
          refine plan3_run (o := ?_) (by simp only [List.getElem?_toArray, List.getElem?_cons_succ, List.getElem?_cons_zero]; rfl) ?_
          intro R0 HR
          go_wp2_with fail
          have hco := classOf_any c Wd HSD.out.tab
          rw [HCC.out] at hco
          refine hco.mono ?_
          clear hco
          rintro e wz ⟨rfl, rfl⟩
          go_wp2_with fail
          refine HR.out _ _ trivial ?_
          clear HR
          (refine plan3_take (o := ?_) (v := ?_) (by simp only [List.getElem?_toArray, List.getElem?_cons_succ, List.getElem?_cons_zero]; rfl) (yields_run (by rfl) ?_) ?_; rotate_left; (focus (intro w' _; go_simp <;> with_reducible rfl)); (simp only [Act.put, List.setIfInBounds_toArray, List.set_cons_zero, List.set_cons_succ]))
          refine plan3_run (o := ?_) (by simp only [List.getElem?_toArray, List.getElem?_cons_succ, List.getElem?_cons_zero]; rfl) ?_
          intro R0 HR
          have hx : Wd.cell? ⟨S, 4, none⟩ = some (fn 43) := by rw [HSD.out.block.cell]; rfl
          go_wp2_with fail
          refine HR.out _ _ trivial ?_
          clear HR hx
          refine plan3_run (o := ?_) (by simp only [List.getElem?_toArray, List.getElem?_cons_succ, List.getElem?_cons_zero]; rfl) ?_
          intro R0 HR
          go_wp2_with fail
          refine HPO.out.mono ?_
          rintro e wz hz
          rcases hz.two ha with ⟨rfl, hbz, hlz⟩ | ⟨sz, ts', rfl, hrz, hlz, hs1, hs2, hs3⟩
          · have HPA : Hid (AllPost S l w (wrong a) wz) := hide (by unfold AllPost; rw [show lexS l = .error a from HJ.out.2.2.symm.trans hlz]; exact ⟨rfl, HBD.out.trans hbz⟩)
            clear hz hbz hlz
            go_wp2_with fail
            intro a' he
            exact ⟨he, HPA.out⟩
          have HRZ := hide hrz
          have HLZ := hide hlz
          clear hz hrz hlz
          go_wp2_with fail
          refine HR.out _ _ trivial ?_
          clear HR
          refine plan3_donep ?_
          obtain ⟨v', hv'⟩ := HRZ.out.1
          have HNX := hide (And.intro hv' (And.intro (HBD.out.trans HRZ.out.2) (HLZ.out.symm.trans HJ.out.2.2)))
          have HMS := hide hv'.at
          clear hv' HRZ HLZ
          go_wp2_with fail
          go_roundw
          case rel => exact ⟨a + sz, v', ts', hide HNX.out, hs2, by omega⟩
          case measure => rw [HMS.out, HAT.out]; omega
        · intro R0 HR
          obtain ⟨_, hx, _, _⟩ := HSD.out.cells
          go_wp2_with fail
          refine HR.out _ _ trivial ?_
          clear HR hx
          refine plan3_run (o := ?_) (by simp only [List.getElem?_toArray, List.getElem?_cons_succ, List.getElem?_cons_zero]; rfl) ?_
          intro R0 HR
          obtain ⟨hx, _, _, _⟩ := HSD.out.cells
          go_wp2_with fail
          refine HR.out _ _ trivial ?_
          clear HR hx
          (refine plan3_take (o := ?_) (v := ?_) (by simp only [List.getElem?_toArray, List.getElem?_cons_succ, List.getElem?_cons_zero]; rfl) (yields_run (by rfl) ?_) ?_; rotate_left; (focus (intro w' _; go_simp <;> with_reducible rfl)); (simp only [Act.put, List.setIfInBounds_toArray, List.set_cons_zero, List.set_cons_succ]))
          refine plan3_run (o := ?_) (by simp only [List.getElem?_toArray, List.getElem?_cons_succ, List.getElem?_cons_zero]; rfl) ?_
          intro R0 HR
          go_wp2_with fail
          have hco := classOf_any c Wd HSD.out.tab
          rw [HCC.out] at hco
          refine hco.mono ?_
          clear hco
          rintro e wz ⟨rfl, rfl⟩
          go_wp2_with fail
          refine HR.out _ _ trivial ?_
          clear HR
          (refine plan3_take (o := ?_) (v := ?_) (by simp only [List.getElem?_toArray, List.getElem?_cons_succ, List.getElem?_cons_zero]; rfl) (yields_run (by rfl) ?_) ?_; rotate_left; (focus (intro w' _; go_simp <;> with_reducible rfl)); (simp only [Act.put, List.setIfInBounds_toArray, List.set_cons_zero, List.set_cons_succ]))
          refine plan3_run (o := ?_) (by simp only [List.getElem?_toArray, List.getElem?_cons_succ, List.getElem?_cons_zero]; rfl) ?_
          intro R0 HR
          have hx : Wd.cell? ⟨S, 4, none⟩ = some (fn 43) := by rw [HSD.out.block.cell]; rfl
          go_wp2_with fail
          refine HR.out _ _ trivial ?_
          clear HR hx
          refine plan3_run (o := ?_) (by simp only [List.getElem?_toArray, List.getElem?_cons_succ, List.getElem?_cons_zero]; rfl) ?_
          intro R0 HR
          go_wp2_with fail
          refine HPO.out.mono ?_
          rintro e wz hz
          rcases hz.two ha with ⟨rfl, hbz, hlz⟩ | ⟨sz, ts', rfl, hrz, hlz, hs1, hs2, hs3⟩
          · have HPA : Hid (AllPost S l w (wrong a) wz) := hide (by unfold AllPost; rw [show lexS l = .error a from HJ.out.2.2.symm.trans hlz]; exact ⟨rfl, HBD.out.trans hbz⟩)
            clear hz hbz hlz
            go_wp2_with fail
            intro a' he
            exact ⟨he, HPA.out⟩
          have HRZ := hide hrz
          have HLZ := hide hlz
          clear hz hrz hlz
          go_wp2_with fail
          refine HR.out _ _ trivial ?_
          clear HR
          refine plan3_donep ?_
          obtain ⟨v', hv'⟩ := HRZ.out.1
          have HNX := hide (And.intro hv' (And.intro (HBD.out.trans HRZ.out.2) (HLZ.out.symm.trans HJ.out.2.2)))
          have HMS := hide hv'.at
          clear hv' HRZ HLZ
          go_wp2_with fail
          go_roundw
          case rel => exact ⟨a + sz, v', ts', hide HNX.out, hs2, by omega⟩
          case measure => rw [HMS.out, HAT.out]; omega
      · have HPO := hide (fun (Wd : World) (HSD : Hid (Sc S l a v ts Wd)) => show Calls Tryd.prog 44 #[.pointer (some ⟨S, 0, none⟩)] Wd (ReadPost S l a ts Wd) from readSign_any S l a v ts Wd HSD.out ha hl hts HC.out)
        refine wp_region_plan3p (fun _ => True) (.take 0 (.take 1 (.take 2 (.take 3 (.take 5 (.take 6 (.take 7 (.take 11 (.take 12 (.take 15 (.both 4 (.run 8 (.take 9 (.run 10 (.take 13 (.run 14 (.run 16 .done)))))) 8 (.run 4 (.take 9 (.run 10 (.take 13 (.run 14 (.run 16 .done))))))))))))))))) (by kernel_rfl) (by kernel_rfl) trivial ?_
        refine plan3_named ?_
        intro Wd HWd
        have HSD : Hid (Sc S l a v ts Wd) := by
          have e : Wd = (wr.drewN nq).drew := HWd.out
          subst e
          exact hide HSQ.out.drew
        have HBD : Hid (Below S w Wd) := by
          have e : Wd = (wr.drewN nq).drew := HWd.out
          subst e
          exact hide (HJ.out.2.1.trans (below_dn S _ nq)).drew
        have HPO := hide (HPO.out Wd HSD)
        clear HWd
        (refine plan3_take (o := ?_) (v := ?_) (by simp only [List.getElem?_toArray, List.getElem?_cons_zero]; rfl) (yields_run (by rfl) ?_) ?_; rotate_left; (focus (intro w' _; go_simp <;> with_reducible rfl)); (simp only [Act.put, List.setIfInBounds_toArray, List.set_cons_zero, List.set_cons_succ]))
        (refine plan3_take (o := ?_) (v := ?_) (by simp only [List.getElem?_toArray, List.getElem?_cons_succ, List.getElem?_cons_zero]; rfl) (yields_run (by rfl) ?_) ?_; rotate_left; (focus (intro w' _; go_simp <;> with_reducible rfl)); (simp only [Act.put, List.setIfInBounds_toArray, List.set_cons_zero, List.set_cons_succ]))
        (refine plan3_take (o := ?_) (v := ?_) (by simp only [List.getElem?_toArray, List.getElem?_cons_succ, List.getElem?_cons_zero]; rfl) (yields_run (by rfl) ?_) ?_; rotate_left; (focus (intro w' _; go_simp <;> with_reducible rfl)); (simp only [Act.put, List.setIfInBounds_toArray, List.set_cons_zero, List.set_cons_succ]))
        (refine plan3_take (o := ?_) (v := ?_) (by simp only [List.getElem?_toArray, List.getElem?_cons_succ, List.getElem?_cons_zero]; rfl) (yields_run (by rfl) ?_) ?_; rotate_left; (focus (intro w' _; go_simp <;> with_reducible rfl)); (simp only [Act.put, List.setIfInBounds_toArray, List.set_cons_zero, List.set_cons_succ]))
        (refine plan3_take (o := ?_) (v := ?_) (by simp only [List.getElem?_toArray, List.getElem?_cons_succ, List.getElem?_cons_zero]; rfl) (yields_run (by rfl) ?_) ?_; rotate_left; (focus (intro w' _; go_simp <;> with_reducible rfl)); (simp only [Act.put, List.setIfInBounds_toArray, List.set_cons_zero, List.set_cons_succ]))
        (refine plan3_take (o := ?_) (v := ?_) (by simp only [List.getElem?_toArray, List.getElem?_cons_succ, List.getElem?_cons_zero]; rfl) (yields_run (by rfl) ?_) ?_; rotate_left; (focus (intro w' _; go_simp <;> with_reducible rfl)); (simp only [Act.put, List.setIfInBounds_toArray, List.set_cons_zero, List.set_cons_succ]))
        (refine plan3_take (o := ?_) (v := ?_) (by simp only [List.getElem?_toArray, List.getElem?_cons_succ, List.getElem?_cons_zero]; rfl) (yields_run (by rfl) ?_) ?_; rotate_left; (focus (intro w' _; go_simp <;> with_reducible rfl)); (simp only [Act.put, List.setIfInBounds_toArray, List.set_cons_zero, List.set_cons_succ]))
        (refine plan3_take (o := ?_) (v := ?_) (by simp only [List.getElem?_toArray, List.getElem?_cons_succ, List.getElem?_cons_zero]; rfl) (yields_run (by rfl) ?_) ?_; rotate_left; (focus (intro w' _; go_simp <;> with_reducible rfl)); (simp only [Act.put, List.setIfInBounds_toArray, List.set_cons_zero, List.set_cons_succ]))
        (refine plan3_take (o := ?_) (v := ?_) (by simp only [List.getElem?_toArray, List.getElem?_cons_succ, List.getElem?_cons_zero]; rfl) (yields_run (by rfl) ?_) ?_; rotate_left; (focus (intro w' _; go_simp <;> with_reducible rfl)); (simp only [Act.put, List.setIfInBounds_toArray, List.set_cons_zero, List.set_cons_succ]))
        (refine plan3_take (o := ?_) (v := ?_) (by simp only [List.getElem?_toArray, List.getElem?_cons_succ, List.getElem?_cons_zero]; rfl) (yields_run (by rfl) ?_) ?_; rotate_left; (focus (intro w' _; go_simp <;> with_reducible rfl)); (simp only [Act.put, List.setIfInBounds_toArray, List.set_cons_zero, List.set_cons_succ]))
        refine plan3_both (o1 := ?_) (o2 := ?_) (by simp only [List.getElem?_toArray, List.getElem?_cons_succ, List.getElem?_cons_zero]; rfl) (by simp only [List.getElem?_toArray, List.getElem?_cons_succ, List.getElem?_cons_zero]; rfl) ?_ ?_
        · intro R0 HR
          obtain ⟨hx, _, _, _⟩ := HSD.out.cells
          go_wp2_with fail
          refine HR.out _ _ trivial ?_
          clear HR hx
          refine plan3_run (o := ?_) (by simp only [List.getElem?_toArray, List.getElem?_cons_succ, List.getElem?_cons_zero]; rfl) ?_
          intro R0 HR
          obtain ⟨_, hx, _, _⟩ := HSD.out.cells
          go_wp2_with fail
          refine HR.out _ _ trivial ?_
          clear HR hx
          (refine plan3_take (o := ?_) (v := ?_) (by simp only [List.getElem?_toArray, List.getElem?_cons_succ, List.getElem?_cons_zero]; rfl) (yields_run (by rfl) ?_) ?_; rotate_left; (focus (intro w' _; go_simp <;> with_reducible rfl)); (simp only [Act.put, List.setIfInBounds_toArray, List.set_cons_zero, List.set_cons_succ]))
          refine plan3_run (o := ?_) (by simp only [List.getElem?_toArray, List.getElem?_cons_succ, List.getElem?_cons_zero]; rfl) ?_
          intro R0 HR
          go_wp2_with fail
          have hco := classOf_any c Wd HSD.out.tab
          rw [HCC.out] at hco
          refine hco.mono ?_
          clear hco
          rintro e wz ⟨rfl, rfl⟩
          go_wp2_with fail
          refine HR.out _ _ trivial ?_
          clear HR
          (refine plan3_take (o := ?_) (v := ?_) (by simp only [List.getElem?_toArray, List.getElem?_cons_succ, List.getElem?_cons_zero]; rfl) (yields_run (by rfl) ?_) ?_; rotate_left; (focus (intro w' _; go_simp <;> with_reducible rfl)); (simp only [Act.put, List.setIfInBounds_toArray, List.set_cons_zero, List.set_cons_succ]))
          refine plan3_run (o := ?_) (by simp only [List.getElem?_toArray, List.getElem?_cons_succ, List.getElem?_cons_zero]; rfl) ?_
          intro R0 HR
          have hx : Wd.cell? ⟨S, 5, none⟩ = some (fn 44) := by rw [HSD.out.block.cell]; rfl
          go_wp2_with fail
          refine HR.out _ _ trivial ?_
          clear HR hx
          refine plan3_run (o := ?_) (by simp only [List.getElem?_toArray, List.getElem?_cons_succ, List.getElem?_cons_zero]; rfl) ?_
          intro R0 HR
          go_wp2_with fail
          refine HPO.out.mono ?_
          rintro e wz hz
          rcases hz.two ha with ⟨rfl, hbz, hlz⟩ | ⟨sz, ts', rfl, hrz, hlz, hs1, hs2, hs3⟩
          · have HPA : Hid (AllPost S l w (wrong a) wz) := hide (by unfold AllPost; rw [show lexS l = .error a from HJ.out.2.2.symm.trans hlz]; exact ⟨rfl, HBD.out.trans hbz⟩)
            clear hz hbz hlz
            go_wp2_with fail
            intro a' he
            exact ⟨he, HPA.out⟩
          have HRZ := hide hrz
          have HLZ := hide hlz
          clear hz hrz hlz
          go_wp2_with fail
          refine HR.out _ _ trivial ?_
          clear HR
          refine plan3_donep ?_
          obtain ⟨v', hv'⟩ := HRZ.out.1
          have HNX := hide (And.intro hv' (And.intro (HBD.out.trans HRZ.out.2) (HLZ.out.symm.trans HJ.out.2.2)))
          have HMS := hide hv'.at
          clear hv' HRZ HLZ
          go_wp2_with fail
          go_roundw
          case rel => exact ⟨a + sz, v', ts', hide HNX.out, hs2, by omega⟩
          case measure => rw [HMS.out, HAT.out]; omega
        · intro R0 HR
          obtain ⟨_, hx, _, _⟩ := HSD.out.cells
          go_wp2_with fail
          refine HR.out _ _ trivial ?_
          clear HR hx
          refine plan3_run (o := ?_) (by simp only [List.getElem?_toArray, List.getElem?_cons_succ, List.getElem?_cons_zero]; rfl) ?_
          intro R0 HR
          obtain ⟨hx, _, _, _⟩ := HSD.out.cells
          go_wp2_with fail
          refine HR.out _ _ trivial ?_
          clear HR hx
          (refine plan3_take (o := ?_) (v := ?_) (by simp only [List.getElem?_toArray, List.getElem?_cons_succ, List.getElem?_cons_zero]; rfl) (yields_run (by rfl) ?_) ?_; rotate_left; (focus (intro w' _; go_simp <;> with_reducible rfl)); (simp only [Act.put, List.setIfInBounds_toArray, List.set_cons_zero, List.set_cons_succ]))
          refine plan3_run (o := ?_) (by simp only [List.getElem?_toArray, List.getElem?_cons_succ, List.getElem?_cons_zero]; rfl) ?_
          intro R0 HR
          go_wp2_with fail
          have hco := classOf_any c Wd HSD.out.tab
          rw [HCC.out] at hco
          refine hco.mono ?_
          clear hco
          rintro e wz ⟨rfl, rfl⟩
          go_wp2_with fail
          refine HR.out _ _ trivial ?_
          clear HR
          (refine plan3_take (o := ?_) (v := ?_) (by simp only [List.getElem?_toArray, List.getElem?_cons_succ, List.getElem?_cons_zero]; rfl) (yields_run (by rfl) ?_) ?_; rotate_left; (focus (intro w' _; go_simp <;> with_reducible rfl)); (simp only [Act.put, List.setIfInBounds_toArray, List.set_cons_zero, List.set_cons_succ]))
          refine plan3_run (o := ?_) (by simp only [List.getElem?_toArray, List.getElem?_cons_succ, List.getElem?_cons_zero]; rfl) ?_
          intro R0 HR
          have hx : Wd.cell? ⟨S, 5, none⟩ = some (fn 44) := by rw [HSD.out.block.cell]; rfl
          go_wp2_with fail
          refine HR.out _ _ trivial ?_
          clear HR hx
          refine plan3_run (o := ?_) (by simp only [List.getElem?_toArray, List.getElem?_cons_succ, List.getElem?_cons_zero]; rfl) ?_
          intro R0 HR
          go_wp2_with fail
          refine HPO.out.mono ?_
          rintro e wz hz
          rcases hz.two ha with ⟨rfl, hbz, hlz⟩ | ⟨sz, ts', rfl, hrz, hlz, hs1, hs2, hs3⟩
          · have HPA : Hid (AllPost S l w (wrong a) wz) := hide (by unfold AllPost; rw [show lexS l = .error a from HJ.out.2.2.symm.trans hlz]; exact ⟨rfl, HBD.out.trans hbz⟩)
            clear hz hbz hlz
            go_wp2_with fail
            intro a' he
            exact ⟨he, HPA.out⟩
          have HRZ := hide hrz
          have HLZ := hide hlz
          clear hz hrz hlz
          go_wp2_with fail
          refine HR.out _ _ trivial ?_
          clear HR
          refine plan3_donep ?_
          obtain ⟨v', hv'⟩ := HRZ.out.1
          have HNX := hide (And.intro hv' (And.intro (HBD.out.trans HRZ.out.2) (HLZ.out.symm.trans HJ.out.2.2)))
          have HMS := hide hv'.at
          clear hv' HRZ HLZ
          go_wp2_with fail
          go_roundw
          case rel => exact ⟨a + sz, v', ts', hide HNX.out, hs2, by omega⟩
          case measure => rw [HMS.out, HAT.out]; omega
      · have HPO := hide (fun (Wd : World) (HSD : Hid (Sc S l a v ts Wd)) => show Calls Tryd.prog 45 #[.pointer (some ⟨S, 0, none⟩)] Wd (ReadPost S l a ts Wd) from readNumber_any S l a v ts Wd HSD.out ha hl hts HC.out)
        refine wp_region_plan3p (fun _ => True) (.take 0 (.take 1 (.take 2 (.take 3 (.take 5 (.take 6 (.take 7 (.take 11 (.take 12 (.take 15 (.both 4 (.run 8 (.take 9 (.run 10 (.take 13 (.run 14 (.run 16 .done)))))) 8 (.run 4 (.take 9 (.run 10 (.take 13 (.run 14 (.run 16 .done))))))))))))))))) (by kernel_rfl) (by kernel_rfl) trivial ?_
        refine plan3_named ?_
        intro Wd HWd
        have HSD : Hid (Sc S l a v ts Wd) := by
          have e : Wd = (wr.drewN nq).drew := HWd.out
          subst e
          exact hide HSQ.out.drew
        have HBD : Hid (Below S w Wd) := by
          have e : Wd = (wr.drewN nq).drew := HWd.out
          subst e
          exact hide (HJ.out.2.1.trans (below_dn S _ nq)).drew
        have HPO := hide (HPO.out Wd HSD)
        clear HWd
        (refine plan3_take (o := ?_) (v := ?_) (by simp only [List.getElem?_toArray, List.getElem?_cons_zero]; rfl) (yields_run (by rfl) ?_) ?_; rotate_left; (focus (intro w' _; go_simp <;> with_reducible rfl)); (simp only [Act.put, List.setIfInBounds_toArray, List.set_cons_zero, List.set_cons_succ]))
        (refine plan3_take (o := ?_) (v := ?_) (by simp only [List.getElem?_toArray, List.getElem?_cons_succ, List.getElem?_cons_zero]; rfl) (yields_run (by rfl) ?_) ?_; rotate_left; (focus (intro w' _; go_simp <;> with_reducible rfl)); (simp only [Act.put, List.setIfInBounds_toArray, List.set_cons_zero, List.set_cons_succ]))
        (refine plan3_take (o := ?_) (v := ?_) (by simp only [List.getElem?_toArray, List.getElem?_cons_succ, List.getElem?_cons_zero]; rfl) (yields_run (by rfl) ?_) ?_; rotate_left; (focus (intro w' _; go_simp <;> with_reducible rfl)); (simp only [Act.put, List.setIfInBounds_toArray, List.set_cons_zero, List.set_cons_succ]))
        (refine plan3_take (o := ?_) (v := ?_) (by simp only [List.getElem?_toArray, List.getElem?_cons_succ, List.getElem?_cons_zero]; rfl) (yields_run (by rfl) ?_) ?_; rotate_left; (focus (intro w' _; go_simp <;> with_reducible rfl)); (simp only [Act.put, List.setIfInBounds_toArray, List.set_cons_zero, List.set_cons_succ]))
        (refine plan3_take (o := ?_) (v := ?_) (by simp only [List.getElem?_toArray, List.getElem?_cons_succ, List.getElem?_cons_zero]; rfl) (yields_run (by rfl) ?_) ?_; rotate_left; (focus (intro w' _; go_simp <;> with_reducible rfl)); (simp only [Act.put, List.setIfInBounds_toArray, List.set_cons_zero, List.set_cons_succ]))
        (refine plan3_take (o := ?_) (v := ?_) (by simp only [List.getElem?_toArray, List.getElem?_cons_succ, List.getElem?_cons_zero]; rfl) (yields_run (by rfl) ?_) ?_; rotate_left; (focus (intro w' _; go_simp <;> with_reducible rfl)); (simp only [Act.put, List.setIfInBounds_toArray, List.set_cons_zero, List.set_cons_succ]))
        (refine plan3_take (o := ?_) (v := ?_) (by simp only [List.getElem?_toArray, List.getElem?_cons_succ, List.getElem?_cons_zero]; rfl) (yields_run (by rfl) ?_) ?_; rotate_left; (focus (intro w' _; go_simp <;> with_reducible rfl)); (simp only [Act.put, List.setIfInBounds_toArray, List.set_cons_zero, List.set_cons_succ]))
        (refine plan3_take (o := ?_) (v := ?_) (by simp only [List.getElem?_toArray, List.getElem?_cons_succ, List.getElem?_cons_zero]; rfl) (yields_run (by rfl) ?_) ?_; rotate_left; (focus (intro w' _; go_simp <;> with_reducible rfl)); (simp only [Act.put, List.setIfInBounds_toArray, List.set_cons_zero, List.set_cons_succ]))
        (refine plan3_take (o := ?_) (v := ?_) (by simp only [List.getElem?_toArray, List.getElem?_cons_succ, List.getElem?_cons_zero]; rfl) (yields_run (by rfl) ?_) ?_; rotate_left; (focus (intro w' _; go_simp <;> with_reducible rfl)); (simp only [Act.put, List.setIfInBounds_toArray, List.set_cons_zero, List.set_cons_succ]))
        (refine plan3_take (o := ?_) (v := ?_) (by simp only [List.getElem?_toArray, List.getElem?_cons_succ, List.getElem?_cons_zero]; rfl) (yields_run (by rfl) ?_) ?_; rotate_left; (focus (intro w' _; go_simp <;> with_reducible rfl)); (simp only [Act.put, List.setIfInBounds_toArray, List.set_cons_zero, List.set_cons_succ]))
        refine plan3_both (o1 := ?_) (o2 := ?_) (by simp only [List.getElem?_toArray, List.getElem?_cons_succ, List.getElem?_cons_zero]; rfl) (by simp only [List.getElem?_toArray, List.getElem?_cons_succ, List.getElem?_cons_zero]; rfl) ?_ ?_
        · intro R0 HR
          obtain ⟨hx, _, _, _⟩ := HSD.out.cells
          go_wp2_with fail
          refine HR.out _ _ trivial ?_
          clear HR hx
          refine plan3_run (o := ?_) (by simp only [List.getElem?_toArray, List.getElem?_cons_succ, List.getElem?_cons_zero]; rfl) ?_
          intro R0 HR
          obtain ⟨_, hx, _, _⟩ := HSD.out.cells
          go_wp2_with fail
          refine HR.out _ _ trivial ?_
          clear HR hx
          (refine plan3_take (o := ?_) (v := ?_) (by simp only [List.getElem?_toArray, List.getElem?_cons_succ, List.getElem?_cons_zero]; rfl) (yields_run (by rfl) ?_) ?_; rotate_left; (focus (intro w' _; go_simp <;> with_reducible rfl)); (simp only [Act.put, List.setIfInBounds_toArray, List.set_cons_zero, List.set_cons_succ]))
          refine plan3_run (o := ?_) (by simp only [List.getElem?_toArray, List.getElem?_cons_succ, List.getElem?_cons_zero]; rfl) ?_
          intro R0 HR
          go_wp2_with fail
          have hco := classOf_any c Wd HSD.out.tab
          rw [HCC.out] at hco
          refine hco.mono ?_
          clear hco
          rintro e wz ⟨rfl, rfl⟩
          go_wp2_with fail
          refine HR.out _ _ trivial ?_
          clear HR
          (refine plan3_take (o := ?_) (v := ?_) (by simp only [List.getElem?_toArray, List.getElem?_cons_succ, List.getElem?_cons_zero]; rfl) (yields_run (by rfl) ?_) ?_; rotate_left; (focus (intro w' _; go_simp <;> with_reducible rfl)); (simp only [Act.put, List.setIfInBounds_toArray, List.set_cons_zero, List.set_cons_succ]))
          refine plan3_run (o := ?_) (by simp only [List.getElem?_toArray, List.getElem?_cons_succ, List.getElem?_cons_zero]; rfl) ?_
          intro R0 HR
          have hx : Wd.cell? ⟨S, 6, none⟩ = some (fn 45) := by rw [HSD.out.block.cell]; rfl
          go_wp2_with fail
          refine HR.out _ _ trivial ?_
          clear HR hx
          refine plan3_run (o := ?_) (by simp only [List.getElem?_toArray, List.getElem?_cons_succ, List.getElem?_cons_zero]; rfl) ?_
          intro R0 HR
          go_wp2_with fail
          refine HPO.out.mono ?_
          rintro e wz hz
          rcases hz.two ha with ⟨rfl, hbz, hlz⟩ | ⟨sz, ts', rfl, hrz, hlz, hs1, hs2, hs3⟩
          · have HPA : Hid (AllPost S l w (wrong a) wz) := hide (by unfold AllPost; rw [show lexS l = .error a from HJ.out.2.2.symm.trans hlz]; exact ⟨rfl, HBD.out.trans hbz⟩)
            clear hz hbz hlz
            go_wp2_with fail
            intro a' he
            exact ⟨he, HPA.out⟩
          have HRZ := hide hrz
          have HLZ := hide hlz
          clear hz hrz hlz
          go_wp2_with fail
          refine HR.out _ _ trivial ?_
          clear HR
          refine plan3_donep ?_
          obtain ⟨v', hv'⟩ := HRZ.out.1
          have HNX := hide (And.intro hv' (And.intro (HBD.out.trans HRZ.out.2) (HLZ.out.symm.trans HJ.out.2.2)))
          have HMS := hide hv'.at
          clear hv' HRZ HLZ
          go_wp2_with fail
          go_roundw
          case rel => exact ⟨a + sz, v', ts', hide HNX.out, hs2, by omega⟩
          case measure => rw [HMS.out, HAT.out]; omega
        · intro R0 HR
          obtain ⟨_, hx, _, _⟩ := HSD.out.cells
          go_wp2_with fail
          refine HR.out _ _ trivial ?_
          clear HR hx
          refine plan3_run (o := ?_) (by simp only [List.getElem?_toArray, List.getElem?_cons_succ, List.getElem?_cons_zero]; rfl) ?_
          intro R0 HR
          obtain ⟨hx, _, _, _⟩ := HSD.out.cells
          go_wp2_with fail
          refine HR.out _ _ trivial ?_
          clear HR hx
          (refine plan3_take (o := ?_) (v := ?_) (by simp only [List.getElem?_toArray, List.getElem?_cons_succ, List.getElem?_cons_zero]; rfl) (yields_run (by rfl) ?_) ?_; rotate_left; (focus (intro w' _; go_simp <;> with_reducible rfl)); (simp only [Act.put, List.setIfInBounds_toArray, List.set_cons_zero, List.set_cons_succ]))
          refine plan3_run (o := ?_) (by simp only [List.getElem?_toArray, List.getElem?_cons_succ, List.getElem?_cons_zero]; rfl) ?_
          intro R0 HR
          go_wp2_with fail
          have hco := classOf_any c Wd HSD.out.tab
          rw [HCC.out] at hco
          refine hco.mono ?_
          clear hco
          rintro e wz ⟨rfl, rfl⟩
          go_wp2_with fail
          refine HR.out _ _ trivial ?_
          clear HR
          (refine plan3_take (o := ?_) (v := ?_) (by simp only [List.getElem?_toArray, List.getElem?_cons_succ, List.getElem?_cons_zero]; rfl) (yields_run (by rfl) ?_) ?_; rotate_left; (focus (intro w' _; go_simp <;> with_reducible rfl)); (simp only [Act.put, List.setIfInBounds_toArray, List.set_cons_zero, List.set_cons_succ]))
          refine plan3_run (o := ?_) (by simp only [List.getElem?_toArray, List.getElem?_cons_succ, List.getElem?_cons_zero]; rfl) ?_
          intro R0 HR
          have hx : Wd.cell? ⟨S, 6, none⟩ = some (fn 45) := by rw [HSD.out.block.cell]; rfl
          go_wp2_with fail
          refine HR.out _ _ trivial ?_
          clear HR hx
          refine plan3_run (o := ?_) (by simp only [List.getElem?_toArray, List.getElem?_cons_succ, List.getElem?_cons_zero]; rfl) ?_
          intro R0 HR
          go_wp2_with fail
          refine HPO.out.mono ?_
          rintro e wz hz
          rcases hz.two ha with ⟨rfl, hbz, hlz⟩ | ⟨sz, ts', rfl, hrz, hlz, hs1, hs2, hs3⟩
          · have HPA : Hid (AllPost S l w (wrong a) wz) := hide (by unfold AllPost; rw [show lexS l = .error a from HJ.out.2.2.symm.trans hlz]; exact ⟨rfl, HBD.out.trans hbz⟩)
            clear hz hbz hlz
            go_wp2_with fail
            intro a' he
            exact ⟨he, HPA.out⟩
          have HRZ := hide hrz
          have HLZ := hide hlz
          clear hz hrz hlz
          go_wp2_with fail
          refine HR.out _ _ trivial ?_
          clear HR
          refine plan3_donep ?_
          obtain ⟨v', hv'⟩ := HRZ.out.1
          have HNX := hide (And.intro hv' (And.intro (HBD.out.trans HRZ.out.2) (HLZ.out.symm.trans HJ.out.2.2)))
          have HMS := hide hv'.at
          clear hv' HRZ HLZ
          go_wp2_with fail
          go_roundw
          case rel => exact ⟨a + sz, v', ts', hide HNX.out, hs2, by omega⟩
          case measure => rw [HMS.out, HAT.out]; omega
      · have HPO := hide (fun (Wd : World) (HSD : Hid (Sc S l a v ts Wd)) => show Calls Tryd.prog 46 #[.pointer (some ⟨S, 0, none⟩)] Wd (ReadPost S l a ts Wd) from readName_any S l a v ts Wd HSD.out ha hl hts HC.out)
        refine wp_region_plan3p (fun _ => True) (.take 0 (.take 1 (.take 2 (.take 3 (.take 5 (.take 6 (.take 7 (.take 11 (.take 12 (.take 15 (.both 4 (.run 8 (.take 9 (.run 10 (.take 13 (.run 14 (.run 16 .done)))))) 8 (.run 4 (.take 9 (.run 10 (.take 13 (.run 14 (.run 16 .done))))))))))))))))) (by kernel_rfl) (by kernel_rfl) trivial ?_
        refine plan3_named ?_
        intro Wd HWd
        have HSD : Hid (Sc S l a v ts Wd) := by
          have e : Wd = (wr.drewN nq).drew := HWd.out
          subst e
          exact hide HSQ.out.drew
        have HBD : Hid (Below S w Wd) := by
          have e : Wd = (wr.drewN nq).drew := HWd.out
          subst e
          exact hide (HJ.out.2.1.trans (below_dn S _ nq)).drew
        have HPO := hide (HPO.out Wd HSD)
        clear HWd
        (refine plan3_take (o := ?_) (v := ?_) (by simp only [List.getElem?_toArray, List.getElem?_cons_zero]; rfl) (yields_run (by rfl) ?_) ?_; rotate_left; (focus (intro w' _; go_simp <;> with_reducible rfl)); (simp only [Act.put, List.setIfInBounds_toArray, List.set_cons_zero, List.set_cons_succ]))
        (refine plan3_take (o := ?_) (v := ?_) (by simp only [List.getElem?_toArray, List.getElem?_cons_succ, List.getElem?_cons_zero]; rfl) (yields_run (by rfl) ?_) ?_; rotate_left; (focus (intro w' _; go_simp <;> with_reducible rfl)); (simp only [Act.put, List.setIfInBounds_toArray, List.set_cons_zero, List.set_cons_succ]))
        (refine plan3_take (o := ?_) (v := ?_) (by simp only [List.getElem?_toArray, List.getElem?_cons_succ, List.getElem?_cons_zero]; rfl) (yields_run (by rfl) ?_) ?_; rotate_left; (focus (intro w' _; go_simp <;> with_reducible rfl)); (simp only [Act.put, List.setIfInBounds_toArray, List.set_cons_zero, List.set_cons_succ]))
        (refine plan3_take (o := ?_) (v := ?_) (by simp only [List.getElem?_toArray, List.getElem?_cons_succ, List.getElem?_cons_zero]; rfl) (yields_run (by rfl) ?_) ?_; rotate_left; (focus (intro w' _; go_simp <;> with_reducible rfl)); (simp only [Act.put, List.setIfInBounds_toArray, List.set_cons_zero, List.set_cons_succ]))
        (refine plan3_take (o := ?_) (v := ?_) (by simp only [List.getElem?_toArray, List.getElem?_cons_succ, List.getElem?_cons_zero]; rfl) (yields_run (by rfl) ?_) ?_; rotate_left; (focus (intro w' _; go_simp <;> with_reducible rfl)); (simp only [Act.put, List.setIfInBounds_toArray, List.set_cons_zero, List.set_cons_succ]))
        (refine plan3_take (o := ?_) (v := ?_) (by simp only [List.getElem?_toArray, List.getElem?_cons_succ, List.getElem?_cons_zero]; rfl) (yields_run (by rfl) ?_) ?_; rotate_left; (focus (intro w' _; go_simp <;> with_reducible rfl)); (simp only [Act.put, List.setIfInBounds_toArray, List.set_cons_zero, List.set_cons_succ]))
        (refine plan3_take (o := ?_) (v := ?_) (by simp only [List.getElem?_toArray, List.getElem?_cons_succ, List.getElem?_cons_zero]; rfl) (yields_run (by rfl) ?_) ?_; rotate_left; (focus (intro w' _; go_simp <;> with_reducible rfl)); (simp only [Act.put, List.setIfInBounds_toArray, List.set_cons_zero, List.set_cons_succ]))
        (refine plan3_take (o := ?_) (v := ?_) (by simp only [List.getElem?_toArray, List.getElem?_cons_succ, List.getElem?_cons_zero]; rfl) (yields_run (by rfl) ?_) ?_; rotate_left; (focus (intro w' _; go_simp <;> with_reducible rfl)); (simp only [Act.put, List.setIfInBounds_toArray, List.set_cons_zero, List.set_cons_succ]))
        (refine plan3_take (o := ?_) (v := ?_) (by simp only [List.getElem?_toArray, List.getElem?_cons_succ, List.getElem?_cons_zero]; rfl) (yields_run (by rfl) ?_) ?_; rotate_left; (focus (intro w' _; go_simp <;> with_reducible rfl)); (simp only [Act.put, List.setIfInBounds_toArray, List.set_cons_zero, List.set_cons_succ]))
        (refine plan3_take (o := ?_) (v := ?_) (by simp only [List.getElem?_toArray, List.getElem?_cons_succ, List.getElem?_cons_zero]; rfl) (yields_run (by rfl) ?_) ?_; rotate_left; (focus (intro w' _; go_simp <;> with_reducible rfl)); (simp only [Act.put, List.setIfInBounds_toArray, List.set_cons_zero, List.set_cons_succ]))
        refine plan3_both (o1 := ?_) (o2 := ?_) (by simp only [List.getElem?_toArray, List.getElem?_cons_succ, List.getElem?_cons_zero]; rfl) (by simp only [List.getElem?_toArray, List.getElem?_cons_succ, List.getElem?_cons_zero]; rfl) ?_ ?_
        · intro R0 HR
          obtain ⟨hx, _, _, _⟩ := HSD.out.cells
          go_wp2_with fail
          refine HR.out _ _ trivial ?_
          clear HR hx
          refine plan3_run (o := ?_) (by simp only [List.getElem?_toArray, List.getElem?_cons_succ, List.getElem?_cons_zero]; rfl) ?_
          intro R0 HR
          obtain ⟨_, hx, _, _⟩ := HSD.out.cells
          go_wp2_with fail
          refine HR.out _ _ trivial ?_
          clear HR hx
          (refine plan3_take (o := ?_) (v := ?_) (by simp only [List.getElem?_toArray, List.getElem?_cons_succ, List.getElem?_cons_zero]; rfl) (yields_run (by rfl) ?_) ?_; rotate_left; (focus (intro w' _; go_simp <;> with_reducible rfl)); (simp only [Act.put, List.setIfInBounds_toArray, List.set_cons_zero, List.set_cons_succ]))
          refine plan3_run (o := ?_) (by simp only [List.getElem?_toArray, List.getElem?_cons_succ, List.getElem?_cons_zero]; rfl) ?_
          intro R0 HR
          go_wp2_with fail
          have hco := classOf_any c Wd HSD.out.tab
          rw [HCC.out] at hco
          refine hco.mono ?_
          clear hco
          rintro e wz ⟨rfl, rfl⟩
          go_wp2_with fail
          refine HR.out _ _ trivial ?_
          clear HR
          (refine plan3_take (o := ?_) (v := ?_) (by simp only [List.getElem?_toArray, List.getElem?_cons_succ, List.getElem?_cons_zero]; rfl) (yields_run (by rfl) ?_) ?_; rotate_left; (focus (intro w' _; go_simp <;> with_reducible rfl)); (simp only [Act.put, List.setIfInBounds_toArray, List.set_cons_zero, List.set_cons_succ]))
          refine plan3_run (o := ?_) (by simp only [List.getElem?_toArray, List.getElem?_cons_succ, List.getElem?_cons_zero]; rfl) ?_
          intro R0 HR
          have hx : Wd.cell? ⟨S, 7, none⟩ = some (fn 46) := by rw [HSD.out.block.cell]; rfl
          go_wp2_with fail
          refine HR.out _ _ trivial ?_
          clear HR hx
          refine plan3_run (o := ?_) (by simp only [List.getElem?_toArray, List.getElem?_cons_succ, List.getElem?_cons_zero]; rfl) ?_
          intro R0 HR
          go_wp2_with fail
          refine HPO.out.mono ?_
          rintro e wz hz
          rcases hz.two ha with ⟨rfl, hbz, hlz⟩ | ⟨sz, ts', rfl, hrz, hlz, hs1, hs2, hs3⟩
          · have HPA : Hid (AllPost S l w (wrong a) wz) := hide (by unfold AllPost; rw [show lexS l = .error a from HJ.out.2.2.symm.trans hlz]; exact ⟨rfl, HBD.out.trans hbz⟩)
            clear hz hbz hlz
            go_wp2_with fail
            intro a' he
            exact ⟨he, HPA.out⟩
          have HRZ := hide hrz
          have HLZ := hide hlz
          clear hz hrz hlz
          go_wp2_with fail
          refine HR.out _ _ trivial ?_
          clear HR
          refine plan3_donep ?_
          obtain ⟨v', hv'⟩ := HRZ.out.1
          have HNX := hide (And.intro hv' (And.intro (HBD.out.trans HRZ.out.2) (HLZ.out.symm.trans HJ.out.2.2)))
          have HMS := hide hv'.at
          clear hv' HRZ HLZ
          go_wp2_with fail
          go_roundw
          case rel => exact ⟨a + sz, v', ts', hide HNX.out, hs2, by omega⟩
          case measure => rw [HMS.out, HAT.out]; omega
        · intro R0 HR
          obtain ⟨_, hx, _, _⟩ := HSD.out.cells
          go_wp2_with fail
          refine HR.out _ _ trivial ?_
          clear HR hx
          refine plan3_run (o := ?_) (by simp only [List.getElem?_toArray, List.getElem?_cons_succ, List.getElem?_cons_zero]; rfl) ?_
          intro R0 HR
          obtain ⟨hx, _, _, _⟩ := HSD.out.cells
          go_wp2_with fail
          refine HR.out _ _ trivial ?_
          clear HR hx
          (refine plan3_take (o := ?_) (v := ?_) (by simp only [List.getElem?_toArray, List.getElem?_cons_succ, List.getElem?_cons_zero]; rfl) (yields_run (by rfl) ?_) ?_; rotate_left; (focus (intro w' _; go_simp <;> with_reducible rfl)); (simp only [Act.put, List.setIfInBounds_toArray, List.set_cons_zero, List.set_cons_succ]))
          refine plan3_run (o := ?_) (by simp only [List.getElem?_toArray, List.getElem?_cons_succ, List.getElem?_cons_zero]; rfl) ?_
          intro R0 HR
          go_wp2_with fail
          have hco := classOf_any c Wd HSD.out.tab
          rw [HCC.out] at hco
          refine hco.mono ?_
          clear hco
          rintro e wz ⟨rfl, rfl⟩
          go_wp2_with fail
          refine HR.out _ _ trivial ?_
          clear HR
          (refine plan3_take (o := ?_) (v := ?_) (by simp only [List.getElem?_toArray, List.getElem?_cons_succ, List.getElem?_cons_zero]; rfl) (yields_run (by rfl) ?_) ?_; rotate_left; (focus (intro w' _; go_simp <;> with_reducible rfl)); (simp only [Act.put, List.setIfInBounds_toArray, List.set_cons_zero, List.set_cons_succ]))
          refine plan3_run (o := ?_) (by simp only [List.getElem?_toArray, List.getElem?_cons_succ, List.getElem?_cons_zero]; rfl) ?_
          intro R0 HR
          have hx : Wd.cell? ⟨S, 7, none⟩ = some (fn 46) := by rw [HSD.out.block.cell]; rfl
          go_wp2_with fail
          refine HR.out _ _ trivial ?_
          clear HR hx
          refine plan3_run (o := ?_) (by simp only [List.getElem?_toArray, List.getElem?_cons_succ, List.getElem?_cons_zero]; rfl) ?_
          intro R0 HR
          go_wp2_with fail
          refine HPO.out.mono ?_
          rintro e wz hz
          rcases hz.two ha with ⟨rfl, hbz, hlz⟩ | ⟨sz, ts', rfl, hrz, hlz, hs1, hs2, hs3⟩
          · have HPA : Hid (AllPost S l w (wrong a) wz) := hide (by unfold AllPost; rw [show lexS l = .error a from HJ.out.2.2.symm.trans hlz]; exact ⟨rfl, HBD.out.trans hbz⟩)
            clear hz hbz hlz
            go_wp2_with fail
            intro a' he
            exact ⟨he, HPA.out⟩
          have HRZ := hide hrz
          have HLZ := hide hlz
          clear hz hrz hlz
          go_wp2_with fail
          refine HR.out _ _ trivial ?_
          clear HR
          refine plan3_donep ?_
          obtain ⟨v', hv'⟩ := HRZ.out.1
          have HNX := hide (And.intro hv' (And.intro (HBD.out.trans HRZ.out.2) (HLZ.out.symm.trans HJ.out.2.2)))
          have HMS := hide hv'.at
          clear hv' HRZ HLZ
          go_wp2_with fail
          go_roundw
          case rel => exact ⟨a + sz, v', ts', hide HNX.out, hs2, by omega⟩
          case measure => rw [HMS.out, HAT.out]; omega
      · have HPO := hide (fun (Wd : World) (HSD : Hid (Sc S l a v ts Wd)) => show Calls Tryd.prog 42 #[.pointer (some ⟨S, 0, none⟩)] Wd (ReadPost S l a ts Wd) from refuse_post S l a v ts Wd HSD.out ha (.inr HC.out))
        refine wp_region_plan3p (fun _ => True) (.take 0 (.take 1 (.take 2 (.take 3 (.take 5 (.take 6 (.take 7 (.take 11 (.take 12 (.take 15 (.both 4 (.run 8 (.take 9 (.run 10 (.take 13 (.run 14 (.run 16 .done)))))) 8 (.run 4 (.take 9 (.run 10 (.take 13 (.run 14 (.run 16 .done))))))))))))))))) (by kernel_rfl) (by kernel_rfl) trivial ?_
        refine plan3_named ?_
        intro Wd HWd
        have HSD : Hid (Sc S l a v ts Wd) := by
          have e : Wd = (wr.drewN nq).drew := HWd.out
          subst e
          exact hide HSQ.out.drew
        have HBD : Hid (Below S w Wd) := by
          have e : Wd = (wr.drewN nq).drew := HWd.out
          subst e
          exact hide (HJ.out.2.1.trans (below_dn S _ nq)).drew
        have HPO := hide (HPO.out Wd HSD)
        clear HWd
        (refine plan3_take (o := ?_) (v := ?_) (by simp only [List.getElem?_toArray, List.getElem?_cons_zero]; rfl) (yields_run (by rfl) ?_) ?_; rotate_left; (focus (intro w' _; go_simp <;> with_reducible rfl)); (simp only [Act.put, List.setIfInBounds_toArray, List.set_cons_zero, List.set_cons_succ]))
        (refine plan3_take (o := ?_) (v := ?_) (by simp only [List.getElem?_toArray, List.getElem?_cons_succ, List.getElem?_cons_zero]; rfl) (yields_run (by rfl) ?_) ?_; rotate_left; (focus (intro w' _; go_simp <;> with_reducible rfl)); (simp only [Act.put, List.setIfInBounds_toArray, List.set_cons_zero, List.set_cons_succ]))
        (refine plan3_take (o := ?_) (v := ?_) (by simp only [List.getElem?_toArray, List.getElem?_cons_succ, List.getElem?_cons_zero]; rfl) (yields_run (by rfl) ?_) ?_; rotate_left; (focus (intro w' _; go_simp <;> with_reducible rfl)); (simp only [Act.put, List.setIfInBounds_toArray, List.set_cons_zero, List.set_cons_succ]))
        (refine plan3_take (o := ?_) (v := ?_) (by simp only [List.getElem?_toArray, List.getElem?_cons_succ, List.getElem?_cons_zero]; rfl) (yields_run (by rfl) ?_) ?_; rotate_left; (focus (intro w' _; go_simp <;> with_reducible rfl)); (simp only [Act.put, List.setIfInBounds_toArray, List.set_cons_zero, List.set_cons_succ]))
        (refine plan3_take (o := ?_) (v := ?_) (by simp only [List.getElem?_toArray, List.getElem?_cons_succ, List.getElem?_cons_zero]; rfl) (yields_run (by rfl) ?_) ?_; rotate_left; (focus (intro w' _; go_simp <;> with_reducible rfl)); (simp only [Act.put, List.setIfInBounds_toArray, List.set_cons_zero, List.set_cons_succ]))
        (refine plan3_take (o := ?_) (v := ?_) (by simp only [List.getElem?_toArray, List.getElem?_cons_succ, List.getElem?_cons_zero]; rfl) (yields_run (by rfl) ?_) ?_; rotate_left; (focus (intro w' _; go_simp <;> with_reducible rfl)); (simp only [Act.put, List.setIfInBounds_toArray, List.set_cons_zero, List.set_cons_succ]))
        (refine plan3_take (o := ?_) (v := ?_) (by simp only [List.getElem?_toArray, List.getElem?_cons_succ, List.getElem?_cons_zero]; rfl) (yields_run (by rfl) ?_) ?_; rotate_left; (focus (intro w' _; go_simp <;> with_reducible rfl)); (simp only [Act.put, List.setIfInBounds_toArray, List.set_cons_zero, List.set_cons_succ]))
        (refine plan3_take (o := ?_) (v := ?_) (by simp only [List.getElem?_toArray, List.getElem?_cons_succ, List.getElem?_cons_zero]; rfl) (yields_run (by rfl) ?_) ?_; rotate_left; (focus (intro w' _; go_simp <;> with_reducible rfl)); (simp only [Act.put, List.setIfInBounds_toArray, List.set_cons_zero, List.set_cons_succ]))
        (refine plan3_take (o := ?_) (v := ?_) (by simp only [List.getElem?_toArray, List.getElem?_cons_succ, List.getElem?_cons_zero]; rfl) (yields_run (by rfl) ?_) ?_; rotate_left; (focus (intro w' _; go_simp <;> with_reducible rfl)); (simp only [Act.put, List.setIfInBounds_toArray, List.set_cons_zero, List.set_cons_succ]))
        (refine plan3_take (o := ?_) (v := ?_) (by simp only [List.getElem?_toArray, List.getElem?_cons_succ, List.getElem?_cons_zero]; rfl) (yields_run (by rfl) ?_) ?_; rotate_left; (focus (intro w' _; go_simp <;> with_reducible rfl)); (simp only [Act.put, List.setIfInBounds_toArray, List.set_cons_zero, List.set_cons_succ]))
        refine plan3_both (o1 := ?_) (o2 := ?_) (by simp only [List.getElem?_toArray, List.getElem?_cons_succ, List.getElem?_cons_zero]; rfl) (by simp only [List.getElem?_toArray, List.getElem?_cons_succ, List.getElem?_cons_zero]; rfl) ?_ ?_
        · intro R0 HR
          obtain ⟨hx, _, _, _⟩ := HSD.out.cells
          go_wp2_with fail
          refine HR.out _ _ trivial ?_
          clear HR hx
          refine plan3_run (o := ?_) (by simp only [List.getElem?_toArray, List.getElem?_cons_succ, List.getElem?_cons_zero]; rfl) ?_
          intro R0 HR
          obtain ⟨_, hx, _, _⟩ := HSD.out.cells
          go_wp2_with fail
          refine HR.out _ _ trivial ?_
          clear HR hx
          (refine plan3_take (o := ?_) (v := ?_) (by simp only [List.getElem?_toArray, List.getElem?_cons_succ, List.getElem?_cons_zero]; rfl) (yields_run (by rfl) ?_) ?_; rotate_left; (focus (intro w' _; go_simp <;> with_reducible rfl)); (simp only [Act.put, List.setIfInBounds_toArray, List.set_cons_zero, List.set_cons_succ]))
          refine plan3_run (o := ?_) (by simp only [List.getElem?_toArray, List.getElem?_cons_succ, List.getElem?_cons_zero]; rfl) ?_
          intro R0 HR
          go_wp2_with fail
          have hco := classOf_any c Wd HSD.out.tab
          rw [HCC.out] at hco
          refine hco.mono ?_
          clear hco
          rintro e wz ⟨rfl, rfl⟩
          go_wp2_with fail
          refine HR.out _ _ trivial ?_
          clear HR
          (refine plan3_take (o := ?_) (v := ?_) (by simp only [List.getElem?_toArray, List.getElem?_cons_succ, List.getElem?_cons_zero]; rfl) (yields_run (by rfl) ?_) ?_; rotate_left; (focus (intro w' _; go_simp <;> with_reducible rfl)); (simp only [Act.put, List.setIfInBounds_toArray, List.set_cons_zero, List.set_cons_succ]))
          refine plan3_run (o := ?_) (by simp only [List.getElem?_toArray, List.getElem?_cons_succ, List.getElem?_cons_zero]; rfl) ?_
          intro R0 HR
          have hx : Wd.cell? ⟨S, 8, none⟩ = some (fn 42) := by rw [HSD.out.block.cell]; rfl
          go_wp2_with fail
          refine HR.out _ _ trivial ?_
          clear HR hx
          refine plan3_run (o := ?_) (by simp only [List.getElem?_toArray, List.getElem?_cons_succ, List.getElem?_cons_zero]; rfl) ?_
          intro R0 HR
          go_wp2_with fail
          refine HPO.out.mono ?_
          rintro e wz hz
          rcases hz.two ha with ⟨rfl, hbz, hlz⟩ | ⟨sz, ts', rfl, hrz, hlz, hs1, hs2, hs3⟩
          · have HPA : Hid (AllPost S l w (wrong a) wz) := hide (by unfold AllPost; rw [show lexS l = .error a from HJ.out.2.2.symm.trans hlz]; exact ⟨rfl, HBD.out.trans hbz⟩)
            clear hz hbz hlz
            go_wp2_with fail
            intro a' he
            exact ⟨he, HPA.out⟩
          have HRZ := hide hrz
          have HLZ := hide hlz
          clear hz hrz hlz
          go_wp2_with fail
          refine HR.out _ _ trivial ?_
          clear HR
          refine plan3_donep ?_
          obtain ⟨v', hv'⟩ := HRZ.out.1
          have HNX := hide (And.intro hv' (And.intro (HBD.out.trans HRZ.out.2) (HLZ.out.symm.trans HJ.out.2.2)))
          have HMS := hide hv'.at
          clear hv' HRZ HLZ
          go_wp2_with fail
          go_roundw
          case rel => exact ⟨a + sz, v', ts', hide HNX.out, hs2, by omega⟩
          case measure => rw [HMS.out, HAT.out]; omega
        · intro R0 HR
          obtain ⟨_, hx, _, _⟩ := HSD.out.cells
          go_wp2_with fail
          refine HR.out _ _ trivial ?_
          clear HR hx
          refine plan3_run (o := ?_) (by simp only [List.getElem?_toArray, List.getElem?_cons_succ, List.getElem?_cons_zero]; rfl) ?_
          intro R0 HR
          obtain ⟨hx, _, _, _⟩ := HSD.out.cells
          go_wp2_with fail
          refine HR.out _ _ trivial ?_
          clear HR hx
          (refine plan3_take (o := ?_) (v := ?_) (by simp only [List.getElem?_toArray, List.getElem?_cons_succ, List.getElem?_cons_zero]; rfl) (yields_run (by rfl) ?_) ?_; rotate_left; (focus (intro w' _; go_simp <;> with_reducible rfl)); (simp only [Act.put, List.setIfInBounds_toArray, List.set_cons_zero, List.set_cons_succ]))
          refine plan3_run (o := ?_) (by simp only [List.getElem?_toArray, List.getElem?_cons_succ, List.getElem?_cons_zero]; rfl) ?_
          intro R0 HR
          go_wp2_with fail
          have hco := classOf_any c Wd HSD.out.tab
          rw [HCC.out] at hco
          refine hco.mono ?_
          clear hco
          rintro e wz ⟨rfl, rfl⟩
          go_wp2_with fail
          refine HR.out _ _ trivial ?_
          clear HR
          (refine plan3_take (o := ?_) (v := ?_) (by simp only [List.getElem?_toArray, List.getElem?_cons_succ, List.getElem?_cons_zero]; rfl) (yields_run (by rfl) ?_) ?_; rotate_left; (focus (intro w' _; go_simp <;> with_reducible rfl)); (simp only [Act.put, List.setIfInBounds_toArray, List.set_cons_zero, List.set_cons_succ]))
          refine plan3_run (o := ?_) (by simp only [List.getElem?_toArray, List.getElem?_cons_succ, List.getElem?_cons_zero]; rfl) ?_
          intro R0 HR
          have hx : Wd.cell? ⟨S, 8, none⟩ = some (fn 42) := by rw [HSD.out.block.cell]; rfl
          go_wp2_with fail
          refine HR.out _ _ trivial ?_
          clear HR hx
          refine plan3_run (o := ?_) (by simp only [List.getElem?_toArray, List.getElem?_cons_succ, List.getElem?_cons_zero]; rfl) ?_
          intro R0 HR
          go_wp2_with fail
          refine HPO.out.mono ?_
          rintro e wz hz
          rcases hz.two ha with ⟨rfl, hbz, hlz⟩ | ⟨sz, ts', rfl, hrz, hlz, hs1, hs2, hs3⟩
          · have HPA : Hid (AllPost S l w (wrong a) wz) := hide (by unfold AllPost; rw [show lexS l = .error a from HJ.out.2.2.symm.trans hlz]; exact ⟨rfl, HBD.out.trans hbz⟩)
            clear hz hbz hlz
            go_wp2_with fail
            intro a' he
            exact ⟨he, HPA.out⟩
          have HRZ := hide hrz
          have HLZ := hide hlz
          clear hz hrz hlz
          go_wp2_with fail
          refine HR.out _ _ trivial ?_
          clear HR
          refine plan3_donep ?_
          obtain ⟨v', hv'⟩ := HRZ.out.1
          have HNX := hide (And.intro hv' (And.intro (HBD.out.trans HRZ.out.2) (HLZ.out.symm.trans HJ.out.2.2)))
          have HMS := hide hv'.at
          clear hv' HRZ HLZ
          go_wp2_with fail
          go_roundw
          case rel => exact ⟨a + sz, v', ts', hide HNX.out, hs2, by omega⟩
          case measure => rw [HMS.out, HAT.out]; omega
    · obtain rfl : a = l.length := by omega
      have HE := hide (show lexS l = .ok ts by have := HJ.out.2.2; rw [← this, Nat.sub_self]; rfl)
      go_wp2_with fail
      go_quiet (fail)
      go_wp2_with fail
      go_end0
      unfold AllPost
      rw [HE.out]
      exact ⟨rfl, ⟨_, HJ.out.1.drewN nq⟩, HJ.out.2.1.trans (below_dn S _ nq)⟩
end Go.Proofs.YtemapfhiiefieaaDoor
