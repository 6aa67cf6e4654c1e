/- The pairs that are cut: valid? -/
import Derived.Test.YthmaakiibgdigaaApt
import Derived.Test.YthmaakiibgdigaaQue
namespace Go.Proofs.Ythmaakiibgdigaa
open Go.RowKit
variable {ok : Nat → Prop}

theorem stepB_zero (l : List (Int × Int)) (h : 0 < l.length) : stepB l 0 = okPr l[0] := by
  simp [stepB, List.getD_eq_getElem?_getD, h]
theorem stepB_succ (l : List (Int × Int)) (m : Nat) (h : m + 1 < l.length) : stepB l (m + 1) = (okPr l[m + 1] && ltPr l[m] l[m + 1]) := by
  have h' : m < l.length := by omega
  simp [stepB, List.getD_eq_getElem?_getD, h, h']
theorem stepB_bad (l : List (Int × Int)) (k : Nat) (h : k < l.length) (hb : okPr l[k] = false) : stepB l k = false := by
  simp [stepB, List.getD_eq_getElem?_getD, h, hb]

set_option maxRecDepth 10000 in
set_option maxHeartbeats 1600000 in
theorem apart_any (A : Option Addr) (l : List (Int × Int)) (cap : Nat) (w : World) (hi : PrsIn ok ⟨A, l, cap⟩ w) : Calls Try.prog 32 #[.slice A l.length cap] w fun e w' => e = .returned (.bool (apB l)) ∧ Below w.heap.size w w' := by
  have HI := hide hi
  have hle : l.length ≤ cap := hi.a.le
  have hcap : cap ≤ 9223372036854775807 := hi.a.top
  have HIFF := hide (apB_iff (l := l))
  clear hi
  go_enter Try.func32, Try.ntmps32
  go_wp2_with fail
  go_loopw [7, 4, 3] (fun i _ _ wr => ∃ k : Nat, k ≤ l.length ∧ i = .int .i64 k ∧ Hid (∀ j, j < k → stepB l j = true) ∧ Hid (Below w.heap.size w wr)) (fun i _ _ _ => l.length - (intOf i).toNat)
  case atStart => exact ⟨0, Nat.zero_le _, rfl, hide (by intros; omega), hide (Below.refl _ _)⟩
  case round =>
    obtain ⟨k, hk, rfl, hw, hb⟩ := hrel
    by_cases hlt : k < l.length
    · obtain ⟨b, o, hA, hb0, c0, c1⟩ := (HI.out.below hb.out).at hlt
      simp only at hA
      subst hA
      have HOK := hide (show stepB l k = false → apB l = false from fun h => bool_false fun h2 => by rw [HIFF.out.1 h2 k hlt] at h; cases h)
      have HW := hide (show stepB l k = true → ∀ j, j < k + 1 → stepB l j = true from fun hp j hj => by
        by_cases e : j = k
        · subst e; exact hp
        · exact hw.out j (by omega))
      have HPV := hide (show ∀ m, k = m + 1 → ∃ p1 p2 : Int, l.getD m (0, 0) = (p1, p2) ∧ wr.cell? ⟨b, o + m * 2, none⟩ = some (.int .i64 p1) ∧ wr.cell? ⟨b, o + m * 2 + 1, none⟩ = some (.int .i64 p2) from fun m e => by
        have hm : m < l.length := by omega
        obtain ⟨b', o', hA', _, c0', c1'⟩ := (HI.out.below hb.out).at hm
        injection hA' with hA'
        injection hA' with h1 h2
        subst h1 h2
        exact ⟨_, _, by simp [List.getD_eq_getElem?_getD, hm], c0', c1'⟩)
      have HSZ := hide (stepB_zero l)
      have HSS := hide (stepB_succ l)
      have HSB := hide (stepB_bad l k hlt)
      have HG := hide (show l.getD k (0, 0) = l[k] by simp [List.getD_eq_getElem?_getD, hlt])
      rcases hq : l[k] with ⟨q1, q2⟩
      rw [hq] at c0 c1 HG
      simp only at c0 c1
      have HOP := hide (show okPr (q1, q2) = (partB q1 q2 && decide (q1 ≤ q2)) from rfl)
      have HSB2 := hide (show okPr (q1, q2) = false → apB l = false from fun h => HOK.out (HSB.out (by rw [hq]; exact h)))
      have HQ := hide hq
      clear hq HSB
      have HB1 := hide (below_one hb.out (below_new wr (.cells #[.int .i64 q1, .int .i64 q2] 55)))
      have HBX0 := hide (Blk.new wr 55 [.int .i64 q1, .int .i64 q2])
      cases hp : partB q1 q2 with
      | false =>
        have HF := hide (HSB2.out (by rw [HOP.out, hp]; rfl))
        have HC := hide (fun W => parties_is hp W)
        clear hp
        go_wp2_with fail
        refine (HC.out _).mono ?_
        rintro e w2 ⟨rfl, rfl⟩
        go_wp2_with fail
        go_ret
        exact ⟨by rw [HF.out]; rfl, HB1.out⟩
      | true =>
        have HC := hide (fun W => parties_is hp W)
        by_cases hle2 : q1 ≤ q2
        · have HOT := hide (show okPr (q1, q2) = true by rw [HOP.out, hp]; simp [hle2])
          have hnl : decide (q2 < q1) = false := by simp; omega
          clear hp hle2
          by_cases hz : k = 0
          · have HT := hide (show stepB l k = true by subst hz; rw [HSZ.out hlt, HQ.out, HOT.out])
            subst hz
            simp only [Nat.zero_mul, Nat.add_zero] at c0 c1
            go_wp2_with fail
            refine (HC.out _).mono ?_
            rintro e w2 ⟨rfl, rfl⟩
            go_wp2_with fail
            go_quiet (fail)
            go_wp2_with fail
            go_roundw
            case rel => exact ⟨1, by omega, rfl, hide (HW.out HT.out), hide (below_drewN HB1.out _)⟩
            case measure => simp [intOf]; omega
          · obtain ⟨m, rfl⟩ : ∃ m, k = m + 1 := ⟨k - 1, by omega⟩
            obtain ⟨p1, p2, hpv, e0, e1⟩ := HPV.out m rfl
            have HT := hide (show stepB l (m + 1) = ltPr (p1, p2) (q1, q2) by
              have hm : m < l.length := by omega
              rw [HSS.out m hlt, HQ.out, HOT.out, Bool.true_and]
              have : l[m] = (p1, p2) := by rw [← hpv]; simp [List.getD_eq_getElem?_getD, hm]
              rw [this])
            have HCV := hide (cmpP_lt (p := (p1, p2)) (q := (q1, q2)))
            have HCL := hide (And.intro e0 e1)
            clear hz hpv e0 e1
            have hwr : IntKind.i64.wrap (m : Int) = (m : Int) := IntWalk.i64_in _ (by omega)
            have hgt : decide ((0 : Int) < ((m + 1 : Nat) : Int)) = true := decide_eq_true (by omega)
            have hgt2 : (0 : Int) < ((m + 1 : Nat) : Int) := by omega
            have hml : (m : Int) < (l.length : Int) := by omega
            go_wp2_with fail
            refine (HC.out _).mono ?_
            rintro e w2 ⟨rfl, rfl⟩
            go_wp2_with fail
            have HBX := hide (show wr.heap.size < (wr.alloc (.cells #[.int .i64 q1, .int .i64 q2] 55)).heap.size ∧ _ ∧ _ from ⟨by simp, HBX0.out.c2⟩)
            have HCL2 := hide (And.intro (((below_new wr (.cells #[.int .i64 q1, .int .i64 q2] 55)).cell (p := ⟨b, o + m * 2, none⟩) hb0).trans HCL.out.1) (((below_new wr (.cells #[.int .i64 q1, .int .i64 q2] 55)).cell (p := ⟨b, o + m * 2 + 1, none⟩) hb0).trans HCL.out.2))
            clear HCL
            have HCL := HCL2
            clear HCL2
            have HBL := hide (show b < (wr.alloc (.cells #[.int .i64 q1, .int .i64 q2] 55)).heap.size by simp; omega)
            clear HBX0
            generalize hw2 : (wr.alloc (.cells #[.int .i64 q1, .int .i64 q2] 55)) = w2 at *
            clear hw2
            refine wp_region_plan3 (fun w' => Below w2.heap.size w2 w') (.take 0 (.take 1 (.take 2 (.take 3 (.take 4 (.take 5 (.take 6 (.take 7 (.take 8 (.run 9 (.take 10 (.take 11 .done)))))))))))) (by kernel_rfl) (by kernel_rfl) ((Below.refl _ _).drew) ?_
            have HF0 := hide (show Below w2.heap.size w2 w2.drew from (Below.refl _ _).drew)
            generalize w2.drew = wD at HF0 ⊢
            (refine plan3_take (o := ?_) (v := ?_) (by simp only [List.getElem?_toArray, List.getElem?_cons_zero]; rfl) (yields_run (by rfl) ?_) ?_; rotate_left; (focus (intro w' hw'; skip; go_simp <;> with_reducible rfl)); (simp only [Act.put, List.setIfInBounds_toArray, List.set_cons_zero, List.set_cons_succ]))
            (refine plan3_take (o := ?_) (v := ?_) (by simp only [List.getElem?_toArray, List.getElem?_cons_succ, List.getElem?_cons_zero]; rfl) (yields_run (by rfl) ?_) ?_; rotate_left; (focus (intro w' hw'; skip; go_simp <;> with_reducible rfl)); (simp only [Act.put, List.setIfInBounds_toArray, List.set_cons_zero, List.set_cons_succ]))
            (refine plan3_take (o := ?_) (v := ?_) (by simp only [List.getElem?_toArray, List.getElem?_cons_succ, List.getElem?_cons_zero]; rfl) (yields_run (by rfl) ?_) ?_; rotate_left; (focus (intro w' hw'; skip; go_simp <;> with_reducible rfl)); (simp only [Act.put, List.setIfInBounds_toArray, List.set_cons_zero, List.set_cons_succ]))
            (refine plan3_take (o := ?_) (v := ?_) (by simp only [List.getElem?_toArray, List.getElem?_cons_succ, List.getElem?_cons_zero]; rfl) (yields_run (by rfl) ?_) ?_; rotate_left; (focus (intro w' hw'; skip; go_simp <;> with_reducible rfl)); (simp only [Act.put, List.setIfInBounds_toArray, List.set_cons_zero, List.set_cons_succ]))
            (refine plan3_take (o := ?_) (v := ?_) (by simp only [List.getElem?_toArray, List.getElem?_cons_succ, List.getElem?_cons_zero]; rfl) (yields_run (by rfl) ?_) ?_; rotate_left; (focus (intro w' hw'; skip; go_simp <;> with_reducible rfl)); (simp only [Act.put, List.setIfInBounds_toArray, List.set_cons_zero, List.set_cons_succ]))
            (refine plan3_take (o := ?_) (v := ?_) (by simp only [List.getElem?_toArray, List.getElem?_cons_succ, List.getElem?_cons_zero]; rfl) (yields_run (by rfl) ?_) ?_; rotate_left; (focus (intro w' hw'; skip; go_simp <;> with_reducible rfl)); (simp only [Act.put, List.setIfInBounds_toArray, List.set_cons_zero, List.set_cons_succ]))
            (refine plan3_take (o := ?_) (v := ?_) (by simp only [List.getElem?_toArray, List.getElem?_cons_succ, List.getElem?_cons_zero]; rfl) (yields_run (by rfl) ?_) ?_; rotate_left; (focus (intro w' hw'; skip; go_simp <;> with_reducible rfl)); (simp only [Act.put, List.setIfInBounds_toArray, List.set_cons_zero, List.set_cons_succ]))
            (refine plan3_take (o := ?_) (v := ?_) (by simp only [List.getElem?_toArray, List.getElem?_cons_succ, List.getElem?_cons_zero]; rfl) (yields_run (by rfl) ?_) ?_; rotate_left; (focus (intro w' hw'; have d0 := (hw'.cell (p := ⟨b, o + m * 2, none⟩) HBL.out).trans HCL.out.1; have d1 := (hw'.cell (p := ⟨b, o + m * 2 + 1, none⟩) HBL.out).trans HCL.out.2; have d2 := (hw'.cell (p := ⟨wr.heap.size, 0, none⟩) HBX.out.1).trans HBX.out.2.1; have d3 := (hw'.cell (p := ⟨wr.heap.size, 1, none⟩) HBX.out.1).trans HBX.out.2.2; go_simp <;> with_reducible rfl)); (simp only [Act.put, List.setIfInBounds_toArray, List.set_cons_zero, List.set_cons_succ]))
            (refine plan3_take (o := ?_) (v := ?_) (by simp only [List.getElem?_toArray, List.getElem?_cons_succ, List.getElem?_cons_zero]; rfl) (yields_run (by rfl) ?_) ?_; rotate_left; (focus (intro w' hw'; have d0 := (hw'.cell (p := ⟨b, o + m * 2, none⟩) HBL.out).trans HCL.out.1; have d1 := (hw'.cell (p := ⟨b, o + m * 2 + 1, none⟩) HBL.out).trans HCL.out.2; have d2 := (hw'.cell (p := ⟨wr.heap.size, 0, none⟩) HBX.out.1).trans HBX.out.2.1; have d3 := (hw'.cell (p := ⟨wr.heap.size, 1, none⟩) HBX.out.1).trans HBX.out.2.2; go_simp <;> with_reducible rfl)); (simp only [Act.put, List.setIfInBounds_toArray, List.set_cons_zero, List.set_cons_succ]))
            refine plan3_run (o := ?_) (by simp only [List.getElem?_toArray, List.getElem?_cons_succ, List.getElem?_cons_zero]; rfl) ?_
            intro R HR
            go_wp2_with fail
            refine (compare_any (p1, p2) (q1, q2) _).mono ?_
            rintro e v9 ⟨rfl, hb⟩
            have HF1 := hide (below_one HF0.out hb)
            clear hb
            go_wp2_with fail
            refine HR.out _ _ HF1.out ?_
            clear HR
            (refine plan3_take (o := ?_) (v := ?_) (by simp only [List.getElem?_toArray, List.getElem?_cons_succ, List.getElem?_cons_zero]; rfl) (yields_run (by rfl) ?_) ?_; rotate_left; (focus (intro w' hw'; skip; go_simp <;> with_reducible rfl)); (simp only [Act.put, List.setIfInBounds_toArray, List.set_cons_zero, List.set_cons_succ]))
            (refine plan3_take (o := ?_) (v := ?_) (by simp only [List.getElem?_toArray, List.getElem?_cons_succ, List.getElem?_cons_zero]; rfl) (yields_run (by rfl) ?_) ?_; rotate_left; (focus (intro w' hw'; skip; go_simp <;> with_reducible rfl)); (simp only [Act.put, List.setIfInBounds_toArray, List.set_cons_zero, List.set_cons_succ]))
            refine plan3_done ?_
            cases hv : ltPr (p1, p2) (q1, q2) with
            | true =>
              have hneg : cmpP (p1, p2) (q1, q2) < 0 := HCV.out.2 hv
              have HST := hide (HT.out.trans hv)
              clear hv
              go_wp2_with fail
              go_roundw
              case rel => exact ⟨m + 1 + 1, by omega, by go_num, hide (HW.out HST.out), hide (below_one HB1.out HF1.out)⟩
              case measure => simp [intOf]; omega
            | false =>
              have hneg : 0 ≤ cmpP (p1, p2) (q1, q2) := by
                have h1 := HCV.out
                rw [hv] at h1
                have h2 : ¬ cmpP (p1, p2) (q1, q2) < 0 := fun h => by simpa using h1.1 h
                omega
              have HF := hide (HOK.out (HT.out.trans hv))
              clear hv
              go_wp2_with fail
              go_ret
              exact ⟨by rw [HF.out]; rfl, below_one HB1.out HF1.out⟩
        · have HF := hide (HSB2.out (by rw [HOP.out, hp]; simp [hle2]))
          have hnl : q2 < q1 := by omega
          clear hp hle2
          go_wp2_with fail
          refine (HC.out _).mono ?_
          rintro e w2 ⟨rfl, rfl⟩
          go_wp2_with fail
          go_ret
          exact ⟨by rw [HF.out]; rfl, HB1.out⟩
    · obtain rfl : k = l.length := by omega
      have HT := hide (show apB l = true from HIFF.out.2 hw.out)
      go_wp2_with fail
      go_ret
      exact ⟨by rw [HT.out]; rfl, hb.out⟩
theorem apart_is {a : Sl (Int × Int)} {b : Bool} (h : apB a.l = b) (w : World) (hi : PrsIn ok a w) : Calls Try.prog 32 #[.slice a.A a.l.length a.cap] w fun e w' => e = .returned (.bool b) ∧ Below w.heap.size w w' := h ▸ apart_any a.A a.l a.cap w hi
end Go.Proofs.Ythmaakiibgdigaa
