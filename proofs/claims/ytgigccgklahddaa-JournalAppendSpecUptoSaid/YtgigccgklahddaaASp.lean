/- JournalAppendSpec: the walk. -/
import Derived.Test.YtgigccgklahddaaSan
import Derived.Test.YtgigccgklahddaaJra
import Derived.Test.YtgigccgklahddaaOpu
namespace Go.Proofs.Ytgigccgklahddaa
open Go.RowKit

set_option maxRecDepth 100000 in
set_option maxHeartbeats 6400000 in
theorem aspec_walk (j : Jr) (b : Sec) (w : World) (hj : j.Came w) (hb : b.In w.heap.size w) (hl : b.l.length ≤ 1048576) :
    Calls Try.prog 4 #[j.v, b.v] w fun e w' => e = .returned (.bool true) ∧ Below w.heap.size w w' := by
  obtain ⟨A2, l2, c2, m2, s2⟩ := j
  have HJ := hide hj
  have HY := hide hb
  have HL := hide hl
  have HBX := hide (Blk.new w 29 [.slice A2 l2.length c2, .int .i64 m2, .int .i64 s2])
  have HW := hide (below_new w (.cells #[.slice A2 l2.length c2, .int .i64 m2, .int .i64 s2] 29))
  have hbc : b.l.length ≤ b.cap := hb.le
  have hbc2 : b.cap ≤ 9223372036854775807 := hb.cap
  clear hj hb hl
  go_enter Try.func4, Try.ntmps4
  go_wp2_with fail
  refine (sane_any _).mono ?_
  rintro e w1 ⟨rfl, hb⟩
  have HF1 := hide (below_one HW.out hb)
  have HB1 := hide (HBX.out.below hb HBX.out.lt)
  clear hb HBX HW
  obtain ⟨q0, q1, q2⟩ := HB1.out.c3
  have HFW := hide (few_any (n0 := 0) Dsk.zero A2 l2 c2 w1 (Dsk.zero_in w1) (fun k h => (HJ.out.recs.below HF1.out).at h) (Nat.le_trans HJ.out.bulk (by decide)))
  generalize hf : fewB Dsk.zero.d (secD l2) = f at HFW
  go_wp2_with fail
  refine HFW.out.mono ?_
  rintro e w2 ⟨rfl, hb⟩
  have HF2 := hide (below_one HF1.out hb)
  have HB2 := hide (HB1.out.below hb HB1.out.lt)
  clear hb HB1 HF1 q0 q1 q2 HFW
  cases f with
  | false =>
    go_wp2_with fail
    go_ret
    exact ⟨rfl, HF2.out⟩
  | true =>
    have HI := hide (HJ.out.in (fewB_iff.1 hf).2.2)
    clear hf HJ
    by_cases h7 : 70000 < b.l.length
    · have h7' : decide ((70000 : Int) < b.l.length) = true := decide_eq_true (by omega)
      go_wp2_with fail
      go_ret
      exact ⟨rfl, HF2.out⟩
    · have h7' : decide ((70000 : Int) < b.l.length) = false := decide_eq_false (by omega)
      obtain ⟨q0, q1, q2⟩ := HB2.out.c3
      have HAP := hide (jappend_any ⟨A2, l2, c2, m2, s2⟩ b w2 (HI.out.below HF2.out) (HY.out.below HF2.out) (Nat.le_trans HL.out (by decide)))
      generalize HX : (Jr.mk A2 l2 c2 m2 s2).k.append b.l = x at HAP
      clear h7
      go_wp2_with fail
      refine HAP.out.mono ?_
      rintro e w3 ⟨⟨A5, l5, c5, m5, s5⟩, rfl, hk, hi, hb⟩
      have HK5 := hide hk
      have HF3 := hide ((below_one HF2.out hb).alloc (below_one HF2.out hb).size (.cells #[.slice A5 l5.length c5, .int .i64 m5, .int .i64 s5] 29))
      have HB3 := hide ((HB2.out.below hb HB2.out.lt).alloc (.cells #[.slice A5 l5.length c5, .int .i64 m5, .int .i64 s5] 29))
      have HB5 := hide (Blk.new w3 29 [.slice A5 l5.length c5, .int .i64 m5, .int .i64 s5])
      have HI5 := hide (hi.below (below_new w3 (.cells #[.slice A5 l5.length c5, .int .i64 m5, .int .i64 s5] 29)))
      clear hk hi hb q0 q1 q2 HAP HB2 HF2
      obtain ⟨q0, q1, q2⟩ := HB3.out.c3
      have HAP := hide (jrappend_any ⟨A2, l2, c2, m2, s2⟩ b _ (HI.out.below HF3.out) (HY.out.below HF3.out) (Nat.le_trans HL.out (by decide)))
      rw [HX] at HAP
      clear HX
      go_wp2_with fail
      refine HAP.out.mono ?_
      rintro e w4 ⟨⟨A7, l7, c7, m7, s7⟩, rfl, hk, hi, hb⟩
      have HK7 := hide hk
      have HF5 := hide ((below_one HF3.out hb).alloc (below_one HF3.out hb).size (.cells #[.slice A7 l7.length c7, .int .i64 m7, .int .i64 s7] 29))
      have HB25 := hide ((HB3.out.below hb HB3.out.lt).alloc (.cells #[.slice A7 l7.length c7, .int .i64 m7, .int .i64 s7] 29))
      have HB55 := hide ((HB5.out.below hb HB5.out.lt).alloc (.cells #[.slice A7 l7.length c7, .int .i64 m7, .int .i64 s7] 29))
      have HB75 := hide (Blk.new w4 29 [.slice A7 l7.length c7, .int .i64 m7, .int .i64 s7])
      have HI55 := hide ((HI5.out.below hb).below (below_new w4 (.cells #[.slice A7 l7.length c7, .int .i64 m7, .int .i64 s7] 29)))
      have HI75 := hide (hi.below (below_new w4 (.cells #[.slice A7 l7.length c7, .int .i64 m7, .int .i64 s7] 29)))
      clear hk hi hb q0 q1 q2 HAP HB3 HF3 HB5 HI5
      go_upto_region 7 with (fail)
      generalize w4.alloc (.cells #[.slice A7 l7.length c7, .int .i64 m7, .int .i64 s7] 29) = w5 at *
      have HCL : Hid (∀ w', Below w5.heap.size w5 w' → w'.cell? ⟨w.heap.size, 0, none⟩ = some (.slice A2 l2.length c2) ∧ w'.cell? ⟨w.heap.size, 1, none⟩ = some (.int .i64 m2) ∧ w'.cell? ⟨w.heap.size, 2, none⟩ = some (.int .i64 s2) ∧ w'.cell? ⟨w3.heap.size, 0, none⟩ = some (.slice A5 l5.length c5) ∧ w'.cell? ⟨w3.heap.size, 1, none⟩ = some (.int .i64 m5) ∧ w'.cell? ⟨w3.heap.size, 2, none⟩ = some (.int .i64 s5) ∧ w'.cell? ⟨w4.heap.size, 0, none⟩ = some (.slice A7 l7.length c7) ∧ w'.cell? ⟨w4.heap.size, 1, none⟩ = some (.int .i64 m7) ∧ w'.cell? ⟨w4.heap.size, 2, none⟩ = some (.int .i64 s7)) := hide fun w' hw' => by
        obtain ⟨a0, a1, a2⟩ := (HB25.out.below hw' HB25.out.lt).c3
        obtain ⟨b0, b1, b2⟩ := (HB55.out.below hw' HB55.out.lt).c3
        obtain ⟨d0, d1, d2⟩ := (HB75.out.below hw' HB75.out.lt).c3
        exact ⟨a0, a1, a2, b0, b1, b2, d0, d1, d2⟩
      have HIW := hide (show ∀ W, Below w5.heap.size w5 W → (Jr.mk A2 l2 c2 m2 s2).In w.heap.size W from fun W hW => HI.out.below (below_one HF5.out hW))
      have HC1 := hide (fun W (hW : Below w5.heap.size w5 W) => jcheck_any (Jr.mk A2 l2 c2 m2 s2) W (HIW.out W hW))
      have HC2 := hide (fun W (hW : Below w5.heap.size w5 W) => jrcheck_any (Jr.mk A2 l2 c2 m2 s2) W (HIW.out W hW))
      have HC3 := hide (fun W (hW : Below w5.heap.size w5 W) => room_any (Jr.mk A2 l2 c2 m2 s2) W (HIW.out W hW))
      have HC4 := hide (fun W (hW : Below w5.heap.size w5 W) => jrroom_any (Jr.mk A2 l2 c2 m2 s2) W (HIW.out W hW))
      have HC5 := hide (fun W (hW : Below w5.heap.size w5 W) => jsame_any (Jr.mk A5 l5 c5 m5 s5) (Jr.mk A7 l7 c7 m7 s7) W (HI55.out.below hW) (HI75.out.below hW))
      rw [HK5.out, HK7.out, sameJ_self] at HC5
      generalize jchk (Jr.mk A2 l2 c2 m2 s2).k = vc at HC1 HC2
      generalize (if (Jr.mk A2 l2 c2 m2 s2).k.ok = true then 112 * ((Jr.mk A2 l2 c2 m2 s2).many - usedB (secD (Jr.mk A2 l2 c2 m2 s2).rs)) else 0) = vr at HC3 HC4
      clear HIW HI55 HI75 HB25 HB55 HB75 HK5 HK7 HI HY HL
      refine wp_region_plan3 (fun w' => Below w5.heap.size w5 w') (.take 0 (.take 2 (.run 1 (.run 3 (.take 4 (.take 5 (.take 6 (.take 8 (.run 7 (.run 9 (.take 10 (.take 11 (.take 12 (.take 13 (.take 14 (.run 15 (.take 16 (.take 17 (.take 18 (.take 19 (.take 20 (.take 21 (.take 22 .done))))))))))))))))))))))) (by kernel_rfl) (by kernel_rfl) ((Below.refl _ _).drew) ?_
      have HB0 := hide (show Below w5.heap.size w5 w5.drew from (Below.refl _ _).drew)
      generalize w5.drew = wD at HB0 ⊢
      (refine plan3_take (o := ?_) (v := ?_) (by simp only [List.getElem?_toArray, List.getElem?_cons_zero]; rfl) (yields_run (by rfl) ?_) ?_; rotate_left; (focus (intro w' hw'; obtain ⟨q0, q1, q2, q3, q4, q5, q6, q7, q8⟩ := HCL.out w' hw'; go_simp <;> with_reducible rfl)); (simp only [Act.put, List.setIfInBounds_toArray, List.set_cons_zero, List.set_cons_succ]))
      (refine plan3_take (o := ?_) (v := ?_) (by simp only [List.getElem?_toArray, List.getElem?_cons_succ, List.getElem?_cons_zero]; rfl) (yields_run (by rfl) ?_) ?_; rotate_left; (focus (intro w' hw'; obtain ⟨q0, q1, q2, q3, q4, q5, q6, q7, q8⟩ := HCL.out w' hw'; go_simp <;> with_reducible rfl)); (simp only [Act.put, List.setIfInBounds_toArray, List.set_cons_zero, List.set_cons_succ]))
      refine plan3_run (o := ?_) (by simp only [List.getElem?_toArray, List.getElem?_cons_succ, List.getElem?_cons_zero]; rfl) ?_
      intro R HR
      go_wp2_with fail
      (with_reducible refine (HC1.out _ HB0.out).mono ?_)
      rintro e v1 ⟨rfl, hb⟩
      have HB1 := hide (below_one HB0.out hb)
      clear hb
      go_wp2_with fail
      refine HR.out _ _ HB1.out ?_
      clear HR
      refine plan3_run (o := ?_) (by simp only [List.getElem?_toArray, List.getElem?_cons_succ, List.getElem?_cons_zero]; rfl) ?_
      intro R HR
      go_wp2_with fail
      (with_reducible refine (HC2.out _ HB1.out).mono ?_)
      rintro e v3 ⟨rfl, hb⟩
      have HB2 := hide (below_one HB1.out hb)
      clear hb
      go_wp2_with fail
      refine HR.out _ _ HB2.out ?_
      clear HR
      (refine plan3_take (o := ?_) (v := ?_) (by simp only [List.getElem?_toArray, List.getElem?_cons_succ, List.getElem?_cons_zero]; rfl) (yields_run (by rfl) ?_) ?_; rotate_left; (focus (intro w' hw'; obtain ⟨q0, q1, q2, q3, q4, q5, q6, q7, q8⟩ := HCL.out w' hw'; go_simp <;> with_reducible rfl)); (simp only [Act.put, List.setIfInBounds_toArray, List.set_cons_zero, List.set_cons_succ]))
      (refine plan3_take (o := ?_) (v := ?_) (by simp only [List.getElem?_toArray, List.getElem?_cons_succ, List.getElem?_cons_zero]; rfl) (yields_run (by rfl) ?_) ?_; rotate_left; (focus (intro w' hw'; obtain ⟨q0, q1, q2, q3, q4, q5, q6, q7, q8⟩ := HCL.out w' hw'; go_simp <;> with_reducible rfl)); (simp only [Act.put, List.setIfInBounds_toArray, List.set_cons_zero, List.set_cons_succ]))
      (refine plan3_take (o := ?_) (v := ?_) (by simp only [List.getElem?_toArray, List.getElem?_cons_succ, List.getElem?_cons_zero]; rfl) (yields_run (by rfl) ?_) ?_; rotate_left; (focus (intro w' hw'; obtain ⟨q0, q1, q2, q3, q4, q5, q6, q7, q8⟩ := HCL.out w' hw'; go_simp <;> with_reducible rfl)); (simp only [Act.put, List.setIfInBounds_toArray, List.set_cons_zero, List.set_cons_succ]))
      (refine plan3_take (o := ?_) (v := ?_) (by simp only [List.getElem?_toArray, List.getElem?_cons_succ, List.getElem?_cons_zero]; rfl) (yields_run (by rfl) ?_) ?_; rotate_left; (focus (intro w' hw'; obtain ⟨q0, q1, q2, q3, q4, q5, q6, q7, q8⟩ := HCL.out w' hw'; go_simp <;> with_reducible rfl)); (simp only [Act.put, List.setIfInBounds_toArray, List.set_cons_zero, List.set_cons_succ]))
      refine plan3_run (o := ?_) (by simp only [List.getElem?_toArray, List.getElem?_cons_succ, List.getElem?_cons_zero]; rfl) ?_
      intro R HR
      go_wp2_with fail
      (with_reducible refine (HC3.out _ HB2.out).mono ?_)
      rintro e v7 ⟨rfl, hb⟩
      have HB3 := hide (below_one HB2.out hb)
      clear hb
      go_wp2_with fail
      refine HR.out _ _ HB3.out ?_
      clear HR
      refine plan3_run (o := ?_) (by simp only [List.getElem?_toArray, List.getElem?_cons_succ, List.getElem?_cons_zero]; rfl) ?_
      intro R HR
      go_wp2_with fail
      (with_reducible refine (HC4.out _ HB3.out).mono ?_)
      rintro e v9 ⟨rfl, hb⟩
      have HB4 := hide (below_one HB3.out hb)
      clear hb
      go_wp2_with fail
      refine HR.out _ _ HB4.out ?_
      clear HR
      (refine plan3_take (o := ?_) (v := ?_) (by simp only [List.getElem?_toArray, List.getElem?_cons_succ, List.getElem?_cons_zero]; rfl) (yields_run (by rfl) ?_) ?_; rotate_left; (focus (intro w' hw'; obtain ⟨q0, q1, q2, q3, q4, q5, q6, q7, q8⟩ := HCL.out w' hw'; go_simp <;> with_reducible rfl)); (simp only [Act.put, List.setIfInBounds_toArray, List.set_cons_zero, List.set_cons_succ]))
      (refine plan3_take (o := ?_) (v := ?_) (by simp only [List.getElem?_toArray, List.getElem?_cons_succ, List.getElem?_cons_zero]; rfl) (yields_run (by rfl) ?_) ?_; rotate_left; (focus (intro w' hw'; obtain ⟨q0, q1, q2, q3, q4, q5, q6, q7, q8⟩ := HCL.out w' hw'; go_simp <;> with_reducible rfl)); (simp only [Act.put, List.setIfInBounds_toArray, List.set_cons_zero, List.set_cons_succ]))
      (refine plan3_take (o := ?_) (v := ?_) (by simp only [List.getElem?_toArray, List.getElem?_cons_succ, List.getElem?_cons_zero]; rfl) (yields_run (by rfl) ?_) ?_; rotate_left; (focus (intro w' hw'; obtain ⟨q0, q1, q2, q3, q4, q5, q6, q7, q8⟩ := HCL.out w' hw'; go_simp <;> with_reducible rfl)); (simp only [Act.put, List.setIfInBounds_toArray, List.set_cons_zero, List.set_cons_succ]))
      (refine plan3_take (o := ?_) (v := ?_) (by simp only [List.getElem?_toArray, List.getElem?_cons_succ, List.getElem?_cons_zero]; rfl) (yields_run (by rfl) ?_) ?_; rotate_left; (focus (intro w' hw'; obtain ⟨q0, q1, q2, q3, q4, q5, q6, q7, q8⟩ := HCL.out w' hw'; go_simp <;> with_reducible rfl)); (simp only [Act.put, List.setIfInBounds_toArray, List.set_cons_zero, List.set_cons_succ]))
      (refine plan3_take (o := ?_) (v := ?_) (by simp only [List.getElem?_toArray, List.getElem?_cons_succ, List.getElem?_cons_zero]; rfl) (yields_run (by rfl) ?_) ?_; rotate_left; (focus (intro w' hw'; obtain ⟨q0, q1, q2, q3, q4, q5, q6, q7, q8⟩ := HCL.out w' hw'; go_simp <;> with_reducible rfl)); (simp only [Act.put, List.setIfInBounds_toArray, List.set_cons_zero, List.set_cons_succ]))
      refine plan3_run (o := ?_) (by simp only [List.getElem?_toArray, List.getElem?_cons_succ, List.getElem?_cons_zero]; rfl) ?_
      intro R HR
      go_wp2_with fail
      (with_reducible refine (HC5.out _ HB4.out).mono ?_)
      rintro e v15 ⟨rfl, hb⟩
      have HB5 := hide (below_one HB4.out hb)
      clear hb
      go_wp2_with fail
      refine HR.out _ _ HB5.out ?_
      clear HR
      (refine plan3_take (o := ?_) (v := ?_) (by simp only [List.getElem?_toArray, List.getElem?_cons_succ, List.getElem?_cons_zero]; rfl) (yields_run (by rfl) ?_) ?_; rotate_left; (focus (intro w' hw'; obtain ⟨q0, q1, q2, q3, q4, q5, q6, q7, q8⟩ := HCL.out w' hw'; go_simp <;> with_reducible rfl)); (simp only [Act.put, List.setIfInBounds_toArray, List.set_cons_zero, List.set_cons_succ]))
      (refine plan3_take (o := ?_) (v := ?_) (by simp only [List.getElem?_toArray, List.getElem?_cons_succ, List.getElem?_cons_zero]; rfl) (yields_run (by rfl) ?_) ?_; rotate_left; (focus (intro w' hw'; obtain ⟨q0, q1, q2, q3, q4, q5, q6, q7, q8⟩ := HCL.out w' hw'; go_simp <;> with_reducible rfl)); (simp only [Act.put, List.setIfInBounds_toArray, List.set_cons_zero, List.set_cons_succ]))
      (refine plan3_take (o := ?_) (v := ?_) (by simp only [List.getElem?_toArray, List.getElem?_cons_succ, List.getElem?_cons_zero]; rfl) (yields_run (by rfl) ?_) ?_; rotate_left; (focus (intro w' hw'; obtain ⟨q0, q1, q2, q3, q4, q5, q6, q7, q8⟩ := HCL.out w' hw'; go_simp <;> with_reducible rfl)); (simp only [Act.put, List.setIfInBounds_toArray, List.set_cons_zero, List.set_cons_succ]))
      (refine plan3_take (o := ?_) (v := ?_) (by simp only [List.getElem?_toArray, List.getElem?_cons_succ, List.getElem?_cons_zero]; rfl) (yields_run (by rfl) ?_) ?_; rotate_left; (focus (intro w' hw'; obtain ⟨q0, q1, q2, q3, q4, q5, q6, q7, q8⟩ := HCL.out w' hw'; go_simp <;> with_reducible rfl)); (simp only [Act.put, List.setIfInBounds_toArray, List.set_cons_zero, List.set_cons_succ]))
      (refine plan3_take (o := ?_) (v := ?_) (by simp only [List.getElem?_toArray, List.getElem?_cons_succ, List.getElem?_cons_zero]; rfl) (yields_run (by rfl) ?_) ?_; rotate_left; (focus (intro w' hw'; obtain ⟨q0, q1, q2, q3, q4, q5, q6, q7, q8⟩ := HCL.out w' hw'; go_simp <;> with_reducible rfl)); (simp only [Act.put, List.setIfInBounds_toArray, List.set_cons_zero, List.set_cons_succ]))
      (refine plan3_take (o := ?_) (v := ?_) (by simp only [List.getElem?_toArray, List.getElem?_cons_succ, List.getElem?_cons_zero]; rfl) (yields_run (by rfl) ?_) ?_; rotate_left; (focus (intro w' hw'; obtain ⟨q0, q1, q2, q3, q4, q5, q6, q7, q8⟩ := HCL.out w' hw'; go_simp <;> with_reducible rfl)); (simp only [Act.put, List.setIfInBounds_toArray, List.set_cons_zero, List.set_cons_succ]))
      (refine plan3_take (o := ?_) (v := ?_) (by simp only [List.getElem?_toArray, List.getElem?_cons_succ, List.getElem?_cons_zero]; rfl) (yields_run (by rfl) ?_) ?_; rotate_left; (focus (intro w' hw'; obtain ⟨q0, q1, q2, q3, q4, q5, q6, q7, q8⟩ := HCL.out w' hw'; go_simp <;> with_reducible rfl)); (simp only [Act.put, List.setIfInBounds_toArray, List.set_cons_zero, List.set_cons_succ]))
      have HBF := HB5
      refine plan3_done ?_
      go_wp2_with fail
      go_ret
      exact ⟨rfl, below_one HF5.out HBF.out⟩
end Go.Proofs.Ytgigccgklahddaa
