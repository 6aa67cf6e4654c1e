/- JournalRoom: the walk. -/
import Derived.Test.YtgigccgklahddaaSan
import Derived.Test.YtgigccgklahddaaJra
import Derived.Test.YtgigccgklahddaaOpu
namespace Go.Proofs.Ytgigccgklahddaa
open Go.RowKit

theorem secN_fits {n : Nat} {L : Int} : (secN n : Int) ≤ L ↔ 1 ≤ L ∧ (n : Int) ≤ 112 * L := by
  unfold secN
  omega
theorem srec_is {n0 n1 : Nat} (A : Option Addr) (l : List Sec) (ca : Nat) (B : Option Addr) (m : List Sec) (cb : Nat) (w : World) (ha : SecsIn n0 A l ca w) (hb : SecsIn n1 B m cb w) (h : secD l = secD m) :
    Calls Try.prog 25 #[.slice A l.length ca, .slice B m.length cb] w fun e w' => e = .returned (.bool true) ∧ Below w.heap.size w w' :=
  (srec_any A l ca B m cb w ha hb).mono fun e w' ⟨h1, n, h2⟩ => ⟨by rw [h1, decide_eq_true h], by rw [h2]; exact below_dn _ _ n⟩

set_option maxRecDepth 100000 in
set_option maxHeartbeats 6400000 in
theorem room_walk (j : Jr) (b : Sec) (w : World) (hj : j.Came w) (hb : b.In w.heap.size w) (hl : b.l.length ≤ 1048576) :
    Calls Try.prog 7 #[j.v, b.v] w fun e w' => e = .returned (.bool true) ∧ Below w.heap.size w w' := by
  obtain ⟨A2, l2, c2, m2, s2⟩ := j
  have HJ := hide hj
  have HY := hide hb
  have HL := hide hl
  have HBX := hide (Blk.new w 29 [.slice A2 l2.length c2, .int .i64 m2, .int .i64 s2])
  have HW := hide (below_new w (.cells #[.slice A2 l2.length c2, .int .i64 m2, .int .i64 s2] 29))
  have hbc : b.l.length ≤ b.cap := hb.le
  have hbc2 : b.cap ≤ 9223372036854775807 := hb.cap
  have hcc : l2.length ≤ c2 := hj.recs.le
  have hcc2 : c2 ≤ 9223372036854775807 := hj.recs.top
  clear hj hb hl
  go_enter Try.func7, Try.ntmps7
  go_wp2_with fail
  refine (sane_any _).mono ?_
  rintro e w1 ⟨rfl, hb⟩
  have HF1 := hide (below_one HW.out hb)
  have HB1 := hide (HBX.out.below hb HBX.out.lt)
  clear hb HBX HW
  obtain ⟨q0, q1, q2⟩ := HB1.out.c3
  have HFW := hide (few_any (n0 := 0) Dsk.zero A2 l2 c2 w1 (Dsk.zero_in w1) (fun k h => (HJ.out.recs.below HF1.out).at h) (Nat.le_trans HJ.out.bulk (by decide)))
  generalize hf : fewB Dsk.zero.d (secD l2) = f at HFW
  go_wp2_with fail
  refine HFW.out.mono ?_
  rintro e w2 ⟨rfl, hb⟩
  have HF2 := hide (below_one HF1.out hb)
  have HB2 := hide (HB1.out.below hb HB1.out.lt)
  clear hb HB1 HF1 q0 q1 q2 HFW
  cases f with
  | false =>
    go_wp2_with fail
    go_ret
    exact ⟨rfl, HF2.out⟩
  | true =>
    have HI := hide (HJ.out.in (fewB_iff.1 hf).2.2)
    clear hf HJ
    by_cases h7 : 70000 < b.l.length
    · have h7' : decide ((70000 : Int) < b.l.length) = true := decide_eq_true (by omega)
      go_wp2_with fail
      go_ret
      exact ⟨rfl, HF2.out⟩
    · have h7' : decide ((70000 : Int) < b.l.length) = false := decide_eq_false (by omega)
      obtain ⟨q0, q1, q2⟩ := HB2.out.c3
      have HCK := hide (jcheck_any ⟨A2, l2, c2, m2, s2⟩ w2 (HI.out.below HF2.out))
      clear h7
      cases hk : (Jr.mk A2 l2 c2 m2 s2).k.ok with
      | false =>
        rw [jchk_no hk] at HCK
        clear hk
        go_wp2_with fail
        refine HCK.out.mono ?_
        rintro e w3 ⟨rfl, hb⟩
        have HF3 := hide (below_one HF2.out hb)
        clear hb
        go_wp2_with fail
        go_ret
        exact ⟨rfl, HF3.out⟩
      | true =>
        rw [jchk_yes hk] at HCK
        obtain ⟨h1, h2, h3, h4, h5⟩ := ok_iff.1 hk
        replace h1 : 1 ≤ m2 := h1
        replace h2 : m2 ≤ 4096 := h2
        replace h3 : 0 ≤ s2 := h3
        replace h4 : s2 ≤ (secD l2).length := h4
        replace h5 : (usedB (secD l2) : Int) ≤ m2 := h5
        have HXF := hide (show (Jr.mk A2 l2 c2 m2 s2).k.append b.l = if m2 - usedB (secD l2) < secN b.l.length then (Jk.zero, 2) else (⟨secD l2 ++ [b.l], m2, s2⟩, 0) by
          unfold Jk.append
          rw [if_pos hk]
          rfl)
        have HRK := hide (show ∀ W, (Jr.mk A2 l2 c2 m2 s2).In w.heap.size W → Calls Try.prog 19 #[.agg #[.slice A2 l2.length c2, .int .i64 m2, .int .i64 s2]] W fun e w' => e = .returned (.int .i64 (112 * (m2 - usedB (secD l2)))) ∧ Below W.heap.size W w' from fun W hW => by
          have := room_any _ W hW
          rwa [if_pos hk] at this)
        clear hk
        go_wp2_with fail
        refine HCK.out.mono ?_
        rintro e w3 ⟨rfl, hb⟩
        have HF3 := hide (below_one HF2.out hb)
        have HB3 := hide (HB2.out.below hb HB2.out.lt)
        clear hb q0 q1 q2 HB2 HF2 HCK
        obtain ⟨q0, q1, q2⟩ := HB3.out.c3
        have HAP := hide (jappend_any ⟨A2, l2, c2, m2, s2⟩ b w3 (HI.out.below HF3.out) (HY.out.below HF3.out) (Nat.le_trans HL.out (by decide)))
        rw [HXF.out] at HAP
        go_wp2_with fail
        refine HAP.out.mono ?_
        rintro e w4 ⟨⟨A5, l5, c5, m5, s5⟩, rfl, hk, hi, hb⟩
        have HK5 := hide hk
        have HF4 := hide ((below_one HF3.out hb).alloc (below_one HF3.out hb).size (.cells #[.slice A5 l5.length c5, .int .i64 m5, .int .i64 s5] 29))
        have HB4 := hide ((HB3.out.below hb HB3.out.lt).alloc (.cells #[.slice A5 l5.length c5, .int .i64 m5, .int .i64 s5] 29))
        have HB5 := hide (Blk.new w4 29 [.slice A5 l5.length c5, .int .i64 m5, .int .i64 s5])
        have HI5 := hide (hi.below (below_new w4 (.cells #[.slice A5 l5.length c5, .int .i64 m5, .int .i64 s5] 29)))
        clear hk hi hb q0 q1 q2 HAP HB3 HF3
        obtain ⟨q0, q1, q2⟩ := HB4.out.c3
        have HRM := hide (HRK.out _ (HI.out.below HF4.out))
        clear HRK
        by_cases hs : m2 - (usedB (secD l2) : Int) < secN b.l.length
        · rw [if_pos hs] at HK5
          obtain ⟨hl5, rfl, rfl⟩ : l5 = [] ∧ m5 = 0 ∧ s5 = 0 := by
            have := HK5.out
            simp only [Jr.k, Jk.zero, Jk.mk.injEq] at this
            exact ⟨List.eq_nil_of_length_eq_zero (by rw [← secD_len, this.1]; rfl), this.2.1, this.2.2⟩
          subst hl5
          simp only [List.length_nil] at HB4 HB5 HF4 HRM q0 q1 q2
          have hno : m2 - (usedB (secD l2) : Int) ≤ 0 ∨ (0 < m2 - (usedB (secD l2) : Int) ∧ 112 * (m2 - (usedB (secD l2) : Int)) < b.l.length) := by
            have := @secN_fits b.l.length (m2 - (usedB (secD l2) : Int))
            omega
          simp only [if_pos hs]
          clear HXF HK5 HI5 h5
          generalize usedB (secD l2) = u at *
          generalize secN b.l.length = sn at *
          have hlen : (0 : Int) ≤ 112 * (m2 - (u : Int)) ∨ 112 * (m2 - (u : Int)) < 0 := by omega
          rcases hno with hno | ⟨hno1, hno2⟩
          · have d1 : decide (0 < 112 * (m2 - (u : Int))) = false := decide_eq_false (by omega)
            generalize 112 * (m2 - (u : Int)) = rm at *
            clear hs hno hlen
            go_wp2_with fail
            refine HRM.out.mono ?_
            rintro e w5 ⟨rfl, hb⟩
            have HF5 := hide (below_one HF4.out hb)
            obtain ⟨r0, -, -⟩ := (HB5.out.below hb HB5.out.lt).c3
            clear hb q0 q1 q2
            go_wp2_with fail
            go_ret
            exact ⟨rfl, HF5.out⟩
          · have d1 : decide (0 < 112 * (m2 - (u : Int))) = true := decide_eq_true (by omega)
            have d2 : decide ((b.l.length : Int) ≤ 112 * (m2 - (u : Int))) = false := decide_eq_false (by omega)
            generalize 112 * (m2 - (u : Int)) = rm at *
            clear hs hno1 hno2 hlen
            go_wp2_with fail
            refine HRM.out.mono ?_
            rintro e w5 ⟨rfl, hb⟩
            have HF5 := hide (below_one HF4.out hb)
            obtain ⟨r0, -, -⟩ := (HB5.out.below hb HB5.out.lt).c3
            clear hb q0 q1 q2
            go_wp2_with fail
            go_ret
            exact ⟨rfl, HF5.out⟩
        · rw [if_neg hs] at HK5
          obtain ⟨hD, rfl, rfl⟩ : secD l5 = secD l2 ++ [b.l] ∧ m5 = m2 ∧ s5 = s2 := by
            have := HK5.out
            simp only [Jr.k, Jk.mk.injEq] at this
            exact this
          have hl5 : l5.length = l2.length + 1 := by rw [← secD_len l5, hD, List.length_append, secD_len]; rfl
          have hnl : l2.length < l5.length := by omega
          have HT := hide (show secD (l5.take l2.length) = secD l2 by
            unfold secD
            rw [List.map_take]
            show (secD l5).take l2.length = secD l2
            rw [hD, List.take_left' (secD_len l2)])
          have HEL := hide (show (l5[l2.length]).l = b.l by
            have e : (secD l5)[l2.length]? = some b.l := by rw [hD, List.getElem?_append_right (by rw [secD_len]; exact Nat.le_refl _), secD_len, Nat.sub_self]; rfl
            rw [List.getElem?_eq_getElem (by rw [secD_len]; exact hnl), secD_get] at e
            exact Option.some.inj e)
          have HOK : Hid ((Jr.mk A5 l5 c5 m5 s5).k.ok = true) := hide (ok_iff.2 ⟨h1, h2, h3, by
            show s5 ≤ ((secD l5).length : Int)
            rw [hD, List.length_append]
            simp only [List.length_singleton]
            omega, by
            show (usedB (secD l5) : Int) ≤ m5
            rw [hD, usedB_app, usedB_one]
            omega⟩)
          have hu5 : usedB (secD l5) = usedB (secD l2) + secN b.l.length := by rw [hD, usedB_app, usedB_one]
          have hfit := (@secN_fits b.l.length (m5 - (usedB (secD l2) : Int))).1 (by omega)
          have d1 : decide (0 < 112 * (m5 - (usedB (secD l2) : Int))) = true := decide_eq_true (by omega)
          have d2 : decide ((b.l.length : Int) ≤ 112 * (m5 - (usedB (secD l2) : Int))) = true := decide_eq_true hfit.2
          have d3 : decide (112 * (m5 - (usedB (secD l5) : Int)) < 112 * (m5 - (usedB (secD l2) : Int))) = true := decide_eq_true (by have := secN_pos b.l.length; omega)
          have hcc5 : l5.length ≤ c5 := HI5.out.recs.le
          have hcc6 : c5 ≤ 9223372036854775807 := HI5.out.recs.top
          simp only [if_neg hs]
          have HL5 := hide hl5
          clear hs hD HXF HK5 hfit hu5 h3 h4 h5 hl5
          generalize 112 * (m5 - (usedB (secD l2) : Int)) = rm at *
          obtain ⟨b5, o5, hA5, hb5, hc5⟩ := HI5.out.recs.at hnl
          have hc5m : l2.length ≤ c5 := by omega
          subst hA5
          go_wp2_with fail
          refine HRM.out.mono ?_
          rintro e w5 ⟨rfl, hb⟩
          have HF5 := hide (below_one HF4.out hb)
          have HB25 := hide (HB4.out.below hb HB4.out.lt)
          have HB55 := hide (HB5.out.below hb HB5.out.lt)
          have HI55 := hide (HI5.out.below hb)
          have HC55 := hide ((hb.cell (p := ⟨b5, o5 + l2.length, none⟩) hb5).trans hc5)
          have HBB := hide (Nat.lt_of_lt_of_le hb5 hb.size)
          clear hb q0 q1 q2 HB4 HF4 HB5 HI5 HRM hb5 hc5
          obtain ⟨q0, q1, q2⟩ := HB25.out.c3
          obtain ⟨q3, q4, q5⟩ := HB55.out.c3
          have HCL : Hid (∀ w', Below w5.heap.size w5 w' → w'.cell? ⟨w.heap.size, 0, none⟩ = some (.slice A2 l2.length c2) ∧ w'.cell? ⟨w.heap.size, 1, none⟩ = some (.int .i64 m5) ∧ w'.cell? ⟨w.heap.size, 2, none⟩ = some (.int .i64 s5) ∧ w'.cell? ⟨w4.heap.size, 0, none⟩ = some (.slice (some ⟨b5, o5, none⟩) (l2.length + 1) c5) ∧ w'.cell? ⟨w4.heap.size, 1, none⟩ = some (.int .i64 m5) ∧ w'.cell? ⟨w4.heap.size, 2, none⟩ = some (.int .i64 s5) ∧ w'.cell? ⟨b5, o5 + l2.length, none⟩ = some (l5[l2.length]).v) := hide fun w' hw' => by
            obtain ⟨a0, a1, a2⟩ := (HB25.out.below hw' HB25.out.lt).c3
            obtain ⟨b0, b1, b2⟩ := (HB55.out.below hw' HB55.out.lt).c3
            rw [HL5.out] at b0
            exact ⟨a0, a1, a2, b0, b1, b2, (hw'.cell (p := ⟨b5, o5 + l2.length, none⟩) HBB.out).trans HC55.out⟩
          have HIW := hide (show ∀ W, Below w5.heap.size w5 W → (Jr.mk A2 l2 c2 m5 s5).In w.heap.size W from fun W hW => HI.out.below (below_one HF5.out hW))
          have HV0 := hide (show ∀ W, Below w5.heap.size w5 W → (convert 35 9 (l5[l2.length]).v).run Try.prog W = .ok (.string (str b.l)) W from fun W hW => by
            have := ((HI55.out.recs.each _ (List.getElem_mem hnl)).below hW).conv
            rwa [HEL.out] at this)
          have HV1 := hide (show ∀ W, Below w5.heap.size w5 W → (convert 35 9 b.v).run Try.prog W = .ok (.string (str b.l)) W from fun W hW => (HY.out.below (below_one HF5.out hW)).conv)
          have HC1 := hide (show ∀ W, Below w5.heap.size w5 W → Calls Try.prog 17 #[.agg #[.slice (some ⟨b5, o5, none⟩) (l2.length + 1) c5, .int .i64 m5, .int .i64 s5]] W fun e w' => e = .returned (.int .i64 0) ∧ Below W.heap.size W w' from fun W hW => by
            have := jcheck_any _ W (HI55.out.below hW)
            rw [jchk_yes HOK.out] at this
            simp only [Jr.v, HL5.out] at this
            exact this)
          have HC3 := hide (show ∀ W, Below w5.heap.size w5 W → Calls Try.prog 19 #[.agg #[.slice (some ⟨b5, o5, none⟩) (l2.length + 1) c5, .int .i64 m5, .int .i64 s5]] W fun e w' => e = .returned (.int .i64 (112 * (m5 - (usedB (secD l5) : Int)))) ∧ Below W.heap.size W w' from fun W hW => by
            have := room_any _ W (HI55.out.below hW)
            rw [if_pos HOK.out] at this
            simp only [Jr.v, HL5.out] at this
            exact this)
          have HC2 := hide (show ∀ W, Below w5.heap.size w5 W → Calls Try.prog 25 #[.slice (some ⟨b5, o5, none⟩) l2.length c5, .slice A2 l2.length c2] W fun e w' => e = .returned (.bool true) ∧ Below W.heap.size W w' from fun W hW => by
            have h0 := (HI55.out.below hW).recs.take l2.length
            have := srec_is _ _ _ A2 l2 c2 W h0 (HIW.out W hW).recs HT.out
            simp only [List.length_take] at this
            rw [Nat.min_eq_left (by have := HL5.out; omega)] at this
            exact this)
          generalize 112 * (m5 - (usedB (secD l5) : Int)) = rx at *
          rw [HL5.out] at q3
          generalize str b.l = sb at HV0 HV1
          clear HIW HI55 HB25 HB55 HI HY HL HT HEL HOK HC55 HBB
          generalize l5[l2.length] = sx at *
          have hc5n : l2.length + 1 ≤ c5 := by have := HL5.out; omega
          clear hcc5 HL5 hnl
          generalize hn1 : l2.length + 1 = n1 at *
          have dn : IntKind.i64.wrap ((l2.length : Int) + 1) = (n1 : Int) := by rw [wrap_i64 _ (by omega) (by omega)]; omega
          have dn2 : (l2.length : Int) < (n1 : Int) := by omega
          have dn3 : l2.length < 9223372036854775807 := by omega
          clear hn1
          go_upto_region 12 with (fail)
          refine wp_region_plan3 (fun w' => Below w5.heap.size w5 w') (.take 0 (.run 1 (.take 2 (.take 3 (.take 4 (.take 5 (.take 6 (.take 7 (.take 8 (.take 9 (.take 10 (.take 11 (.take 12 (.take 13 (.take 14 (.take 15 (.take 16 (.take 17 (.take 18 (.take 19 (.take 20 (.take 21 (.take 22 (.take 23 (.take 24 (.take 25 (.take 26 (.take 27 (.take 28 (.take 29 (.take 30 (.take 31 (.run 32 (.take 33 (.take 34 (.take 35 (.take 36 (.take 37 (.take 38 (.take 39 (.take 40 (.take 41 (.take 42 (.take 43 (.take 44 (.take 45 (.take 46 (.take 48 (.run 47 (.take 49 (.take 50 (.take 51 .done)))))))))))))))))))))))))))))))))))))))))))))))))))) (by kernel_rfl) (by kernel_rfl) ((Below.refl _ _).drew) ?_
          have HB0 := hide (show Below w5.heap.size w5 w5.drew from (Below.refl _ _).drew)
          generalize w5.drew = wD at HB0 ⊢
          (refine plan3_take (o := ?_) (v := ?_) (by simp only [List.getElem?_toArray, List.getElem?_cons_zero]; rfl) (yields_run (by rfl) ?_) ?_; rotate_left; (focus (intro w' hw'; obtain ⟨q0, q1, q2, q3, q4, q5, q6⟩ := HCL.out w' hw'; go_simp <;> with_reducible rfl)); (simp only [Act.put, List.setIfInBounds_toArray, List.set_cons_zero, List.set_cons_succ]))
          refine plan3_run (o := ?_) (by simp only [List.getElem?_toArray, List.getElem?_cons_succ, List.getElem?_cons_zero]; rfl) ?_
          intro R HR
          go_wp2_with fail
          (with_reducible refine (HC1.out _ HB0.out).mono ?_)
          rintro e v1 ⟨rfl, hb⟩
          have HB1 := hide (below_one HB0.out hb)
          clear hb
          go_wp2_with fail
          refine HR.out _ _ HB1.out ?_
          clear HR
          (refine plan3_take (o := ?_) (v := ?_) (by simp only [List.getElem?_toArray, List.getElem?_cons_succ, List.getElem?_cons_zero]; rfl) (yields_run (by rfl) ?_) ?_; rotate_left; (focus (intro w' hw'; obtain ⟨q0, q1, q2, q3, q4, q5, q6⟩ := HCL.out w' hw'; go_simp <;> with_reducible rfl)); (simp only [Act.put, List.setIfInBounds_toArray, List.set_cons_zero, List.set_cons_succ]))
          (refine plan3_take (o := ?_) (v := ?_) (by simp only [List.getElem?_toArray, List.getElem?_cons_succ, List.getElem?_cons_zero]; rfl) (yields_run (by rfl) ?_) ?_; rotate_left; (focus (intro w' hw'; obtain ⟨q0, q1, q2, q3, q4, q5, q6⟩ := HCL.out w' hw'; go_simp <;> with_reducible rfl)); (simp only [Act.put, List.setIfInBounds_toArray, List.set_cons_zero, List.set_cons_succ]))
          (refine plan3_take (o := ?_) (v := ?_) (by simp only [List.getElem?_toArray, List.getElem?_cons_succ, List.getElem?_cons_zero]; rfl) (yields_run (by rfl) ?_) ?_; rotate_left; (focus (intro w' hw'; obtain ⟨q0, q1, q2, q3, q4, q5, q6⟩ := HCL.out w' hw'; go_simp <;> with_reducible rfl)); (simp only [Act.put, List.setIfInBounds_toArray, List.set_cons_zero, List.set_cons_succ]))
          (refine plan3_take (o := ?_) (v := ?_) (by simp only [List.getElem?_toArray, List.getElem?_cons_succ, List.getElem?_cons_zero]; rfl) (yields_run (by rfl) ?_) ?_; rotate_left; (focus (intro w' hw'; obtain ⟨q0, q1, q2, q3, q4, q5, q6⟩ := HCL.out w' hw'; go_simp <;> with_reducible rfl)); (simp only [Act.put, List.setIfInBounds_toArray, List.set_cons_zero, List.set_cons_succ]))
          (refine plan3_take (o := ?_) (v := ?_) (by simp only [List.getElem?_toArray, List.getElem?_cons_succ, List.getElem?_cons_zero]; rfl) (yields_run (by rfl) ?_) ?_; rotate_left; (focus (intro w' hw'; obtain ⟨q0, q1, q2, q3, q4, q5, q6⟩ := HCL.out w' hw'; go_simp <;> with_reducible rfl)); (simp only [Act.put, List.setIfInBounds_toArray, List.set_cons_zero, List.set_cons_succ]))
          (refine plan3_take (o := ?_) (v := ?_) (by simp only [List.getElem?_toArray, List.getElem?_cons_succ, List.getElem?_cons_zero]; rfl) (yields_run (by rfl) ?_) ?_; rotate_left; (focus (intro w' hw'; obtain ⟨q0, q1, q2, q3, q4, q5, q6⟩ := HCL.out w' hw'; go_simp <;> with_reducible rfl)); (simp only [Act.put, List.setIfInBounds_toArray, List.set_cons_zero, List.set_cons_succ]))
          (refine plan3_take (o := ?_) (v := ?_) (by simp only [List.getElem?_toArray, List.getElem?_cons_succ, List.getElem?_cons_zero]; rfl) (yields_run (by rfl) ?_) ?_; rotate_left; (focus (intro w' hw'; obtain ⟨q0, q1, q2, q3, q4, q5, q6⟩ := HCL.out w' hw'; go_simp <;> with_reducible rfl)); (simp only [Act.put, List.setIfInBounds_toArray, List.set_cons_zero, List.set_cons_succ]))
          (refine plan3_take (o := ?_) (v := ?_) (by simp only [List.getElem?_toArray, List.getElem?_cons_succ, List.getElem?_cons_zero]; rfl) (yields_run (by rfl) ?_) ?_; rotate_left; (focus (intro w' hw'; obtain ⟨q0, q1, q2, q3, q4, q5, q6⟩ := HCL.out w' hw'; go_simp <;> with_reducible rfl)); (simp only [Act.put, List.setIfInBounds_toArray, List.set_cons_zero, List.set_cons_succ]))
          (refine plan3_take (o := ?_) (v := ?_) (by simp only [List.getElem?_toArray, List.getElem?_cons_succ, List.getElem?_cons_zero]; rfl) (yields_run (by rfl) ?_) ?_; rotate_left; (focus (intro w' hw'; obtain ⟨q0, q1, q2, q3, q4, q5, q6⟩ := HCL.out w' hw'; go_simp <;> with_reducible rfl)); (simp only [Act.put, List.setIfInBounds_toArray, List.set_cons_zero, List.set_cons_succ]))
          (refine plan3_take (o := ?_) (v := ?_) (by simp only [List.getElem?_toArray, List.getElem?_cons_succ, List.getElem?_cons_zero]; rfl) (yields_run (by rfl) ?_) ?_; rotate_left; (focus (intro w' hw'; obtain ⟨q0, q1, q2, q3, q4, q5, q6⟩ := HCL.out w' hw'; go_simp <;> with_reducible rfl)); (simp only [Act.put, List.setIfInBounds_toArray, List.set_cons_zero, List.set_cons_succ]))
          (refine plan3_take (o := ?_) (v := ?_) (by simp only [List.getElem?_toArray, List.getElem?_cons_succ, List.getElem?_cons_zero]; rfl) (yields_run (by rfl) ?_) ?_; rotate_left; (focus (intro w' hw'; obtain ⟨q0, q1, q2, q3, q4, q5, q6⟩ := HCL.out w' hw'; go_simp <;> with_reducible rfl)); (simp only [Act.put, List.setIfInBounds_toArray, List.set_cons_zero, List.set_cons_succ]))
          (refine plan3_take (o := ?_) (v := ?_) (by simp only [List.getElem?_toArray, List.getElem?_cons_succ, List.getElem?_cons_zero]; rfl) (yields_run (by rfl) ?_) ?_; rotate_left; (focus (intro w' hw'; obtain ⟨q0, q1, q2, q3, q4, q5, q6⟩ := HCL.out w' hw'; go_simp <;> with_reducible rfl)); (simp only [Act.put, List.setIfInBounds_toArray, List.set_cons_zero, List.set_cons_succ]))
          (refine plan3_take (o := ?_) (v := ?_) (by simp only [List.getElem?_toArray, List.getElem?_cons_succ, List.getElem?_cons_zero]; rfl) (yields_run (by rfl) ?_) ?_; rotate_left; (focus (intro w' hw'; obtain ⟨q0, q1, q2, q3, q4, q5, q6⟩ := HCL.out w' hw'; go_simp <;> with_reducible rfl)); (simp only [Act.put, List.setIfInBounds_toArray, List.set_cons_zero, List.set_cons_succ]))
          (refine plan3_take (o := ?_) (v := ?_) (by simp only [List.getElem?_toArray, List.getElem?_cons_succ, List.getElem?_cons_zero]; rfl) (yields_run (by rfl) ?_) ?_; rotate_left; (focus (intro w' hw'; obtain ⟨q0, q1, q2, q3, q4, q5, q6⟩ := HCL.out w' hw'; go_simp <;> with_reducible rfl)); (simp only [Act.put, List.setIfInBounds_toArray, List.set_cons_zero, List.set_cons_succ]))
          (refine plan3_take (o := ?_) (v := ?_) (by simp only [List.getElem?_toArray, List.getElem?_cons_succ, List.getElem?_cons_zero]; rfl) (yields_run (by rfl) ?_) ?_; rotate_left; (focus (intro w' hw'; obtain ⟨q0, q1, q2, q3, q4, q5, q6⟩ := HCL.out w' hw'; go_simp <;> with_reducible rfl)); (simp only [Act.put, List.setIfInBounds_toArray, List.set_cons_zero, List.set_cons_succ]))
          (refine plan3_take (o := ?_) (v := ?_) (by simp only [List.getElem?_toArray, List.getElem?_cons_succ, List.getElem?_cons_zero]; rfl) (yields_run (by rfl) ?_) ?_; rotate_left; (focus (intro w' hw'; obtain ⟨q0, q1, q2, q3, q4, q5, q6⟩ := HCL.out w' hw'; go_simp <;> with_reducible rfl)); (simp only [Act.put, List.setIfInBounds_toArray, List.set_cons_zero, List.set_cons_succ]))
          (refine plan3_take (o := ?_) (v := ?_) (by simp only [List.getElem?_toArray, List.getElem?_cons_succ, List.getElem?_cons_zero]; rfl) (yields_run (by rfl) ?_) ?_; rotate_left; (focus (intro w' hw'; obtain ⟨q0, q1, q2, q3, q4, q5, q6⟩ := HCL.out w' hw'; go_simp <;> with_reducible rfl)); (simp only [Act.put, List.setIfInBounds_toArray, List.set_cons_zero, List.set_cons_succ]))
          (refine plan3_take (o := ?_) (v := ?_) (by simp only [List.getElem?_toArray, List.getElem?_cons_succ, List.getElem?_cons_zero]; rfl) (yields_run (by rfl) ?_) ?_; rotate_left; (focus (intro w' hw'; obtain ⟨q0, q1, q2, q3, q4, q5, q6⟩ := HCL.out w' hw'; go_simp <;> with_reducible rfl)); (simp only [Act.put, List.setIfInBounds_toArray, List.set_cons_zero, List.set_cons_succ]))
          (refine plan3_take (o := ?_) (v := ?_) (by simp only [List.getElem?_toArray, List.getElem?_cons_succ, List.getElem?_cons_zero]; rfl) (yields_run (by rfl) ?_) ?_; rotate_left; (focus (intro w' hw'; obtain ⟨q0, q1, q2, q3, q4, q5, q6⟩ := HCL.out w' hw'; go_simp <;> with_reducible rfl)); (simp only [Act.put, List.setIfInBounds_toArray, List.set_cons_zero, List.set_cons_succ]))
          (refine plan3_take (o := ?_) (v := ?_) (by simp only [List.getElem?_toArray, List.getElem?_cons_succ, List.getElem?_cons_zero]; rfl) (yields_run (by rfl) ?_) ?_; rotate_left; (focus (intro w' hw'; obtain ⟨q0, q1, q2, q3, q4, q5, q6⟩ := HCL.out w' hw'; go_simp <;> with_reducible rfl)); (simp only [Act.put, List.setIfInBounds_toArray, List.set_cons_zero, List.set_cons_succ]))
          (refine plan3_take (o := ?_) (v := ?_) (by simp only [List.getElem?_toArray, List.getElem?_cons_succ, List.getElem?_cons_zero]; rfl) (yields_run (by rfl) ?_) ?_; rotate_left; (focus (intro w' hw'; obtain ⟨q0, q1, q2, q3, q4, q5, q6⟩ := HCL.out w' hw'; go_simp <;> with_reducible rfl)); (simp only [Act.put, List.setIfInBounds_toArray, List.set_cons_zero, List.set_cons_succ]))
          (refine plan3_take (o := ?_) (v := ?_) (by simp only [List.getElem?_toArray, List.getElem?_cons_succ, List.getElem?_cons_zero]; rfl) (yields_run (by rfl) ?_) ?_; rotate_left; (focus (intro w' hw'; obtain ⟨q0, q1, q2, q3, q4, q5, q6⟩ := HCL.out w' hw'; go_simp <;> with_reducible rfl)); (simp only [Act.put, List.setIfInBounds_toArray, List.set_cons_zero, List.set_cons_succ]))
          (refine plan3_take (o := ?_) (v := ?_) (by simp only [List.getElem?_toArray, List.getElem?_cons_succ, List.getElem?_cons_zero]; rfl) (yields_run (by rfl) ?_) ?_; rotate_left; (focus (intro w' hw'; obtain ⟨q0, q1, q2, q3, q4, q5, q6⟩ := HCL.out w' hw'; go_simp <;> with_reducible rfl)); (simp only [Act.put, List.setIfInBounds_toArray, List.set_cons_zero, List.set_cons_succ]))
          (refine plan3_take (o := ?_) (v := ?_) (by simp only [List.getElem?_toArray, List.getElem?_cons_succ, List.getElem?_cons_zero]; rfl) (yields_run (by rfl) ?_) ?_; rotate_left; (focus (intro w' hw'; obtain ⟨q0, q1, q2, q3, q4, q5, q6⟩ := HCL.out w' hw'; go_simp <;> with_reducible rfl)); (simp only [Act.put, List.setIfInBounds_toArray, List.set_cons_zero, List.set_cons_succ]))
          (refine plan3_take (o := ?_) (v := ?_) (by simp only [List.getElem?_toArray, List.getElem?_cons_succ, List.getElem?_cons_zero]; rfl) (yields_run (by rfl) ?_) ?_; rotate_left; (focus (intro w' hw'; obtain ⟨q0, q1, q2, q3, q4, q5, q6⟩ := HCL.out w' hw'; go_simp <;> with_reducible rfl)); (simp only [Act.put, List.setIfInBounds_toArray, List.set_cons_zero, List.set_cons_succ]))
          (refine plan3_take (o := ?_) (v := ?_) (by simp only [List.getElem?_toArray, List.getElem?_cons_succ, List.getElem?_cons_zero]; rfl) (yields_run (by rfl) ?_) ?_; rotate_left; (focus (intro w' hw'; obtain ⟨q0, q1, q2, q3, q4, q5, q6⟩ := HCL.out w' hw'; go_simp <;> with_reducible rfl)); (simp only [Act.put, List.setIfInBounds_toArray, List.set_cons_zero, List.set_cons_succ]))
          (refine plan3_take (o := ?_) (v := ?_) (by simp only [List.getElem?_toArray, List.getElem?_cons_succ, List.getElem?_cons_zero]; rfl) (yields_run (by rfl) ?_) ?_; rotate_left; (focus (intro w' hw'; obtain ⟨q0, q1, q2, q3, q4, q5, q6⟩ := HCL.out w' hw'; go_simp <;> with_reducible rfl)); (simp only [Act.put, List.setIfInBounds_toArray, List.set_cons_zero, List.set_cons_succ]))
          (refine plan3_take (o := ?_) (v := ?_) (by simp only [List.getElem?_toArray, List.getElem?_cons_succ, List.getElem?_cons_zero]; rfl) (yields_run (by rfl) ?_) ?_; rotate_left; (focus (intro w' hw'; obtain ⟨q0, q1, q2, q3, q4, q5, q6⟩ := HCL.out w' hw'; go_simp <;> with_reducible rfl)); (simp only [Act.put, List.setIfInBounds_toArray, List.set_cons_zero, List.set_cons_succ]))
          (refine plan3_take (o := ?_) (v := ?_) (by simp only [List.getElem?_toArray, List.getElem?_cons_succ, List.getElem?_cons_zero]; rfl) (yields_run (by rfl) ?_) ?_; rotate_left; (focus (intro w' hw'; obtain ⟨q0, q1, q2, q3, q4, q5, q6⟩ := HCL.out w' hw'; go_simp <;> with_reducible rfl)); (simp only [Act.put, List.setIfInBounds_toArray, List.set_cons_zero, List.set_cons_succ]))
          (refine plan3_take (o := ?_) (v := ?_) (by simp only [List.getElem?_toArray, List.getElem?_cons_succ, List.getElem?_cons_zero]; rfl) (yields_run (by rfl) ?_) ?_; rotate_left; (focus (intro w' hw'; obtain ⟨q0, q1, q2, q3, q4, q5, q6⟩ := HCL.out w' hw'; go_simp <;> with_reducible rfl)); (simp only [Act.put, List.setIfInBounds_toArray, List.set_cons_zero, List.set_cons_succ]))
          refine plan3_run (o := ?_) (by simp only [List.getElem?_toArray, List.getElem?_cons_succ, List.getElem?_cons_zero]; rfl) ?_
          intro R HR
          go_wp2_with fail
          (with_reducible refine (HC2.out _ HB1.out).mono ?_)
          rintro e v32 ⟨rfl, hb⟩
          have HB2 := hide (below_one HB1.out hb)
          clear hb
          go_wp2_with fail
          refine HR.out _ _ HB2.out ?_
          clear HR
          (refine plan3_take (o := ?_) (v := ?_) (by simp only [List.getElem?_toArray, List.getElem?_cons_succ, List.getElem?_cons_zero]; rfl) (yields_run (by rfl) ?_) ?_; rotate_left; (focus (intro w' hw'; obtain ⟨q0, q1, q2, q3, q4, q5, q6⟩ := HCL.out w' hw'; go_simp <;> with_reducible rfl)); (simp only [Act.put, List.setIfInBounds_toArray, List.set_cons_zero, List.set_cons_succ]))
          (refine plan3_take (o := ?_) (v := ?_) (by simp only [List.getElem?_toArray, List.getElem?_cons_succ, List.getElem?_cons_zero]; rfl) (yields_run (by rfl) ?_) ?_; rotate_left; (focus (intro w' hw'; obtain ⟨q0, q1, q2, q3, q4, q5, q6⟩ := HCL.out w' hw'; go_simp <;> with_reducible rfl)); (simp only [Act.put, List.setIfInBounds_toArray, List.set_cons_zero, List.set_cons_succ]))
          (refine plan3_take (o := ?_) (v := ?_) (by simp only [List.getElem?_toArray, List.getElem?_cons_succ, List.getElem?_cons_zero]; rfl) (yields_run (by rfl) ?_) ?_; rotate_left; (focus (intro w' hw'; obtain ⟨q0, q1, q2, q3, q4, q5, q6⟩ := HCL.out w' hw'; go_simp <;> with_reducible rfl)); (simp only [Act.put, List.setIfInBounds_toArray, List.set_cons_zero, List.set_cons_succ]))
          (refine plan3_take (o := ?_) (v := ?_) (by simp only [List.getElem?_toArray, List.getElem?_cons_succ, List.getElem?_cons_zero]; rfl) (yields_run (by rfl) ?_) ?_; rotate_left; (focus (intro w' hw'; obtain ⟨q0, q1, q2, q3, q4, q5, q6⟩ := HCL.out w' hw'; go_simp <;> with_reducible rfl)); (simp only [Act.put, List.setIfInBounds_toArray, List.set_cons_zero, List.set_cons_succ]))
          (refine plan3_take (o := ?_) (v := ?_) (by simp only [List.getElem?_toArray, List.getElem?_cons_succ, List.getElem?_cons_zero]; rfl) (yields_run (by rfl) ?_) ?_; rotate_left; (focus (intro w' hw'; obtain ⟨q0, q1, q2, q3, q4, q5, q6⟩ := HCL.out w' hw'; go_simp <;> with_reducible rfl)); (simp only [Act.put, List.setIfInBounds_toArray, List.set_cons_zero, List.set_cons_succ]))
          (refine plan3_take (o := ?_) (v := ?_) (by simp only [List.getElem?_toArray, List.getElem?_cons_succ, List.getElem?_cons_zero]; rfl) (yields_run (by rfl) ?_) ?_; rotate_left; (focus (intro w' hw'; obtain ⟨q0, q1, q2, q3, q4, q5, q6⟩ := HCL.out w' hw'; go_simp <;> with_reducible rfl)); (simp only [Act.put, List.setIfInBounds_toArray, List.set_cons_zero, List.set_cons_succ]))
          (refine plan3_take (o := ?_) (v := ?_) (by simp only [List.getElem?_toArray, List.getElem?_cons_succ, List.getElem?_cons_zero]; rfl) (yields_run (by rfl) ?_) ?_; rotate_left; (focus (intro w' hw'; obtain ⟨q0, q1, q2, q3, q4, q5, q6⟩ := HCL.out w' hw'; go_simp <;> with_reducible rfl)); (simp only [Act.put, List.setIfInBounds_toArray, List.set_cons_zero, List.set_cons_succ]))
          (refine plan3_take (o := ?_) (v := ?_) (by simp only [List.getElem?_toArray, List.getElem?_cons_succ, List.getElem?_cons_zero]; rfl) (yields_run (by rfl) ?_) ?_; rotate_left; (focus (intro w' hw'; obtain ⟨q0, q1, q2, q3, q4, q5, q6⟩ := HCL.out w' hw'; have hv := HV0.out w' hw'; go_simp <;> with_reducible rfl)); (simp only [Act.put, List.setIfInBounds_toArray, List.set_cons_zero, List.set_cons_succ]))
          (refine plan3_take (o := ?_) (v := ?_) (by simp only [List.getElem?_toArray, List.getElem?_cons_succ, List.getElem?_cons_zero]; rfl) (yields_run (by rfl) ?_) ?_; rotate_left; (focus (intro w' hw'; obtain ⟨q0, q1, q2, q3, q4, q5, q6⟩ := HCL.out w' hw'; go_simp <;> with_reducible rfl)); (simp only [Act.put, List.setIfInBounds_toArray, List.set_cons_zero, List.set_cons_succ]))
          (refine plan3_take (o := ?_) (v := ?_) (by simp only [List.getElem?_toArray, List.getElem?_cons_succ, List.getElem?_cons_zero]; rfl) (yields_run (by rfl) ?_) ?_; rotate_left; (focus (intro w' hw'; obtain ⟨q0, q1, q2, q3, q4, q5, q6⟩ := HCL.out w' hw'; have hv := HV1.out w' hw'; go_simp <;> with_reducible rfl)); (simp only [Act.put, List.setIfInBounds_toArray, List.set_cons_zero, List.set_cons_succ]))
          (refine plan3_take (o := ?_) (v := ?_) (by simp only [List.getElem?_toArray, List.getElem?_cons_succ, List.getElem?_cons_zero]; rfl) (yields_run (by rfl) ?_) ?_; rotate_left; (focus (intro w' hw'; obtain ⟨q0, q1, q2, q3, q4, q5, q6⟩ := HCL.out w' hw'; go_simp <;> with_reducible rfl)); (simp only [Act.put, List.setIfInBounds_toArray, List.set_cons_zero, List.set_cons_succ]))
          (refine plan3_take (o := ?_) (v := ?_) (by simp only [List.getElem?_toArray, List.getElem?_cons_succ, List.getElem?_cons_zero]; rfl) (yields_run (by rfl) ?_) ?_; rotate_left; (focus (intro w' hw'; obtain ⟨q0, q1, q2, q3, q4, q5, q6⟩ := HCL.out w' hw'; go_simp <;> with_reducible rfl)); (simp only [Act.put, List.setIfInBounds_toArray, List.set_cons_zero, List.set_cons_succ]))
          (refine plan3_take (o := ?_) (v := ?_) (by simp only [List.getElem?_toArray, List.getElem?_cons_succ, List.getElem?_cons_zero]; rfl) (yields_run (by rfl) ?_) ?_; rotate_left; (focus (intro w' hw'; obtain ⟨q0, q1, q2, q3, q4, q5, q6⟩ := HCL.out w' hw'; go_simp <;> with_reducible rfl)); (simp only [Act.put, List.setIfInBounds_toArray, List.set_cons_zero, List.set_cons_succ]))
          (refine plan3_take (o := ?_) (v := ?_) (by simp only [List.getElem?_toArray, List.getElem?_cons_succ, List.getElem?_cons_zero]; rfl) (yields_run (by rfl) ?_) ?_; rotate_left; (focus (intro w' hw'; obtain ⟨q0, q1, q2, q3, q4, q5, q6⟩ := HCL.out w' hw'; go_simp <;> with_reducible rfl)); (simp only [Act.put, List.setIfInBounds_toArray, List.set_cons_zero, List.set_cons_succ]))
          (refine plan3_take (o := ?_) (v := ?_) (by simp only [List.getElem?_toArray, List.getElem?_cons_succ, List.getElem?_cons_zero]; rfl) (yields_run (by rfl) ?_) ?_; rotate_left; (focus (intro w' hw'; obtain ⟨q0, q1, q2, q3, q4, q5, q6⟩ := HCL.out w' hw'; go_simp <;> with_reducible rfl)); (simp only [Act.put, List.setIfInBounds_toArray, List.set_cons_zero, List.set_cons_succ]))
          refine plan3_run (o := ?_) (by simp only [List.getElem?_toArray, List.getElem?_cons_succ, List.getElem?_cons_zero]; rfl) ?_
          intro R HR
          go_wp2_with fail
          (with_reducible refine (HC3.out _ HB2.out).mono ?_)
          rintro e v47 ⟨rfl, hb⟩
          have HB3 := hide (below_one HB2.out hb)
          clear hb
          go_wp2_with fail
          refine HR.out _ _ HB3.out ?_
          clear HR
          (refine plan3_take (o := ?_) (v := ?_) (by simp only [List.getElem?_toArray, List.getElem?_cons_succ, List.getElem?_cons_zero]; rfl) (yields_run (by rfl) ?_) ?_; rotate_left; (focus (intro w' hw'; obtain ⟨q0, q1, q2, q3, q4, q5, q6⟩ := HCL.out w' hw'; go_simp <;> with_reducible rfl)); (simp only [Act.put, List.setIfInBounds_toArray, List.set_cons_zero, List.set_cons_succ]))
          (refine plan3_take (o := ?_) (v := ?_) (by simp only [List.getElem?_toArray, List.getElem?_cons_succ, List.getElem?_cons_zero]; rfl) (yields_run (by rfl) ?_) ?_; rotate_left; (focus (intro w' hw'; obtain ⟨q0, q1, q2, q3, q4, q5, q6⟩ := HCL.out w' hw'; go_simp <;> with_reducible rfl)); (simp only [Act.put, List.setIfInBounds_toArray, List.set_cons_zero, List.set_cons_succ]))
          (refine plan3_take (o := ?_) (v := ?_) (by simp only [List.getElem?_toArray, List.getElem?_cons_succ, List.getElem?_cons_zero]; rfl) (yields_run (by rfl) ?_) ?_; rotate_left; (focus (intro w' hw'; obtain ⟨q0, q1, q2, q3, q4, q5, q6⟩ := HCL.out w' hw'; go_simp <;> with_reducible rfl)); (simp only [Act.put, List.setIfInBounds_toArray, List.set_cons_zero, List.set_cons_succ]))
          have HBF := HB3
          refine plan3_done ?_

          go_wp2_with fail
          go_ret
          exact ⟨rfl, below_one HF5.out HBF.out⟩
end Go.Proofs.Ytgigccgklahddaa
