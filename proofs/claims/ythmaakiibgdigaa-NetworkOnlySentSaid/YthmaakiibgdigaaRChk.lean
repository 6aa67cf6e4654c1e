/- Check of the reference. -/
import Derived.Test.YthmaakiibgdigaaApr
namespace Go.Proofs.Ythmaakiibgdigaa
open Go.RowKit
variable {ok : Nat → Prop}

theorem okPr_eq (q1 q2 : Int) : okPr (q1, q2) = (siteB q1 && siteB q2 && decide (q1 < q2)) := by
  unfold okPr partB
  cases siteB q1 <;> cases siteB q2 <;> simp
  rw [Bool.eq_iff_iff]
  simp
  omega

set_option maxRecDepth 100000 in
set_option maxHeartbeats 3200000 in
theorem rcheck_any (n : Net) (w : World) (hi : n.In ok w) : Calls Try.prog 14 #[n.v] w fun e w' => e = .returned (.int .i64 (n.d.chkI)) ∧ Below w.heap.size w w' := by
  obtain ⟨⟨qA, l, qc⟩, ⟨aA, al, ac⟩⟩ := n
  have HD := hide (show (Net.d ⟨⟨qA, l, qc⟩, ⟨aA, al, ac⟩⟩).chk = (quB (l.map Pkt.d) && apB al) from rfl)
  have HI := hide hi
  have hle : l.length ≤ qc := hi.q.q.le
  have hcap : qc ≤ 9223372036854775807 := hi.q.q.top
  have hle2 : al.length ≤ ac := hi.a.a.le
  have hcap2 : ac ≤ 9223372036854775807 := hi.a.a.top
  have HIFF := hide (quB_iff (l := l.map Pkt.d))
  have HIFA := hide (apB_iff (l := al))
  have HB := hide (below_new w (.cells #[.slice qA l.length qc, .slice aA al.length ac] 25))
  have HX := hide (Blk.new w 25 [.slice qA l.length qc, .slice aA al.length ac])
  have HZ := hide (show w.heap.size < (w.alloc (.cells #[.slice qA l.length qc, .slice aA al.length ac] 25)).heap.size by simp)
  clear hi
  by_cases h1 : 4096 < l.length
  · have HF := hide (show (Net.d ⟨⟨qA, l, qc⟩, ⟨aA, al, ac⟩⟩).chk = false by
      rw [HD.out, show quB (l.map Pkt.d) = false from bool_false fun h => by have := (HIFF.out.1 h).1; rw [List.length_map] at this; omega]; rfl)
    have h1' : (4096 : Int) < l.length := by omega
    go_enter Try.func14, Try.ntmps14
    go_wp2_with fail
    go_ret
    exact ⟨by rw [chkI_no HF.out]; rfl, HB.out⟩
  · have h1' : ¬ (4096 : Int) < l.length := by omega
    go_enter Try.func14, Try.ntmps14
    go_wp2_with fail
    generalize hw1 : (w.alloc (.cells #[.slice qA l.length qc, .slice aA al.length ac] 25)) = w1 at *
    clear hw1
    go_loopw [3] (fun i wr => ∃ k : Nat, k ≤ l.length ∧ i = .int .i64 k ∧ Hid (∀ j (h : j < l.length), j < k → pkB (l[j]).d = true) ∧ Hid (Below w1.heap.size w1 wr)) (fun i _ => l.length - (intOf i).toNat)
    case atStart => exact ⟨0, Nat.zero_le _, rfl, hide (by intros; omega), hide (Below.refl _ _)⟩
    case round =>
      obtain ⟨k, hk, rfl, hw, hb⟩ := hrel
      obtain ⟨c0, c1⟩ := (HX.out.below hb.out HZ.out).c2
      have HBB := hide (below_one HB.out hb.out)
      by_cases hlt : k < l.length
      · obtain ⟨b, o, hA, hb0, d0, d1, d2⟩ := (HI.out.q.below HBB.out).at hlt
        simp only at hA
        subst hA
        have HIP := hide ((HI.out.q.below HBB.out).p _ (List.getElem_mem hlt))
        cases hp : pkB (l[k]).d with
        | true =>
          have HW := hide (show ∀ j (h : j < l.length), j < k + 1 → pkB (l[j]).d = true from fun j h hj => by
            by_cases e : j = k
            · subst e; exact hp
            · exact hw.out j h (by omega))
          have HC := hide (rpacket_is hp wr HIP.out)
          clear hp
          generalize l[k] = s at *
          go_wp2_with fail
          refine HC.out.mono ?_
          rintro e w2 ⟨rfl, hb2⟩
          have HB2 := hide (below_one hb.out hb2)
          clear hb2
          go_wp2_with fail
          go_roundw
          case rel => exact ⟨k + 1, by omega, by go_num, HW, HB2⟩
          case measure => simp [intOf]; omega
        | false =>
          have HF := hide (show (Net.d ⟨⟨some ⟨b, o, none⟩, l, qc⟩, ⟨aA, al, ac⟩⟩).chk = false by
            rw [HD.out, show quB (l.map Pkt.d) = false from bool_false fun h => by
              have := (HIFF.out.1 h).2 k (by simpa using hlt)
              rw [List.getElem_map, hp] at this
              cases this]; rfl)
          have HC := hide (rpacket_is hp wr HIP.out)
          clear hp
          generalize l[k] = s at *
          go_wp2_with fail
          refine HC.out.mono ?_
          rintro e w2 ⟨rfl, hb2⟩
          have HB2 := hide (below_one HBB.out hb2)
          clear hb2
          go_wp2_with fail
          go_ret
          exact ⟨by rw [chkI_no HF.out]; rfl, HB2.out⟩
      · obtain rfl : k = l.length := by omega
        have HT := hide (show quB (l.map Pkt.d) = true from HIFF.out.2 ⟨by rw [List.length_map]; omega, fun i h => by rw [List.getElem_map]; exact hw.out i (by simpa using h) (by simpa using h)⟩)
        have HD2 := hide (show (Net.d ⟨⟨qA, l, qc⟩, ⟨aA, al, ac⟩⟩).chk = apB al by rw [HD.out, HT.out, Bool.true_and])
        clear hlt hw
        go_wp2_with fail
        go_loopw [4] (fun i wr => ∃ k : Nat, k ≤ al.length ∧ i = .int .i64 k ∧ Hid (∀ j, j < k → stepB al j = true) ∧ Hid (Below w1.heap.size w1 wr)) (fun i _ => al.length - (intOf i).toNat)
        case atStart => exact ⟨0, Nat.zero_le _, rfl, hide (by intros; omega), hb⟩
        case round =>
          clear hb c0 c1 HBB hk
          obtain ⟨k, hk, rfl, hw, hb⟩ := hrel
          obtain ⟨c0, c1⟩ := (HX.out.below hb.out HZ.out).c2
          have HBB := hide (below_one HB.out hb.out)
          by_cases hlt : k < al.length
          · obtain ⟨b, o, hA, hb0, d0, d1⟩ := (HI.out.a.below HBB.out).at hlt
            simp only at hA
            subst hA
            have HOK := hide (show stepB al k = false → apB al = false from fun h => bool_false fun h2 => by rw [HIFA.out.1 h2 k hlt] at h; cases h)
            have HW := hide (show stepB al k = true → ∀ j, j < k + 1 → stepB al j = true from fun hp j hj => by
              by_cases e : j = k
              · subst e; exact hp
              · exact hw.out j (by omega))
            have HPV := hide (show ∀ m, k = m + 1 → ∃ p1 p2 : Int, al.getD m (0, 0) = (p1, p2) ∧ wr.cell? ⟨b, o + m * 2, none⟩ = some (.int .i64 p1) ∧ wr.cell? ⟨b, o + m * 2 + 1, none⟩ = some (.int .i64 p2) from fun m e => by
              have hm : m < al.length := by omega
              obtain ⟨b', o', hA', _, c0', c1'⟩ := (HI.out.a.below HBB.out).at hm
              injection hA' with hA'
              injection hA' with h1 h2
              subst h1 h2
              exact ⟨_, _, by simp [List.getD_eq_getElem?_getD, hm], c0', c1'⟩)
            have HSZ := hide (stepB_zero al)
            have HSS := hide (stepB_succ al)
            have HSB := hide (stepB_bad al k hlt)
            rcases hq : al[k] with ⟨q1, q2⟩
            rw [hq] at d0 d1
            simp only at d0 d1
            have HOP := hide (okPr_eq q1 q2)
            have HSB2 := hide (show okPr (q1, q2) = false → (Net.d ⟨⟨qA, l, qc⟩, ⟨some ⟨b, o, none⟩, al, ac⟩⟩).chk = false from fun h => by rw [HD2.out]; exact HOK.out (HSB.out (by rw [hq]; exact h)))
            have HQ := hide hq
            clear hq HSB
            have HB1 := hide (below_one HBB.out (below_new wr (.cells #[.int .i64 q1, .int .i64 q2] 55)))
            have HB1w := hide (below_one hb.out (below_new wr (.cells #[.int .i64 q1, .int .i64 q2] 55)))
            cases hp1 : siteB q1 with
            | false =>
              have HF := hide (HSB2.out (by rw [HOP.out, hp1]; rfl))
              have HC := hide (fun W => site_is hp1 W)
              clear hp1
              go_wp2_with fail
              refine (HC.out _).mono ?_
              rintro e w2 ⟨rfl, rfl⟩
              go_wp2_with fail
              go_ret
              exact ⟨by rw [chkI_no HF.out]; rfl, HB1.out⟩
            | true =>
              have HC := hide (fun W => site_is hp1 W)
              cases hp2 : siteB q2 with
              | false =>
                have HF := hide (HSB2.out (by rw [HOP.out, hp1, hp2]; rfl))
                have HE := hide (fun W => site_is hp2 W)
                clear hp1 hp2
                go_wp2_with fail
                refine (HC.out _).mono ?_
                rintro e w2 ⟨rfl, rfl⟩
                go_wp2_with fail
                refine (HE.out _).mono ?_
                rintro e w2 ⟨rfl, rfl⟩
                go_wp2_with fail
                go_ret
                exact ⟨by rw [chkI_no HF.out]; rfl, HB1.out⟩
              | true =>
                have HE := hide (fun W => site_is hp2 W)
                by_cases hle3 : q1 < q2
                · have HOT := hide (show okPr (q1, q2) = true by rw [HOP.out, hp1, hp2]; simp [hle3])
                  have hnl : decide (q2 ≤ q1) = false := by simp; omega
                  clear hp1 hp2 hle3
                  by_cases hz : k = 0
                  · have HT2 := hide (show stepB al k = true by subst hz; rw [HSZ.out hlt, HQ.out, HOT.out])
                    subst hz
                    simp only [Nat.zero_mul, Nat.add_zero] at d0 d1
                    go_wp2_with fail
                    refine (HC.out _).mono ?_
                    rintro e w2 ⟨rfl, rfl⟩
                    go_wp2_with fail
                    refine (HE.out _).mono ?_
                    rintro e w2 ⟨rfl, rfl⟩
                    go_wp2_with fail
                    go_quiet (fail)
                    go_wp2_with fail
                    go_roundw
                    case rel => exact ⟨1, by omega, rfl, hide (HW.out HT2.out), hide (below_drewN HB1w.out _)⟩
                    case measure => simp [intOf]; omega
                  · obtain ⟨m, rfl⟩ : ∃ m, k = m + 1 := ⟨k - 1, by omega⟩
                    obtain ⟨p1, p2, hpv, e0, e1⟩ := HPV.out m rfl
                    have HT2 := hide (show stepB al (m + 1) = ltPr (p1, p2) (q1, q2) by
                      have hm : m < al.length := by omega
                      rw [HSS.out m hlt, HQ.out, HOT.out, Bool.true_and]
                      have : al[m] = (p1, p2) := by rw [← hpv]; simp [List.getD_eq_getElem?_getD, hm]
                      rw [this])
                    have HLT := hide (show ltPr (p1, p2) (q1, q2) = true ↔ p1 < q1 ∨ p1 = q1 ∧ p2 < q2 by simp [ltPr])
                    clear hz hpv
                    have c1a := ((below_new wr (.cells #[.int .i64 q1, .int .i64 q2] 55)).cell (p := ⟨w.heap.size, 1, none⟩) (Nat.lt_of_lt_of_le HZ.out hb.out.size)).trans c1
                    have e0a := ((below_new wr (.cells #[.int .i64 q1, .int .i64 q2] 55)).cell (p := ⟨b, o + m * 2, none⟩) hb0).trans e0
                    have e1a := ((below_new wr (.cells #[.int .i64 q1, .int .i64 q2] 55)).cell (p := ⟨b, o + m * 2 + 1, none⟩) hb0).trans e1
                    clear e0 e1
                    have hwr : IntKind.i64.wrap (m : Int) = (m : Int) := IntWalk.i64_in _ (by omega)
                    have hgt : decide ((0 : Int) < ((m + 1 : Nat) : Int)) = true := decide_eq_true (by omega)
                    have hgt2 : (0 : Int) < ((m + 1 : Nat) : Int) := by omega
                    have hml : (m : Int) < (al.length : Int) := by omega
                    have hcs : (q1 < p1) ∨ (q1 = p1 ∧ q2 ≤ p2) ∨ (q1 = p1 ∧ p2 < q2) ∨ (p1 < q1) := by omega
                    rcases hcs with h | ⟨h, h2⟩ | ⟨h, h2⟩ | h
                    · have HF := hide (show (Net.d ⟨⟨qA, l, qc⟩, ⟨some ⟨b, o, none⟩, al, ac⟩⟩).chk = false by
                        rw [HD2.out]
                        exact HOK.out (HT2.out.trans (bool_false fun h3 => by have := HLT.out.1 h3; omega)))
                      have hd1 : decide (q1 < p1) = true := decide_eq_true h
                      go_wp2_with fail
                      refine (HC.out _).mono ?_
                      rintro e w2 ⟨rfl, rfl⟩
                      go_wp2_with fail
                      refine (HE.out _).mono ?_
                      rintro e w2 ⟨rfl, rfl⟩
                      go_wp2_with fail
                      go_quiet (fail)
                      go_wp2_with fail
                      go_ret
                      exact ⟨by rw [chkI_no HF.out]; rfl, below_drewN HB1.out _⟩
                    · subst h
                      have HF := hide (show (Net.d ⟨⟨qA, l, qc⟩, ⟨some ⟨b, o, none⟩, al, ac⟩⟩).chk = false by
                        rw [HD2.out]
                        exact HOK.out (HT2.out.trans (bool_false fun h3 => by have := HLT.out.1 h3; omega)))
                      have hd1 : decide (q1 < q1) = false := by simp
                      have hd2 : (q1 == q1) = true := by simp
                      have hd3 : decide (q2 ≤ p2) = true := decide_eq_true h2
                      go_wp2_with fail
                      refine (HC.out _).mono ?_
                      rintro e w2 ⟨rfl, rfl⟩
                      go_wp2_with fail
                      refine (HE.out _).mono ?_
                      rintro e w2 ⟨rfl, rfl⟩
                      go_wp2_with fail
                      go_quiet (fail)
                      go_wp2_with fail
                      go_ret
                      exact ⟨by rw [chkI_no HF.out]; rfl, below_drewN HB1.out _⟩
                    · subst h
                      have HST := hide (HT2.out.trans (HLT.out.2 (.inr ⟨rfl, h2⟩)))
                      have hd1 : decide (q1 < q1) = false := by simp
                      have hd2 : (q1 == q1) = true := by simp
                      have hd3 : decide (q2 ≤ p2) = false := decide_eq_false (by omega)
                      go_wp2_with fail
                      refine (HC.out _).mono ?_
                      rintro e w2 ⟨rfl, rfl⟩
                      go_wp2_with fail
                      refine (HE.out _).mono ?_
                      rintro e w2 ⟨rfl, rfl⟩
                      go_wp2_with fail
                      go_quiet (fail)
                      go_wp2_with fail
                      go_roundw
                      case rel => exact ⟨m + 1 + 1, by omega, by go_num, hide (HW.out HST.out), hide (below_drewN HB1w.out _)⟩
                      case measure => simp [intOf]; omega
                    · have HST := hide (HT2.out.trans (HLT.out.2 (.inl h)))
                      have hd1 : decide (q1 < p1) = false := decide_eq_false (by omega)
                      have hd2 : (q1 == p1) = false := by simp only [beq_eq_false_iff_ne, ne_eq]; omega
                      go_wp2_with fail
                      refine (HC.out _).mono ?_
                      rintro e w2 ⟨rfl, rfl⟩
                      go_wp2_with fail
                      refine (HE.out _).mono ?_
                      rintro e w2 ⟨rfl, rfl⟩
                      go_wp2_with fail
                      go_quiet (fail)
                      go_wp2_with fail
                      go_roundw
                      case rel => exact ⟨m + 1 + 1, by omega, by go_num, hide (HW.out HST.out), hide (below_drewN HB1w.out _)⟩
                      case measure => simp [intOf]; omega
                · have HF := hide (HSB2.out (by rw [HOP.out, hp1, hp2]; simp; omega))
                  have hnl : q2 ≤ q1 := by omega
                  clear hp1 hp2 hle3
                  go_wp2_with fail
                  refine (HC.out _).mono ?_
                  rintro e w2 ⟨rfl, rfl⟩
                  go_wp2_with fail
                  refine (HE.out _).mono ?_
                  rintro e w2 ⟨rfl, rfl⟩
                  go_wp2_with fail
                  go_ret
                  exact ⟨by rw [chkI_no HF.out]; rfl, HB1.out⟩
          · obtain rfl : k = al.length := by omega
            have HT2 := hide (show (Net.d ⟨⟨qA, l, qc⟩, ⟨aA, al, ac⟩⟩).chk = true from HD2.out.trans (HIFA.out.2 hw.out))
            go_wp2_with fail
            go_ret
            exact ⟨by rw [chkI_ok HT2.out]; rfl, HBB.out⟩
theorem rcheck_ok {n : Net} (h : n.d.chk = true) (w : World) (hi : n.In ok w) : Calls Try.prog 14 #[n.v] w fun e w' => e = .returned (.int .i64 0) ∧ Below w.heap.size w w' :=
  (rcheck_any n w hi).mono fun e w' ⟨h1, h2⟩ => ⟨by rw [h1, chkI_ok h], h2⟩
theorem rcheck_no {n : Net} (h : n.d.chk = false) (w : World) (hi : n.In ok w) : Calls Try.prog 14 #[n.v] w fun e w' => e = .returned (.int .i64 60) ∧ Below w.heap.size w w' :=
  (rcheck_any n w hi).mono fun e w' ⟨h1, h2⟩ => ⟨by rw [h1, chkI_no h], h2⟩
end Go.Proofs.Ythmaakiibgdigaa
