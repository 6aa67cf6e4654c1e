
/- Check of the reference. -/
import Derived.Test.YtgigccgklahddaaChk2
namespace Go.Proofs.Ytgigccgklahddaa
open Go.RowKit
variable {n0 : Nat}

set_option maxRecDepth 10000 in
set_option maxHeartbeats 3200000 in
theorem rcheck_any (d : Dsk) (w : World) (hi : d.In n0 w) :
    Calls Try.prog 33 #[d.v] w fun e w' => e = .returned (.int .i64 (chk d.d)) ∧ Below w.heap.size w w' := by
  have HV := hide (valid_iff (d := d))
  obtain ⟨sa, ss, sc, pa, ps, pc, left, stp⟩ := d
  have HI := hide hi
  have hle1 : ss.length ≤ sc := hi.sec.le
  have hcap1 : sc ≤ 9223372036854775807 := hi.sec.top
  have hle : ps.length ≤ pc := hi.pen.le
  have hcap : pc ≤ 9223372036854775807 := hi.pen.top
  clear hi
  have HL := hide (wrD_len ps)
  have HL1 := hide (secD_len ss)
  have HB := hide (below_new w (.cells #[.slice sa ss.length sc, .slice pa ps.length pc, .int .i64 left, .bool stp] 25))
  by_cases hp : 1 ≤ ss.length ∧ ss.length ≤ 4096 ∧ ps.length ≤ 4096 ∧ -1 ≤ left ∧ left ≤ 65536
  · obtain ⟨p1, p2, p3, p4, p5⟩ := hp
    have q1 : (1 : Int) ≤ ss.length := by omega
    have q2 : (ss.length : Int) ≤ 4096 := by omega
    have q3 : (ps.length : Int) ≤ 4096 := by omega
    have hX := Blk.new w 25 [.slice sa ss.length sc, .slice pa ps.length pc, .int .i64 left, .bool stp]
    have c0 := hX.cell 0
    have c1 := hX.cell 1
    simp only [List.getElem?_cons_zero, List.getElem?_cons_succ] at c0 c1
    have HX := hide (And.intro c0 c1)
    clear hX c0 c1
    go_enter Try.func33, Try.ntmps33
    go_wp2_with fail
    go_loop [4] (fun i => ∃ k : Nat, k ≤ ss.length ∧ i = .int .i64 k ∧ Hid (∀ j (h : j < ss.length), j < k → (ss[j]).l.length = 128)) (fun i => ss.length - (intOf i).toNat)
    case atStart => exact ⟨0, Nat.zero_le _, rfl, hide (by intros; omega)⟩
    case round =>
      obtain ⟨k, hk, rfl, hw⟩ := hrel
      by_cases hlt : k < ss.length
      · obtain ⟨b, o, rfl, hb, hc⟩ := (HI.out.sec.below HB.out).at hlt
        by_cases h3 : (ss[k]).l.length = 128
        · have HW := hide (show ∀ j (h : j < ss.length), j < k + 1 → (ss[j]).l.length = 128 from fun j h hj => by
            by_cases e : j = k
            · subst e; exact h3
            · exact hw.out j h (by omega))
          have h3' : (((ss[k]).l.length : Int) != 128) = false := by simp; omega
          clear h3
          generalize ss[k] = s at *
          go_wp2_with fail
          go_round
          case rel => exact ⟨k + 1, by omega, by go_num, HW⟩
          case measure => simp [intOf]; omega
        · have HF := hide (show chk (Dsk.d ⟨some ⟨b, o, none⟩, ss, sc, pa, ps, pc, left, stp⟩) = 40 by
            unfold chk; rw [HV.out]; rw [bool_false (b := validSec (secD ss)) fun h => by
              have := (validSec_iff.1 h).2 k (by rw [HL1.out]; exact hlt)
              rw [secD_get] at this
              exact h3 this]; rfl)
          have h3' : (((ss[k]).l.length : Int) != 128) = true := by simp; omega
          clear h3
          generalize ss[k] = s at *
          go_wp2_with fail
          go_ret
          exact ⟨by rw [HF.out]; rfl, HB.out⟩
      · obtain rfl : k = ss.length := by omega
        have HV2 := hide (show validSec (secD ss) = true from validSec_iff.2 ⟨by rw [HL1.out]; omega, fun i h => by rw [secD_get]; exact hw.out i (by rw [HL1.out] at h; exact h) (by rw [HL1.out] at h; exact h)⟩)
        rw [HV2.out] at HV
        clear hw
        go_wp2_with fail
        go_loopw [5, 6] (fun i _ wr => ∃ k : Nat, k ≤ ps.length ∧ i = .int .i64 k ∧ Hid (∀ j (h : j < ps.length), j < k → 0 ≤ (ps[j]).pos ∧ (ps[j]).pos < ss.length ∧ (ps[j]).s.l.length = 128) ∧ Hid (Below (w.heap.size + 1) (w.alloc (.cells #[.slice sa ss.length sc, .slice pa ps.length pc, .int .i64 left, .bool stp] 25)) wr)) (fun i _ _ => ps.length - (intOf i).toNat)
        case atStart => exact ⟨0, Nat.zero_le _, rfl, hide (by intros; omega), hide (Below.refl _ _)⟩
        case round =>
          obtain ⟨k, hk, rfl, hw, hb⟩ := hrel
          have hbw : Below w.heap.size w wr := HB.out.trans (hb.out.mono (by omega))
          have hs0 : w.heap.size + 1 ≤ wr.heap.size := by have := hb.out.size; simpa using this
          have e0 := (hb.out.cell (p := ⟨w.heap.size, 0, none⟩) (by simp)).trans HX.out.1
          have e1 := (hb.out.cell (p := ⟨w.heap.size, 1, none⟩) (by simp)).trans HX.out.2
          by_cases hlt : k < ps.length
          · obtain ⟨b, o, rfl, hbb, c0, c1⟩ := (HI.out.pen.below hbw).at hlt
            by_cases h3 : 0 ≤ (ps[k]).pos ∧ (ps[k]).pos < ss.length ∧ (ps[k]).s.l.length = 128
            · have HW := hide (show ∀ j (h : j < ps.length), j < k + 1 → 0 ≤ (ps[j]).pos ∧ (ps[j]).pos < ss.length ∧ (ps[j]).s.l.length = 128 from fun j h hj => by
                by_cases e : j = k
                · subst e; exact h3
                · exact hw.out j h (by omega))
              obtain ⟨a1, a2, a3⟩ := h3
              have a2' : decide ((ss.length : Int) ≤ (ps[k]).pos) = false := by simp; omega
              have a3' : (((ps[k]).s.l.length : Int) != 128) = false := by simp; omega
              have HBA := hide (hb.out.alloc hs0 (.cells (ps[k]).cs.toArray 77))
              clear a3
              generalize ps[k] = p at *
              go_wp2_with fail
              go_roundw
              case rel => exact ⟨k + 1, by omega, by go_num, HW, HBA⟩
              case measure => simp [intOf]; omega
            · have HF := hide (show chk (Dsk.d ⟨sa, ss, sc, some ⟨b, o, none⟩, ps, pc, left, stp⟩) = 40 by
                unfold chk; rw [HV.out]; rw [bool_false (b := validPen ss.length (wrD ps)) fun h => by
                  have := (validPen_iff.1 h).2 k (by rw [HL.out]; exact hlt)
                  rw [wrD_get] at this
                  exact h3 this]; rfl)
              have HBA := hide (hb.out.alloc hs0 (.cells (ps[k]).cs.toArray 77))
              have hc : (ps[k]).pos < 0 ∨ (0 ≤ (ps[k]).pos ∧ decide ((ss.length : Int) ≤ (ps[k]).pos) = true) ∨ (0 ≤ (ps[k]).pos ∧ decide ((ss.length : Int) ≤ (ps[k]).pos) = false ∧ (((ps[k]).s.l.length : Int) != 128) = true) := by simp; omega
              clear h3
              generalize ps[k] = p at *
              rcases hc with hc | ⟨a1, hc⟩ | ⟨a1, a2, hc⟩
              all_goals
                go_wp2_with fail
                go_ret
                exact ⟨by rw [HF.out]; rfl, HB.out.trans (HBA.out.mono (by omega))⟩
          · obtain rfl : k = ps.length := by omega
            have HF := hide (show chk (Dsk.d ⟨sa, ss, sc, pa, ps, pc, left, stp⟩) = 0 by
              unfold chk; rw [HV.out]; rw [show validPen ss.length (wrD ps) = true from validPen_iff.2 ⟨by rw [HL.out]; omega, fun i h => by
                rw [wrD_get]; rw [HL.out] at h; exact hw.out i h h⟩]; simp; omega)
            go_wp2_with fail
            go_ret
            exact ⟨by rw [HF.out]; rfl, hbw⟩
  · have HF := hide (show chk (Dsk.d ⟨sa, ss, sc, pa, ps, pc, left, stp⟩) = 40 by
      unfold chk; rw [HV.out]
      have : (validSec (secD ss) && validPen ss.length (wrD ps) && decide (-1 ≤ left ∧ left ≤ 65536)) = false := bool_false fun h => by
        simp only [Bool.and_eq_true, decide_eq_true_eq] at h
        have h1 := (validSec_iff.1 h.1.1).1
        have h2 := (validPen_iff.1 h.1.2).1
        rw [HL1.out] at h1
        rw [HL.out] at h2
        exact hp ⟨h1.1, h1.2, h2, h.2⟩
      rw [this]; rfl)
    have hc : (ss.length : Int) < 1 ∨ ((1 : Int) ≤ ss.length ∧ (4096 : Int) < ss.length) ∨ ((1 : Int) ≤ ss.length ∧ (ss.length : Int) ≤ 4096 ∧ (4096 : Int) < ps.length) ∨ ((1 : Int) ≤ ss.length ∧ (ss.length : Int) ≤ 4096 ∧ (ps.length : Int) ≤ 4096 ∧ left < -1) ∨ ((1 : Int) ≤ ss.length ∧ (ss.length : Int) ≤ 4096 ∧ (ps.length : Int) ≤ 4096 ∧ -1 ≤ left ∧ 65536 < left) := by omega
    clear hp
    rcases hc with hc | ⟨q1, hc⟩ | ⟨q1, q2, hc⟩ | ⟨q1, q2, q3, hc⟩ | ⟨q1, q2, q3, q4, hc⟩
    all_goals
      go_enter Try.func33, Try.ntmps33
      go_wp2_with fail
      go_ret
      exact ⟨by rw [HF.out]; rfl, HB.out⟩
end Go.Proofs.Ytgigccgklahddaa
