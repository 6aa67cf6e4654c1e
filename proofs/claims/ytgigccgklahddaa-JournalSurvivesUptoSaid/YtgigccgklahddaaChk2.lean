
/- validPending, Check, runs. -/
import Derived.Test.YtgigccgklahddaaChk
namespace Go.Proofs.Ytgigccgklahddaa
open Go.RowKit
variable {n0 : Nat}

set_option maxRecDepth 10000 in
set_option maxHeartbeats 1600000 in
theorem validPending_any (d : Dsk) (w : World) (hi : d.In n0 w) :
    Calls Try.prog 70 #[d.v] w fun e w' => e = .returned (.bool (validPen d.ss.length (wrD d.ps))) ∧ Below w.heap.size w w' := by
  obtain ⟨sa, ss, sc, pa, ps, pc, left, stp⟩ := d
  have HI := hide hi
  have hle : ps.length ≤ pc := hi.pen.le
  have hcap : pc ≤ 9223372036854775807 := hi.pen.top
  clear hi
  have HL := hide (wrD_len ps)
  have HB := hide (below_new w (.cells #[.slice sa ss.length sc, .slice pa ps.length pc, .int .i64 left, .bool stp] 25))
  by_cases h2 : 4096 < ps.length
  · have HF := hide (show validPen ss.length (wrD ps) = false from bool_false fun h => by have := (validPen_iff.1 h).1; rw [HL.out] at this; omega)
    have h2' : (4096 : Int) < ps.length := by omega
    go_enter Try.func70, Try.ntmps70
    go_wp2_with fail
    go_ret
    exact ⟨by rw [HF.out]; rfl, HB.out⟩
  · have h2' : ¬ (4096 : Int) < ps.length := by omega
    have hX := Blk.new w 25 [.slice sa ss.length sc, .slice pa ps.length pc, .int .i64 left, .bool stp]
    have c0 := hX.cell 0
    have c1 := hX.cell 1
    have c2 := hX.cell 2
    have c3 := hX.cell 3
    simp only [List.getElem?_cons_zero, List.getElem?_cons_succ] at c0 c1 c2 c3
    have HX := hide (And.intro c0 (And.intro c1 (And.intro c2 c3)))
    clear hX c0 c1 c2 c3
    go_enter Try.func70, Try.ntmps70
    go_wp2_with fail
    go_loopw [12, 4] (fun i _ wr => ∃ k : Nat, k ≤ ps.length ∧ i = .int .i64 k ∧ Hid (∀ j (h : j < ps.length), j < k → 0 ≤ (ps[j]).pos ∧ (ps[j]).pos < ss.length ∧ (ps[j]).s.l.length = 128) ∧ Hid (Below (w.heap.size + 1) (w.alloc (.cells #[.slice sa ss.length sc, .slice pa ps.length pc, .int .i64 left, .bool stp] 25)) wr)) (fun i _ _ => ps.length - (intOf i).toNat)
    case atStart => exact ⟨0, Nat.zero_le _, rfl, hide (by intros; omega), hide (Below.refl _ _)⟩
    case round =>
      obtain ⟨k, hk, rfl, hw, hb⟩ := hrel
      have hbw : Below w.heap.size w wr := HB.out.trans (hb.out.mono (by omega))
      have hs0 : w.heap.size + 1 ≤ wr.heap.size := by have := hb.out.size; simpa using this
      by_cases hlt : k < ps.length
      · obtain ⟨b, o, rfl, hbb, c0, c1⟩ := (HI.out.pen.below hbw).at hlt
        have e0 := (hb.out.cell (p := ⟨w.heap.size, 0, none⟩) (by simp)).trans HX.out.1
        have g0 := fun o => (World.cell?_alloc_lt wr o ⟨w.heap.size, 0, none⟩ hs0).trans e0
        have e1 := (hb.out.cell (p := ⟨w.heap.size, 1, none⟩) (by simp)).trans HX.out.2.1
        have g1 := fun o => (World.cell?_alloc_lt wr o ⟨w.heap.size, 1, none⟩ hs0).trans e1
        have e2 := (hb.out.cell (p := ⟨w.heap.size, 2, none⟩) (by simp)).trans HX.out.2.2.1
        have g2 := fun o => (World.cell?_alloc_lt wr o ⟨w.heap.size, 2, none⟩ hs0).trans e2
        have e3 := (hb.out.cell (p := ⟨w.heap.size, 3, none⟩) (by simp)).trans HX.out.2.2.2
        have g3 := fun o => (World.cell?_alloc_lt wr o ⟨w.heap.size, 3, none⟩ hs0).trans e3
        by_cases hv : 0 ≤ (ps[k]).pos ∧ (ps[k]).pos < ss.length
        · have HC := hide (fun W => has_is sa ss.length sc (some ⟨b, o, none⟩) ps.length pc left stp (ps[k]).pos (hasB_iff.2 hv) W)
          by_cases h3 : (ps[k]).s.l.length = 128
          · have h3' : (((ps[k]).s.l.length : Int) != 128) = false := by simp; omega
            have HW := hide (show ∀ j (h : j < ps.length), j < k + 1 → 0 ≤ (ps[j]).pos ∧ (ps[j]).pos < ss.length ∧ (ps[j]).s.l.length = 128 from fun j h hj => by
              by_cases e : j = k
              · subst e; exact ⟨hv.1, hv.2, h3⟩
              · exact hw.out j h (by omega))
            clear hv h3 hbw
            have HBA := hide (hb.out.alloc hs0 (.cells (ps[k]).cs.toArray 77))
            generalize ps[k] = p at *
            go_wp2_with fail
            refine (HC.out _).mono ?_
            rintro e w' ⟨rfl, hb'⟩
            have f1 : w'.cell? ⟨wr.heap.size, 1, none⟩ = some p.s.v := by
              have := (hb'.cell (p := ⟨wr.heap.size, 1, none⟩) (by simp)).trans ((Blk.new wr 77 p.cs).cell 1)
              simpa using this
            have HBN := hide (HBA.out.trans (hb'.mono (by simp; omega)))
            clear hb'
            go_wp2_with fail
            go_roundw
            case rel => exact ⟨k + 1, by omega, by go_num, HW, HBN⟩
            case measure => simp [intOf]; omega
          · have h3' : (((ps[k]).s.l.length : Int) != 128) = true := by simp; omega
            have HF := hide (show validPen ss.length (wrD ps) = false from bool_false fun h => by
              have := ((validPen_iff.1 h).2 k (by rw [HL.out]; exact hlt)).2.2
              rw [wrD_get] at this
              exact h3 this)
            clear hv h3 hbw
            have HBA := hide (hb.out.alloc hs0 (.cells (ps[k]).cs.toArray 77))
            generalize ps[k] = p at *
            go_wp2_with fail
            refine (HC.out _).mono ?_
            rintro e w' ⟨rfl, hb'⟩
            have f1 : w'.cell? ⟨wr.heap.size, 1, none⟩ = some p.s.v := by
              have := (hb'.cell (p := ⟨wr.heap.size, 1, none⟩) (by simp)).trans ((Blk.new wr 77 p.cs).cell 1)
              simpa using this
            have HBN := hide (HBA.out.trans (hb'.mono (by simp; omega)))
            clear hb'
            go_wp2_with fail
            go_ret
            exact ⟨by rw [HF.out]; rfl, HB.out.trans (HBN.out.mono (by omega))⟩
        · have HC := hide (fun W => has_is sa ss.length sc (some ⟨b, o, none⟩) ps.length pc left stp (ps[k]).pos (bool_false fun h => hv (hasB_iff.1 h)) W)
          have HF := hide (show validPen ss.length (wrD ps) = false from bool_false fun h => by
            have := ((validPen_iff.1 h).2 k (by rw [HL.out]; exact hlt))
            rw [wrD_get] at this
            exact hv ⟨this.1, this.2.1⟩)
          clear hv hbw
          have HBA := hide (hb.out.alloc hs0 (.cells (ps[k]).cs.toArray 77))
          generalize ps[k] = p at *
          go_wp2_with fail
          refine (HC.out _).mono ?_
          rintro e w' ⟨rfl, hb'⟩
          have HBN := hide (HBA.out.trans (hb'.mono (by simp; omega)))
          clear hb'
          go_wp2_with fail
          go_ret
          exact ⟨by rw [HF.out]; rfl, HB.out.trans (HBN.out.mono (by omega))⟩
      · obtain rfl : k = ps.length := by omega
        have HT := hide (show validPen ss.length (wrD ps) = true from validPen_iff.2 ⟨by rw [HL.out]; omega, fun i h => by
          rw [wrD_get]; rw [HL.out] at h; exact hw.out i h h⟩)
        go_wp2_with fail
        go_ret
        exact ⟨by rw [HT.out]; rfl, hbw⟩

theorem valid_iff {d : Dsk} : d.d.valid = (validSec (secD d.ss) && validPen d.ss.length (wrD d.ps) && decide (-1 ≤ d.left ∧ d.left ≤ 65536)) := by
  unfold Dk.valid
  rw [show d.d.sec.length = d.ss.length from secD_len d.ss]
  rfl
/-- What Check answers. -/
def chk (d : Dk) : Int := if d.valid then 0 else 40

set_option maxRecDepth 10000 in
set_option maxHeartbeats 1600000 in
theorem check_any (d : Dsk) (w : World) (hi : d.In n0 w) :
    Calls Try.prog 57 #[d.v] w fun e w' => e = .returned (.int .i64 (chk d.d)) ∧ Below w.heap.size w w' := by
  have HV := hide (valid_iff (d := d))
  have hX := Blk.new w 25 d.cs
  have c0 := hX.cell 0
  have c1 := hX.cell 1
  have c2 := hX.cell 2
  have c3 := hX.cell 3
  simp only [List.getElem?_cons_zero, List.getElem?_cons_succ] at c0 c1 c2 c3
  have HX := hide (And.intro c0 (And.intro c1 (And.intro c2 c3)))
  have HB := hide (below_new w (.cells d.cs.toArray 25))
  have HS := hide (fun W (hW : Below w.heap.size w W) => validSectors_any d.sa d.ss d.sc W (hi.sec.below hW))
  have HP := hide (fun W (hW : Below w.heap.size w W) => validPending_any d W (hi.below hW))
  clear hX c0 c1 c2 c3 hi
  cases h1 : validSec (secD d.ss) with
  | false =>
    rw [h1] at HS HV
    have HF := hide (show chk d.d = 40 by unfold chk; rw [HV.out]; rfl)
    clear h1
    go_enter Try.func57, Try.ntmps57
    go_wp2_with fail
    refine (HS.out _ HB.out).mono ?_
    rintro e w' ⟨rfl, rfl⟩
    go_wp2_with fail
    go_ret
    exact ⟨by rw [HF.out]; rfl, HB.out⟩
  | true =>
    rw [h1] at HS HV
    clear h1
    cases h2 : validPen d.ss.length (wrD d.ps) with
    | false =>
      rw [h2] at HP HV
      have HF := hide (show chk d.d = 40 by unfold chk; rw [HV.out]; rfl)
      clear h2
      go_enter Try.func57, Try.ntmps57
      go_wp2_with fail
      refine (HS.out _ HB.out).mono ?_
      rintro e w' ⟨rfl, rfl⟩
      go_wp2_with fail
      refine (HP.out _ HB.out).mono ?_
      rintro e w' ⟨rfl, hb'⟩
      have HBN := hide (HB.out.trans (hb'.mono (by simp)))
      clear hb'
      go_wp2_with fail
      go_ret
      exact ⟨by rw [HF.out]; rfl, HBN.out⟩
    | true =>
      rw [h2] at HP HV
      clear h2
      have HK := hide (fun w' (hb' : Below (w.alloc (.cells d.cs.toArray 25)).heap.size (w.alloc (.cells d.cs.toArray 25)) w') => (show w'.cell? ⟨w.heap.size, 2, none⟩ = some (.int .i64 d.left) from (hb'.cell (p := ⟨w.heap.size, 2, none⟩) (by simp)).trans HX.out.2.2.1))
      by_cases h3 : d.left < -1
      · have HF := hide (show chk d.d = 40 by unfold chk; rw [HV.out]; simp; omega)
        go_enter Try.func57, Try.ntmps57
        go_wp2_with fail
        refine (HS.out _ HB.out).mono ?_
        rintro e w' ⟨rfl, rfl⟩
        go_wp2_with fail
        refine (HP.out _ HB.out).mono ?_
        rintro e w' ⟨rfl, hb'⟩
        have f2 := HK.out w' hb'
        have HBN := hide (HB.out.trans (hb'.mono (by simp)))
        clear hb'
        go_wp2_with fail
        go_ret
        exact ⟨by rw [HF.out]; rfl, HBN.out⟩
      · by_cases h4 : 65536 < d.left
        · have HF := hide (show chk d.d = 40 by unfold chk; rw [HV.out]; simp; omega)
          go_enter Try.func57, Try.ntmps57
          go_wp2_with fail
          refine (HS.out _ HB.out).mono ?_
          rintro e w' ⟨rfl, rfl⟩
          go_wp2_with fail
          refine (HP.out _ HB.out).mono ?_
          rintro e w' ⟨rfl, hb'⟩
          have f2 := HK.out w' hb'
          have HBN := hide (HB.out.trans (hb'.mono (by simp)))
          clear hb'
          go_wp2_with fail
          go_ret
          exact ⟨by rw [HF.out]; rfl, HBN.out⟩
        · have HF := hide (show chk d.d = 0 by unfold chk; rw [HV.out]; simp; omega)
          go_enter Try.func57, Try.ntmps57
          go_wp2_with fail
          refine (HS.out _ HB.out).mono ?_
          rintro e w' ⟨rfl, rfl⟩
          go_wp2_with fail
          refine (HP.out _ HB.out).mono ?_
          rintro e w' ⟨rfl, hb'⟩
          have f2 := HK.out w' hb'
          have HBN := hide (HB.out.trans (hb'.mono (by simp)))
          clear hb'
          go_wp2_with fail
          go_ret
          exact ⟨by rw [HF.out]; rfl, HBN.out⟩

set_option maxRecDepth 10000 in
set_option maxHeartbeats 800000 in
theorem runs_any (d : Dsk) (w : World) (hi : d.In n0 w) :
    Calls Try.prog 51 #[d.v] w fun e w' => e = .returned (.bool d.d.runs) ∧ Below w.heap.size w w' := by
  have HB := hide (below_new w (.cells d.cs.toArray 25))
  have HC := hide (check_any d (w.alloc (.cells d.cs.toArray 25)) (hi.below HB.out))
  have HR := hide (show d.d.runs = (!d.stp && d.d.valid) from rfl)
  clear hi
  cases hs : d.stp with
  | true =>
    have HF := hide (show d.d.runs = false by rw [HR.out, hs]; rfl)
    go_enter Try.func51, Try.ntmps51
    go_wp2_with fail
    go_ret
    exact ⟨by rw [HF.out]; rfl, by rw [← hs]; exact HB.out⟩
  | false =>
    cases hv : d.d.valid with
    | true =>
      have HF := hide (show d.d.runs = true by rw [HR.out, hs, hv]; rfl)
      have HC0 := hide (show chk d.d = 0 by simp [chk, hv])
      rw [HC0.out] at HC
      clear hv
      go_enter Try.func51, Try.ntmps51
      go_wp2_with fail
      rw [← hs]
      refine HC.out.mono ?_
      rintro e w' ⟨rfl, hb'⟩
      have HBN := hide (HB.out.trans (hb'.mono (by simp)))
      clear hb'
      go_wp2_with fail
      go_ret
      exact ⟨by rw [HF.out]; rfl, HBN.out⟩
    | false =>
      have HF := hide (show d.d.runs = false by rw [HR.out, hs, hv]; rfl)
      have HC0 := hide (show chk d.d = 40 by simp [chk, hv])
      rw [HC0.out] at HC
      clear hv
      go_enter Try.func51, Try.ntmps51
      go_wp2_with fail
      rw [← hs]
      refine HC.out.mono ?_
      rintro e w' ⟨rfl, hb'⟩
      have HBN := hide (HB.out.trans (hb'.mono (by simp)))
      clear hb'
      go_wp2_with fail
      go_ret
      exact ⟨by rw [HF.out]; rfl, HBN.out⟩
end Go.Proofs.Ytgigccgklahddaa
