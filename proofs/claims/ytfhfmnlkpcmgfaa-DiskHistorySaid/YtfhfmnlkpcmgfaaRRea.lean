/- Read of the reference. -/
import Derived.Test.YtfhfmnlkpcmgfaaRWri2
namespace Go.Proofs.Ytfhfmnlkpcmgfaa
open Go.RowKit
variable {n0 : Nat}

/-- A call that answers bytes and an error. -/
def AnsB (n0 : Nat) (w : World) (x : List UInt8 × Int) (e : Ending) (w' : World) : Prop := ∃ s : Sec, e = .returned (.tuple #[s.v, .int .i64 x.2]) ∧ s.l = x.1 ∧ s.In n0 w' ∧ Below w.heap.size w w'
theorem sec_nil (W : World) : Sec.In n0 ⟨none, [], 0⟩ W := ⟨Cels.nil _ _, Nat.le_refl _, Nat.zero_le _, fun _ => rfl⟩
theorem AnsB.zero {w w' : World} {x : List UInt8 × Int} {n : Int} (hx : x = ([], n)) (hb : Below w.heap.size w w') : AnsB n0 w x (.returned (.tuple #[.slice none 0 0, .int .i64 n])) w' := by
  subst hx
  exact ⟨⟨none, [], 0⟩, rfl, rfl, sec_nil _, hb⟩
/-- The one block of a call over a disk. -/
abbrev one (d : Dsk) (w : World) : World := w.alloc (.cells #[.slice d.sa d.ss.length d.sc, .slice d.pa d.ps.length d.pc, .int .i64 d.left, .bool d.stp] 25)
theorem lastW_take {i : Int} {s : List UInt8} {p : List (Int × List UInt8)} {k : Nat} (h : k < p.length) : lastW i s (p.take (k + 1)) = if (p[k]).1 = i then (p[k]).2 else lastW i s (p.take k) := by
  unfold lastW
  rw [List.take_succ_eq_append_getElem h, List.foldl_append]
  rfl

set_option maxRecDepth 10000 in
set_option maxHeartbeats 3200000 in
theorem rread_bad (d : Dsk) (i : Int) (w : World) (hi : d.In n0 w) (hx : (d.d.runs && d.d.has i) = false) :
    Calls Try.prog 22 #[d.v, .int .i64 i] w (AnsB n0 w (d.d.read i)) := by
  have HI := hide hi
  have HT := hide (show Below w.heap.size w (one d w) from below_new _ _)
  have HB := hide (show Blk (one d w) w.heap.size 25 d.cs from Blk.new w 25 d.cs)
  have HX := hide (show d.d.read i = ([], 40) by simp [Dk.read, hx])
  clear hi
  cases hv : d.d.valid with
  | false =>
    have HC := hide (rcheck_no (one d w) hv (HI.out.below HT.out))
    clear hv hx
    go_enter Try.func22, Try.ntmps22
    go_wp2_with fail
    refine HC.out.mono ?_
    rintro e w1 ⟨rfl, hb⟩
    have HK := hide (show Below w.heap.size w w1 from HT.out.trans (hb.mono HT.out.size))
    clear hb
    go_wp2_with fail
    go_ret2
    exact AnsB.zero HX.out HK.out
  | true =>
    have HC := hide (rcheck_ok (one d w) hv (HI.out.below HT.out))
    have hc : ∃ s : Bool, Hid (d.stp = s) ∧ (s = true ∨ (s = false ∧ i < 0) ∨ (s = false ∧ 0 ≤ i ∧ decide ((d.ss.length : Int) ≤ i) = true)) := by
      refine ⟨d.stp, hide rfl, ?_⟩
      simp only [Dk.runs, hv, Bool.and_true, has_eq, hasB, Bool.and_eq_false_iff, Bool.not_eq_false', decide_eq_false_iff_not] at hx
      have h2 : d.d.stp = d.stp := rfl
      rw [h2] at hx
      cases hs : d.stp
      · rw [hs] at hx
        simp at hx ⊢
        omega
      · exact .inl rfl
    clear hv hx
    rcases hc with ⟨s, HS, rfl | ⟨rfl, hc⟩ | ⟨rfl, h0, hc⟩⟩
    all_goals
      go_enter Try.func22, Try.ntmps22
      go_wp2_with fail
      refine HC.out.mono ?_
      rintro e w1 ⟨rfl, hb⟩
      have HK := hide (show Below w.heap.size w w1 from HT.out.trans (hb.mono HT.out.size))
      obtain ⟨c0, c1, c2, c3⟩ := (HB.out.below hb HB.out.lt).c4
      rw [HS.out] at c3
      clear hb
      go_wp2_with fail
      go_ret2
      exact AnsB.zero HX.out HK.out

set_option maxRecDepth 10000 in
set_option maxHeartbeats 3200000 in
theorem rread_ok (d : Dsk) (i : Nat) (w : World) (hi : d.In n0 w) (hr : d.d.runs = true) (hh : d.d.has i = true) :
    Calls Try.prog 22 #[d.v, .int .i64 i] w (AnsB n0 w (d.d.read i)) := by
  have HX := hide (show d.d.read i = (lastW i (d.d.sec.getD i []) d.d.pen, 0) by simp [Dk.read, hr, hh])
  obtain ⟨hs, hv⟩ : d.stp = false ∧ d.d.valid = true := by
    have h2 : d.d.stp = d.stp := rfl
    simpa [Dk.runs, h2] using hr
  have HC0 := hide (fun W (hI : d.In n0 W) => rcheck_ok W hv hI)
  have hh2 := hh
  rw [has_eq] at hh2
  obtain ⟨q1, q2⟩ := hasB_iff.1 hh2
  obtain ⟨sa, ss, sc, pa, ps, pc, left, stp⟩ := d
  simp only at hs q2
  subst hs
  have q3 : i < ss.length := by omega
  have HI := hide hi
  have HT := hide (show Below w.heap.size w (one ⟨sa, ss, sc, pa, ps, pc, left, false⟩ w) from below_new _ _)
  have HB := hide (show Blk (one ⟨sa, ss, sc, pa, ps, pc, left, false⟩ w) w.heap.size 25 _ from Blk.new w 25 [.slice sa ss.length sc, .slice pa ps.length pc, .int .i64 left, .bool false])
  have HC := hide (HC0.out _ (HI.out.below HT.out))
  have hle : ps.length ≤ pc := hi.pen.le
  have hpc : pc ≤ 9223372036854775807 := hi.pen.top
  have HL := hide (wrD_len ps)
  have HSD := hide (show (Dsk.d ⟨sa, ss, sc, pa, ps, pc, left, false⟩).sec.getD i [] = ss[i].l by
    show (secD ss).getD i [] = _
    rw [List.getD_eq_getElem?_getD, List.getElem?_eq_getElem (by rw [secD_len]; exact q3), secD_get]
    rfl)
  obtain ⟨bs0, os0, rfl, hbl, hcs⟩ := hi.sec.at q3
  have HCS := hide hcs
  clear hi hr hh hh2 hv HC0 hcs
  go_enter Try.func22, Try.ntmps22
  go_wp2_with fail
  refine HC.out.mono ?_
  rintro e w1 ⟨rfl, hb⟩
  have HK := hide (show Below w.heap.size w w1 from HT.out.trans (hb.mono HT.out.size))
  obtain ⟨c0, c1, c2, c3⟩ := (HB.out.below hb HB.out.lt).c4
  have cs1 := (HK.out.cell (p := ⟨bs0, os0 + i, none⟩) hbl).trans HCS.out
  have q2' : decide ((ss.length : Int) ≤ (i : Int)) = false := by simp; omega
  have HI0 := hide (show (ss[i]).In n0 w1 ∧ (ss[i]).l = lastW i (ss[i]).l ((wrD ps).take 0) from ⟨(HI.out.sec.each _ (List.getElem_mem q3)).below HK.out, by simp [lastW]⟩)
  clear hb
  generalize ss[i] = s0 at *
  go_wp2_with fail
  go_loop [7, 6] (fun j v => ∃ (k : Nat) (s : Sec), k ≤ ps.length ∧ j = .int .i64 k ∧ v = s.v ∧ Hid (s.In n0 w1 ∧ s.l = lastW i s0.l ((wrD ps).take k))) (fun j _ => ps.length - (intOf j).toNat)
  case atStart => exact ⟨0, s0, Nat.zero_le _, rfl, rfl, HI0⟩
  case round =>
    obtain ⟨k, s, hk, rfl, rfl, hs⟩ := hrel
    clear HI0 cs1
    by_cases hlt : k < ps.length
    · obtain ⟨b, o, rfl, hbb, d0, d1⟩ := (HI.out.pen.below HK.out).at hlt
      by_cases he : (ps[k]).pos = i
      · have he' : ((ps[k]).pos == (i : Int)) = true := by simp [he]
        have HN := hide (show (ps[k]).s.In n0 w1 ∧ (ps[k]).s.l = lastW i s0.l ((wrD ps).take (k + 1)) from ⟨((HI.out.pen.each _ (List.getElem_mem hlt)).1).below HK.out, by
          rw [lastW_take (by rw [HL.out]; exact hlt), wrD_get]; exact (if_pos (c := (ps[k]).d.1 = (i : Int)) he).symm⟩)
        clear he
        generalize ps[k] = p at *
        go_wp2_with fail
        go_round
        case rel => exact ⟨k + 1, p.s, by omega, by go_num, rfl, HN⟩
        case measure => simp [intOf]; omega
      · have he' : ((ps[k]).pos == (i : Int)) = false := by simp [he]
        have HN := hide (show s.In n0 w1 ∧ s.l = lastW i s0.l ((wrD ps).take (k + 1)) from ⟨hs.out.1, by
          rw [lastW_take (by rw [HL.out]; exact hlt), wrD_get]; exact hs.out.2.trans (if_neg (c := (ps[k]).d.1 = (i : Int)) he).symm⟩)
        clear he
        generalize ps[k] = p at *
        go_wp2_with fail
        go_round
        case rel => exact ⟨k + 1, s, by omega, by go_num, rfl, HN⟩
        case measure => simp [intOf]; omega
    · obtain rfl : k = ps.length := by omega
      have HF := hide (show s.In n0 w1 ∧ s.l = lastW i s0.l (wrD ps) from ⟨hs.out.1, by rw [hs.out.2, List.take_of_length_le (by rw [HL.out]; exact Nat.le_refl _)]⟩)
      go_wp2_with fail
      go_ret2
      rw [HX.out, HSD.out]
      exact ⟨s, rfl, HF.out.2, HF.out.1, HK.out⟩
theorem rread_any (d : Dsk) (i : Int) (w : World) (hi : d.In n0 w) : Calls Try.prog 22 #[d.v, .int .i64 i] w (AnsB n0 w (d.d.read i)) := by
  cases hx : d.d.runs && d.d.has i with
  | false => exact rread_bad d i w hi hx
  | true =>
    simp only [Bool.and_eq_true] at hx
    have h := hx.2
    rw [has_eq] at h
    obtain ⟨n, rfl⟩ := Int.eq_ofNat_of_zero_le (hasB_iff.1 h).1
    exact rread_ok d n w hi hx.1 hx.2
end Go.Proofs.Ytfhfmnlkpcmgfaa
