/- DiskReads: the walk. -/
import Derived.Test.YtfhfmnlkpcmgfaaPur
import Derived.Test.YtfhfmnlkpcmgfaaWSp
namespace Go.Proofs.Ytfhfmnlkpcmgfaa
open Go.RowKit

theorem conv_prefix {n0 : Nat} {s : Sec} {W : World} {b : List UInt8} (h : s.In n0 W) (hs : s.l = padS b) (hb : b.length ≤ 128) (c : Nat) : (convert 35 9 (.slice s.A b.length c)).run Try.prog W = .ok (.string (str b)) W := by
  obtain ⟨A, l, cap⟩ := s
  simp only at hs
  subst hs
  cases b with
  | nil => exact run_convert_bytes_zero W 35 5 Try.underlying35 Try.underlying5 A c 9 Try.underlying9
  | cons x r =>
    obtain ⟨bb, o, e, hlt, hc⟩ := h.cels.at (k := 0) (by rw [bs_len]; simp only [padS_len]; decide)
    simp only at e
    subst e
    refine run_convert_bytes_back (P := Try.prog) W 35 9 5 ⟨bb, o, none⟩ c (x :: r) Try.underlying35 Try.underlying5 Try.underlying9 fun j hj => ?_
    rw [Addr.add_mid]
    have := hc j (by rw [bs_len]; simp only [padS_len]; omega)
    rw [bs_get] at this
    rw [this]
    have e2 : (padS (x :: r))[j]'(by rw [padS_len]; omega) = (x :: r)[j] := by
      have : (padS (x :: r))[j]? = (x :: r)[j]? := by
        unfold padS
        rw [List.getElem?_take_of_lt (by omega), List.getElem?_append_left hj]
      rw [List.getElem?_eq_getElem (by rw [padS_len]; omega), List.getElem?_eq_getElem hj] at this
      exact Option.some.inj this
    simp only [e2]

set_option maxRecDepth 100000 in
set_option maxHeartbeats 6400000 in
theorem reads_walk (d : Dsk) (i j : Int) (b c : Sec) (w : World) (hi : d.In w.heap.size w) (hb0 : b.In w.heap.size w) (hc0 : c.In w.heap.size w) (hri : -9223372036854775808 ≤ i ∧ i ≤ 9223372036854775807) (hrj : -9223372036854775808 ≤ j ∧ j ≤ 9223372036854775807) (hsh : Short d) :
    Calls Try.prog 7 #[d.v, .int .i64 i, .int .i64 j, b.v, c.v] w fun e w' => e = .returned (.bool true) ∧ Below w.heap.size w w' := by
  have H0 := hide (env_one (m := [b, c]) hi (fun s hs => by
    simp only [List.mem_cons, List.not_mem_nil, or_false] at hs
    rcases hs with rfl | rfl
    · exact hb0
    · exact hc0))
  have HRI := hide hri
  have HRJ := hide hrj
  have HSH := hide hsh
  have hcs1 : d.ss.length ≤ d.sc := hi.sec.le
  have hcs2 : d.sc ≤ 9223372036854775807 := hi.sec.top
  clear hi hb0 hc0 hri hrj hsh
  go_enter Try.func7, Try.ntmps7
  go_wp2_with fail
  refine (sane_any _).mono ?_
  rintro e w1 ⟨rfl, hb⟩
  have H1 := hide (H0.out.below hb)
  clear hb H0
  obtain ⟨hbx, -, -, hix⟩ := H1.out.box (w.heap.size, d) (by simp)
  obtain ⟨c0, c1, c2, c3⟩ := hbx.c4
  have HFW := hide (few_any d w1 hix HSH.out.1 HSH.out.2)
  clear hbx hix
  go_wp2_with fail
  refine HFW.out.mono ?_
  rintro e w2 ⟨f, rfl, hb⟩
  have H2 := hide (H1.out.below hb)
  clear hb H1 HFW c0 c1 c2 c3
  by_cases hg : f = true ∧ b.l.length ≤ 128 ∧ c.l.length ≤ 128
  · obtain ⟨rfl, hl1, hl2⟩ := hg
    have hl1' : (b.l.length : Int) ≤ 128 := by omega
    have hl2' : (c.l.length : Int) ≤ 128 := by omega
    obtain ⟨hbx, -, -, hix⟩ := H2.out.box (w.heap.size, d) (by simp)
    obtain ⟨c0, c1, c2, c3⟩ := hbx.c4
    by_cases hr : d.d.runs = true ∧ d.d.has j = true
    · obtain ⟨hr, hhj⟩ := hr
      have HRD := hide (read_is w2 rfl (read_ok' hr hhj) hix)
      by_cases hw : d.d.runs = true ∧ d.d.has i = true ∧ b.l.length ≤ 128 ∧ d.d.pen.length ≠ 4096
      · obtain ⟨-, hhi, -, hpl⟩ := hw
        have HWE := hide (write_ok hr hhi hl1 hpl)
        have HXR := hide (plus_runs (b := b.l) hr hhi hpl)
        have HHI := hide (show (d.d.plus i b.l).has i = true from hhi)
        have HHJ := hide (show (d.d.plus i b.l).has j = true from hhj)
        clear hbx hix hpl hr hhi hhj
        go_wp2_with fail
        refine HRD.out.mono ?_
        rintro e w3 ⟨sb, rfl, hsb, hi3, hb⟩
        have HSB := hide hsb
        have H3 := hide ((H2.out.below hb).add hi3)
        clear hsb hi3 hb H2 HRD c0 c1 c2 c3
        obtain ⟨hbx, -, -, hix⟩ := H3.out.box (w.heap.size, d) (by simp)
        obtain ⟨c0, c1, c2, c3⟩ := hbx.c4
        have HWR := hide (write_is _ rfl HWE.out hix (H3.out.secs b (by simp)) HRI.out)
        clear hbx hix
        go_wp2_with fail
        refine HWR.out.mono ?_
        rintro e w4 ⟨x, rfl, hx, hi4, hb⟩
        have HX := hide hx
        have H4 := hide ((H3.out.below hb).new (Nat.le_refl _) hi4)
        clear hx hi4 hb H3 HWR c0 c1 c2 c3
        obtain ⟨hbx, -, -, hix⟩ := H4.out.box (w4.heap.size, x) (by simp)
        obtain ⟨c0, c1, c2, c3⟩ := hbx.c4
        have HRD := hide (read_is _ HX.out (read_ok' HXR.out HHJ.out) hix)
        clear hbx hix
        go_wp2_with fail
        refine HRD.out.mono ?_
        rintro e w5 ⟨sa, rfl, hsa, hi5, hb⟩
        have HSA := hide hsa
        have H5 := hide ((H4.out.below hb).add hi5)
        clear hsa hi5 hb H4 HRD c0 c1 c2 c3
        obtain ⟨hbx, -, -, hix⟩ := H5.out.box (w4.heap.size, x) (by simp)
        obtain ⟨c0, c1, c2, c3⟩ := hbx.c4
        have HRD := hide (read_is _ HX.out (read_ok' HXR.out HHI.out) hix)
        clear hbx hix
        go_wp2_with fail
        refine HRD.out.mono ?_
        rintro e w6 ⟨sm, rfl, hsm, hi6, hb⟩
        have HSM := hide (show sm.l = padS b.l by rw [hsm]; show lastW i _ (d.d.pen ++ [(i, padS b.l)]) = _; rw [lastW_more]; exact if_pos rfl)
        have H6 := hide ((H5.out.below hb).add hi6)
        clear hsm hi6 hb H5 HRD c0 c1 c2 c3
        have hv1 := fun n => conv_prefix ((H6.out.secs sm (by simp)).below (below_dn _ w6 n)) HSM.out hl1 sm.cap
        have hv2 := fun n => ((H6.out.secs b (by simp)).below (below_dn _ w6 n)).conv
        have hv3 := fun n => ((H6.out.secs sb (by simp)).below (below_dn _ w6 n)).conv
        have hv4 := fun n => ((H6.out.secs sa (by simp)).below (below_dn _ w6 n)).conv
        have hml : sm.l.length = 128 := by rw [HSM.out]; exact padS_len _
        obtain ⟨mb, mo, hmA, -, -⟩ := (H6.out.secs sm (by simp)).cels.at (k := 0) (by rw [bs_len, hml]; decide)
        have HMC := hide ((H6.out.secs sm (by simp)).le)
        have hmc : 128 ≤ sm.cap := by have := HMC.out; rw [hml] at this; exact this
        have v1 : sm.v = .slice (some ⟨mb, mo, none⟩) 128 sm.cap := by simp [Sec.v, hmA, hml]
        rw [v1]
        rw [hmA] at hv1
        clear v1 hmA hml
        go_upto_region 11 with (fail)
        go_cut [106] from 74 to 106 (fun y W => y = .bool false ∧ Hid (Below w6.heap.size w6 W))
        case first =>
          by_cases hij : i = j
          · have hij' : (i != j) = false := by simp [hij]
            clear hij
            go_quiet (fail)
            go_wp2_with fail
            go_meet
            case rel => exact ⟨rfl, hide (below_dn _ _ _)⟩
          · have hij' : (i != j) = true := by simp [hij]
            have hsa : sa.l = sb.l := by rw [HSA.out, lastW_more, HSB.out]; exact if_neg (fun h => hij h)
            rw [hsa] at hv4
            clear hij hsa
            go_quiet (fail)
            go_wp2_with fail
            go_meet
            case rel => exact ⟨rfl, hide (below_dn _ _ _)⟩
        case rest =>
          obtain ⟨rfl, hb⟩ := hcut
          have H7 := hide (H6.out.below hb.out)
          clear hb hv1 hv2 hv3 hv4 H6 HMC hmc
          generalize wc = w7 at *
          obtain ⟨hbx, -, -, hix⟩ := H7.out.box (w4.heap.size, x) (by simp)
          obtain ⟨c0, c1, c2, c3⟩ := hbx.c4
          by_cases hpl : (d.d.plus i b.l).pen.length = 4096
          · have HWR := hide (write_is (i := j) (b := c) (y := Dk.zero) (n := 2) w7 HX.out (by simp only [Dk.write, HXR.out, HHJ.out, Bool.and_self, if_true]; rw [if_neg (by omega), if_pos hpl]) hix (H7.out.secs c (by simp)) HRJ.out)
            clear hbx hix hpl
            go_wp2_with fail
            refine HWR.out.mono ?_
            rintro e w8 ⟨y, rfl, -, hi8, hb⟩
            have H8 := hide ((H7.out.below hb).new (Nat.le_refl _) hi8)
            clear hi8 hb H7 HWR c0 c1 c2 c3
            go_wp2_with fail
            go_ret
            exact ⟨rfl, H8.out.bel⟩
          · have HWR := hide (write_is (i := j) (b := c) w7 HX.out (write_ok HXR.out HHJ.out hl2 hpl) hix (H7.out.secs c (by simp)) HRJ.out)
            have HYR := hide (plus_runs (b := c.l) HXR.out HHJ.out hpl)
            have HYH := hide (show ∀ k : Int, ((d.d.plus i b.l).plus j c.l).has k = true ↔ 0 ≤ k ∧ k < d.ss.length from fun k => by rw [dhas_iff]; show 0 ≤ k ∧ k < ((secD d.ss).length : Int) ↔ _; rw [secD_len])
            clear hbx hix hpl
            generalize (d.d.plus i b.l).plus j c.l = Y at *
            go_wp2_with fail
            refine HWR.out.mono ?_
            rintro e w8 ⟨y, rfl, hy, hi8, hb⟩
            have HY := hide hy
            have H8 := hide ((H7.out.below hb).new (Nat.le_refl _) hi8)
            clear hy hi8 hb H7 HWR c0 c1 c2 c3
            obtain ⟨hbx, -, -, hix⟩ := H8.out.box (w8.heap.size, y) (by simp)
            obtain ⟨c0, c1, c2, c3⟩ := hbx.c4
            by_cases hst : Y.left ≠ -1 ∧ Y.left < Y.pen.length
            · have HSY := hide (sync_is _ HY.out (sync_not HYR.out hst) hix)
              clear hbx hix hst
              go_wp2_with fail
              refine HSY.out.mono ?_
              rintro e w9 ⟨z, rfl, hz, hi9, hb⟩
              have hzs : z.stp = true := congrArg Dk.stp hz
              have H9 := hide ((H8.out.below hb).new (Nat.le_refl _) hi9)
              clear hz hi9 hb H8 HSY c0 c1 c2 c3
              obtain ⟨hbx, -, -, -⟩ := H9.out.box (w9.heap.size, z) (by simp)
              obtain ⟨c0, c1, c2, c3⟩ := hbx.c4
              clear hbx
              go_wp2_with fail
              go_ret
              exact ⟨rfl, by rw [← hzs]; exact H9.out.bel⟩
            · have hst' : Y.left = -1 ∨ (Y.pen.length : Int) ≤ Y.left := by omega
              have HSY := hide (sync_is _ HY.out (show Y.sync = (Y.sync.1, 0) by rw [sync_all HYR.out hst']) hix)
              have HZR := hide (sync_runs HYR.out hst')
              have HZS := hide (show Y.sync.1.sec = perf Y.sec Y.pen ∧ Y.sync.1.pen = [] by rw [sync_all HYR.out hst']; exact ⟨rfl, rfl⟩)
              have HYP := hide (show (∀ p ∈ Y.pen, 0 ≤ p.1) ∧ Y.sec.length = d.ss.length from ⟨fun p hp => by
                obtain ⟨q, hq, rfl⟩ := List.getElem_of_mem hp
                exact ((runs_iff.1 HYR.out).2.2.1.2 q hq).1, by
                have h1 := HYH.out ((d.ss.length : Int) - 1)
                have h2 := HYH.out (d.ss.length : Int)
                have h3 := (runs_iff.1 HYR.out).2.1.1
                rw [dhas_iff] at h1 h2
                omega⟩)
              clear hbx hix hst hst'
              go_wp2_with fail
              refine HSY.out.mono ?_
              rintro e w9 ⟨z, rfl, hz, hi9, hb⟩
              have HZ := hide hz
              have H9 := hide ((H8.out.below hb).new (Nat.le_refl _) hi9)
              clear hz hi9 hb H8 HSY c0 c1 c2 c3
              go_wp2_with fail
              have hn9 : w.heap.size ≤ w9.heap.size := by have := (H9.out.box (w9.heap.size, z) (by simp)).2.1; exact this
              generalize w9.alloc (.cells z.cs.toArray 25) = wA at *
              go_loopw [23] (fun i wr => ∃ k : Nat, k ≤ d.ss.length ∧ i = .int .i64 k ∧ Hid (Below wA.heap.size wA wr)) (fun i _ => d.ss.length - (intOf i).toNat)
              case atStart => exact ⟨0, Nat.zero_le _, rfl, hide (Below.refl _ _)⟩
              case round =>
                obtain ⟨k, hk, rfl, hb⟩ := hrel
                have HA := hide (H9.out.below hb.out)
                obtain ⟨hbd, -, -, -⟩ := HA.out.box (w.heap.size, d) (by simp)
                obtain ⟨e0, e1, e2, e3⟩ := hbd.c4
                by_cases hlt : k < d.ss.length
                · have HK1 := hide ((HYH.out (k : Int)).2 ⟨by omega, by omega⟩)
                  have HK2 : Hid (Y.sync.1.has (k : Int) = true) := hide (dhas_iff.2 ⟨by omega, by rw [HZS.out.1, perf_len, HYP.out.2]; omega⟩)
                  have HEQ : Hid (lastW k (Y.sync.1.sec.getD (k : Int).toNat []) Y.sync.1.pen = lastW k (Y.sec.getD (k : Int).toNat []) Y.pen) := hide (by
                    rw [HZS.out.1, HZS.out.2, Int.toNat_natCast, perf_get k HYP.out.1 (by rw [HYP.out.2]; exact hlt)]
                    rfl)
                  obtain ⟨hby, -, -, hiy⟩ := HA.out.box (w8.heap.size, y) (by simp)
                  obtain ⟨c0, c1, c2, c3⟩ := hby.c4
                  have HR1 := hide (read_is (i := k) wr HY.out (read_ok' HYR.out HK1.out) hiy)
                  clear hbd hby hiy
                  go_wp2_with fail
                  refine HR1.out.mono ?_
                  rintro e v1 ⟨s1, rfl, hs1, hi1, hb1⟩
                  have HS1 := hide hs1
                  have HB1 := hide (below_one hb.out hb1)
                  have HA1 := hide ((HA.out.below hb1).add hi1)
                  clear hs1 hi1 hb1 c0 c1 c2 c3 e0 e1 e2 e3 HR1 HA
                  obtain ⟨hbz, -, -, hiz⟩ := HA1.out.box (w9.heap.size, z) (by simp)
                  obtain ⟨c0, c1, c2, c3⟩ := hbz.c4
                  have HR1 := hide (read_is (i := k) v1 HZ.out (read_ok' HZR.out HK2.out) hiz)
                  clear hbz hiz
                  go_wp2_with fail
                  refine HR1.out.mono ?_
                  rintro e v2 ⟨s2, rfl, hs2, hi2, hb2⟩
                  have HS2 := hide hs2
                  have HB2 := hide (below_one HB1.out hb2)
                  have HA2 := hide ((HA1.out.below hb2).add hi2)
                  clear hs2 hi2 hb2 c0 c1 c2 c3 HR1 HA1
                  have q1 := (HA2.out.secs s1 (by simp)).conv
                  have q2 := (HA2.out.secs s2 (by simp)).conv
                  rw [HS1.out] at q1
                  rw [HS2.out, HEQ.out] at q2
                  go_wp2_with fail
                  go_roundw
                  case rel => exact ⟨k + 1, by omega, by go_num, HB2⟩
                  case measure => simp [intOf]; omega
                · obtain rfl : k = d.ss.length := by omega
                  obtain ⟨hbz, -, -, hiz⟩ := HA.out.box (w9.heap.size, z) (by simp)
                  obtain ⟨c0, c1, c2, c3⟩ := hbz.c4
                  have hzp : z.ps.length = 0 := by
                    have : z.d.pen = [] := by rw [HZ.out]; exact HZS.out.2
                    have h2 : (wrD z.ps).length = 0 := by rw [show wrD z.ps = z.d.pen from rfl, this]; rfl
                    rwa [wrD_len] at h2
                  have HCK : Hid (Calls Try.prog 15 #[z.v] wr fun e w' => e = .returned (.int .i64 0) ∧ Below wr.heap.size wr w') := hide (by
                    have := check_any z wr hiz
                    rwa [show chk z.d = 0 by unfold chk; rw [HZ.out]; have := HZR.out; simp [Dk.runs] at this; simp [this.2]] at this)
                  rw [show z.v = .agg #[.slice z.sa z.ss.length z.sc, .slice z.pa z.ps.length z.pc, .int .i64 z.left, .bool z.stp] from rfl, hzp] at HCK
                  clear hbz hiz hbd hlt
                  go_wp2_with fail
                  refine HCK.out.mono ?_
                  rintro e v1 ⟨rfl, hb1⟩
                  have HB1 := hide (below_one HA.out.bel hb1)
                  clear hb1
                  go_wp2_with fail
                  go_ret
                  exact ⟨rfl, HB1.out⟩
      · obtain ⟨n, hwe, hn⟩ := write_no hw
        have HWE := hide hwe
        clear hbx hix hw hwe hr
        go_wp2_with fail
        refine HRD.out.mono ?_
        rintro e w3 ⟨sb, rfl, hsb, hi3, hb⟩
        have H3 := hide ((H2.out.below hb).add hi3)
        clear hsb hi3 hb H2 HRD c0 c1 c2 c3
        obtain ⟨hbx, -, -, hix⟩ := H3.out.box (w.heap.size, d) (by simp)
        obtain ⟨c0, c1, c2, c3⟩ := hbx.c4
        have HWR := hide (write_is _ rfl HWE.out hix (H3.out.secs b (by simp)) HRI.out)
        clear hbx hix
        go_wp2_with fail
        refine HWR.out.mono ?_
        rintro e w4 ⟨x, rfl, hx, hi4, hb⟩
        have H4 := hide ((H3.out.below hb).new (Nat.le_refl _) hi4)
        clear hx hi4 hb H3 HWR c0 c1 c2 c3
        go_wp2_with fail
        go_ret
        exact ⟨rfl, H4.out.bel⟩
    · have hr' : (d.d.runs && d.d.has j) = false := bool_false fun h => hr (by simpa using h)
      have HRD := hide (read_is w2 rfl (read_no hr') hix)
      clear hbx hix hr hr'
      go_wp2_with fail
      refine HRD.out.mono ?_
      rintro e w3 ⟨sb, rfl, hsb, hi3, hb⟩
      have H3 := hide ((H2.out.below hb).add hi3)
      clear hsb hi3 hb H2 HRD c0 c1 c2 c3
      obtain ⟨hbx, -, -, hix⟩ := H3.out.box (w.heap.size, d) (by simp)
      obtain ⟨c0, c1, c2, c3⟩ := hbx.c4
      have HWR := hide (write_any d i b _ hix (H3.out.secs b (by simp)) HRI.out)
      clear hbx hix
      go_wp2_with fail
      refine HWR.out.mono ?_
      rintro e w4 ⟨x, rfl, hx, hi4, hb⟩
      have H4 := hide ((H3.out.below hb).new (Nat.le_refl _) hi4)
      clear hx hi4 hb H3 HWR c0 c1 c2 c3
      go_wp2_with fail
      go_ret
      exact ⟨rfl, H4.out.bel⟩
  · have hc : f = false ∨ (f = true ∧ (128 : Int) < b.l.length) ∨ (f = true ∧ (b.l.length : Int) ≤ 128 ∧ (128 : Int) < c.l.length) := by
      cases f
      · exact .inl rfl
      · simp at hg ⊢; omega
    clear hg
    rcases hc with rfl | ⟨rfl, h1⟩ | ⟨rfl, h1, h2⟩
    all_goals
      go_wp2_with fail
      go_ret
      exact ⟨rfl, H2.out.bel⟩
end Go.Proofs.Ytfhfmnlkpcmgfaa
