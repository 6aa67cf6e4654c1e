/- DiskStopped: the walk. -/
import Derived.Test.YtfhfmnlkpcmgfaaWSp
namespace Go.Proofs.Ytfhfmnlkpcmgfaa
open Go.RowKit

/-- The box of a disk that is made to have stopped. -/
theorem Env.halt {n0 : Nat} {w W : World} {l : List (Nat × Dsk)} {m : List Sec} (h : Env n0 w l m W) {X : Nat} {d : Dsk} (hX : (X, d) ∈ l) : Env n0 w [(X, { d with stp := true })] m (W.setCell ⟨X, 3, none⟩ (.bool true)) := by
  obtain ⟨hb, hw, hn, hi⟩ := h.box _ hX
  have hg : W.grownBy (W.setCell ⟨X, 3, none⟩ (.bool true)) (some X) := only_setCell (only_refl _ _) (.inl rfl) _
  refine ⟨h.bel.setCell hw _, fun p hp => ?_, fun s hs => (h.secs s hs).keep hb hn hg⟩
  obtain rfl : p = _ := by simpa using hp
  have hi' := hi.keep hb hn hg
  exact ⟨hb.set 3 _, hw, hn, ⟨hi'.sec, hi'.pen, hi'.left⟩⟩
theorem restart_lit {n0 : Nat} (d : Dsk) (w : World) (hi : d.In n0 w) : Calls Try.prog 17 #[d.v] w fun e w' => e = .returned (.agg #[.slice d.sa d.ss.length d.sc, .slice none 0 0, .int .i64 (-1), .bool false]) ∧ Below w.heap.size w w' :=
  (restart_any d w hi).mono fun e w' ⟨x, h1, _, _, h2, h3, h4, h5, h6, h7, h8, h9, h10⟩ => by
    obtain ⟨xa, xs, xc, xb, xp, xd, xl, xt⟩ := x
    simp only at h2 h3 h4 h5 h6 h7 h8 h9
    subst h2 h3 h4 h5 h6 h7 h8 h9
    exact ⟨h1, h10⟩
/-- A disk behind a restart. -/
abbrev Dsk.re (d : Dsk) : Dsk := ⟨d.sa, d.ss, d.sc, none, [], 0, -1, false⟩
theorem Dsk.In.re {n0 : Nat} {d : Dsk} {W : World} (h : d.In n0 W) : d.re.In n0 W := ⟨h.sec, wrsIn_nil _, left_m1⟩
theorem halt_runs (d : Dsk) : Dk.runs (Dsk.d { d with stp := true }) = false := by simp [Dk.runs, Dsk.d]

set_option maxRecDepth 100000 in
set_option maxHeartbeats 6400000 in
theorem stopped_walk (d : Dsk) (i n : Int) (b : Sec) (w : World) (hi : d.In w.heap.size w) (hb0 : b.In w.heap.size w) (hri : -9223372036854775808 ≤ i ∧ i ≤ 9223372036854775807) (hsh : Short d) :
    Calls Try.prog 9 #[d.v, .int .i64 i, .int .i64 n, b.v] w fun e w' => e = .returned (.bool true) ∧ Below w.heap.size w w' := by
  have H0 := hide (env_one (m := [b]) hi (fun s hs => by obtain rfl : s = b := (by simpa using hs); exact hb0))
  have HRI := hide hri
  have HSH := hide hsh
  have hcs1 : d.ss.length ≤ d.sc := hi.sec.le
  have hcs2 : d.sc ≤ 9223372036854775807 := hi.sec.top
  clear hi hb0 hri hsh
  go_enter Try.func9, Try.ntmps9
  go_wp2_with fail
  refine (sane_any _).mono ?_
  rintro e w1 ⟨rfl, hb⟩
  have H1 := hide (H0.out.below hb)
  clear hb H0
  obtain ⟨hbx, -, -, hix⟩ := H1.out.box (w.heap.size, d) (by simp)
  obtain ⟨c0, c1, c2, c3⟩ := hbx.c4
  have HFW := hide (few_any d w1 hix HSH.out.1 HSH.out.2)
  clear hbx hix
  go_wp2_with fail
  refine HFW.out.mono ?_
  rintro e w2 ⟨f, rfl, hb⟩
  have H2 := hide (H1.out.below hb)
  clear hb H1 HFW c0 c1 c2 c3
  cases f with
  | false =>
    go_wp2_with fail
    go_ret
    exact ⟨rfl, H2.out.bel⟩
  | true =>
    by_cases hl : 1000 < b.l.length
    · have hl' : (1000 : Int) < b.l.length := by omega
      go_wp2_with fail
      go_ret
      exact ⟨rfl, H2.out.bel⟩
    · have hl' : (b.l.length : Int) ≤ 1000 := by omega
      obtain ⟨hbx, -, -, hix⟩ := H2.out.box (w.heap.size, d) (by simp)
      obtain ⟨c0, c1, c2, c3⟩ := hbx.c4
      have HR1 := hide (restart_lit d w2 hix)
      have HIX := hide hix
      clear hbx hix
      go_wp2_with fail
      refine HR1.out.mono ?_
      rintro e w3 ⟨rfl, hb⟩
      have H3 : Hid (Env w.heap.size w [(w3.heap.size, d.re), (w.heap.size, d)] [b] (w3.alloc (.cells #[.slice d.sa d.ss.length d.sc, .slice none 0 0, .int .i64 (-1), .bool false] 25))) := hide ((H2.out.below hb).new (Nat.le_refl _) ((HIX.out.re).below hb))
      clear hb H2 HR1 HIX c0 c1 c2 c3
      obtain ⟨hbx, -, -, hix⟩ := H3.out.box (w3.heap.size, d.re) (by simp)
      have hbx : Blk (w3.alloc (.cells #[.slice d.sa d.ss.length d.sc, .slice none 0 0, .int .i64 (-1), .bool false] 25)) w3.heap.size 25 [.slice d.sa d.ss.length d.sc, .slice none 0 0, .int .i64 (-1), .bool false] := hbx
      obtain ⟨c0, c1, c2, c3⟩ := hbx.c4
      have HR1 := hide (restart_lit d.re _ hix)
      have HIX := hide hix
      clear hbx hix
      go_wp2_with fail
      refine HR1.out.mono ?_
      rintro e w4 ⟨rfl, hb⟩
      have H4 : Hid (Env w.heap.size w [(w4.heap.size, d.re), (w3.heap.size, d.re), (w.heap.size, d)] [b] (w4.alloc (.cells #[.slice d.sa d.ss.length d.sc, .slice none 0 0, .int .i64 (-1), .bool false] 25))) := hide ((H3.out.below hb).new (Nat.le_refl _) ((HIX.out.re).below hb))
      clear hb H3 HR1 HIX c0 c1 c2 c3
      obtain ⟨hbx, -, -, hix⟩ := H4.out.box (w3.heap.size, d.re) (by simp)
      obtain ⟨hby, -, -, hiy⟩ := H4.out.box (w4.heap.size, d.re) (by simp)
      have hbx : Blk (w4.alloc (.cells #[.slice d.sa d.ss.length d.sc, .slice none 0 0, .int .i64 (-1), .bool false] 25)) w3.heap.size 25 [.slice d.sa d.ss.length d.sc, .slice none 0 0, .int .i64 (-1), .bool false] := hbx
      have hby : Blk (w4.alloc (.cells #[.slice d.sa d.ss.length d.sc, .slice none 0 0, .int .i64 (-1), .bool false] 25)) w4.heap.size 25 [.slice d.sa d.ss.length d.sc, .slice none 0 0, .int .i64 (-1), .bool false] := hby
      obtain ⟨c0, c1, c2, c3⟩ := hbx.c4
      obtain ⟨e0, e1, e2, e3⟩ := hby.c4
      have HSM := hide (same_any d.re d.re _ hix hiy rfl)
      clear hbx hby hix hiy
      go_wp2_with fail
      refine HSM.out.mono ?_
      rintro e w5 ⟨rfl, hb⟩
      have H5 := hide (H4.out.below hb)
      clear hb H4 HSM c0 c1 c2 c3 e0 e1 e2 e3
      obtain ⟨hbx, -, -, -⟩ := H5.out.box (w3.heap.size, d.re) (by simp)
      have hbx : Blk w5 w3.heap.size 25 [.slice d.sa d.ss.length d.sc, .slice none 0 0, .int .i64 (-1), .bool false] := hbx
      obtain ⟨hby, -, -, -⟩ := H5.out.box (w.heap.size, d) (by simp)
      obtain ⟨c0, c1, c2, c3⟩ := hbx.c4
      obtain ⟨e0, e1, e2, e3⟩ := hby.c4
      clear hbx hby
      go_wp2_with fail
      clear c0 c1 c2 c3 e0 e1 e2 e3
      go_loopw [11] (fun i wr => ∃ k : Nat, k ≤ d.ss.length ∧ i = .int .i64 k ∧ Hid (Below w5.heap.size w5 wr)) (fun i _ => d.ss.length - (intOf i).toNat)
      case atStart => exact ⟨0, Nat.zero_le _, rfl, hide (Below.refl _ _)⟩
      case round =>
        obtain ⟨k, hk, rfl, hb⟩ := hrel
        have H6 := hide (H5.out.below hb.out)
        obtain ⟨hbx, -, -, -⟩ := H6.out.box (w3.heap.size, d.re) (by simp)
        have hbx : Blk wr w3.heap.size 25 [.slice d.sa d.ss.length d.sc, .slice none 0 0, .int .i64 (-1), .bool false] := hbx
        obtain ⟨hby, -, -, hiy⟩ := H6.out.box (w.heap.size, d) (by simp)
        obtain ⟨c0, c1, c2, c3⟩ := hbx.c4
        obtain ⟨e0, e1, e2, e3⟩ := hby.c4
        by_cases hlt : k < d.ss.length
        · obtain ⟨bb, o, hA, -, hc⟩ := hiy.sec.at hlt
          rw [hA] at c0 e0
          have hv := fun n => ((hiy.sec.each _ (List.getElem_mem hlt)).below (below_dn _ wr n)).conv
          have HD := hide (fun n => hb.out.trans (below_dn _ wr n))
          clear hA hbx hby hiy
          generalize str (d.ss[k]).l = t at hv
          generalize d.ss[k] = s at hv hc
          go_wp2_with fail
          go_quiet (fail)
          go_wp2_with fail
          go_roundw
          case rel => exact ⟨k + 1, by omega, by go_num, hide (HD.out _)⟩
          case measure => simp [intOf]; omega
        · obtain rfl : k = d.ss.length := by omega
          have f3 := hby.free 3
          have H7 := hide (H6.out.halt (d := d) (X := w.heap.size) (by simp))
          clear hbx hby hiy c0 c1 c2 c3
          obtain ⟨hbx, -, -, hix⟩ := H7.out.box (w.heap.size, { d with stp := true }) (by simp)
          obtain ⟨c0, c1, c2, c3⟩ := hbx.c4
          have HRR := hide (read_is (i := i) (y := []) (n := 40) _ rfl (by simp [Dk.read, halt_runs]) hix)
          clear hbx hix hlt
          go_wp2_with fail
          refine HRR.out.mono ?_
          rintro e w8 ⟨s8, rfl, -, hi8, hb8⟩
          have H8 := hide (H7.out.below hb8)
          clear hi8 hb8 HRR c0 c1 c2 c3 e0 e1 e2 e3 f3
          obtain ⟨hbx, -, -, hix⟩ := H8.out.box (w.heap.size, { d with stp := true }) (by simp)
          obtain ⟨c0, c1, c2, c3⟩ := hbx.c4
          have HWR := hide (write_is (i := i) (b := b) (y := Dk.zero) (n := 40) _ rfl (by simp [Dk.write, halt_runs]) hix (H8.out.secs b (by simp)) HRI.out)
          clear hbx hix
          go_wp2_with fail
          refine HWR.out.mono ?_
          rintro e w9 ⟨x9, rfl, -, hi9, hb9⟩
          have H9 := hide ((H8.out.below hb9).new (Nat.le_refl _) hi9)
          clear hi9 hb9 HWR c0 c1 c2 c3 H8
          obtain ⟨hbx, -, -, hix⟩ := H9.out.box (w.heap.size, { d with stp := true }) (by simp)
          obtain ⟨c0, c1, c2, c3⟩ := hbx.c4
          have HSY := hide (sync_is (y := Dk.zero) (n := 40) _ rfl (by simp [Dk.sync, halt_runs]) hix)
          clear hbx hix
          go_wp2_with fail
          refine HSY.out.mono ?_
          rintro e w10 ⟨x10, rfl, -, hi9, hb9⟩
          have H10 := hide ((H9.out.below hb9).new (Nat.le_refl _) hi9)
          clear hi9 hb9 HSY c0 c1 c2 c3 H9
          obtain ⟨hbx, -, -, hix⟩ := H10.out.box (w.heap.size, { d with stp := true }) (by simp)
          obtain ⟨c0, c1, c2, c3⟩ := hbx.c4
          have HST := hide (stop_is (i := n) (y := Dk.zero) (n := 40) _ rfl (by simp [Dk.stop, halt_runs]) hix)
          clear hbx hix
          go_wp2_with fail
          refine HST.out.mono ?_
          rintro e w11 ⟨x11, rfl, -, hi9, hb9⟩
          have H11 := hide ((H10.out.below hb9).new (Nat.le_refl _) hi9)
          clear hi9 hb9 HST c0 c1 c2 c3 H10
          go_wp2_with fail
          go_ret
          exact ⟨rfl, H11.out.bel⟩
end Go.Proofs.Ytfhfmnlkpcmgfaa
