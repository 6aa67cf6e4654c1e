/- DiskSyncSpec: the walk. -/
import Derived.Test.YtfhfmnlkpcmgfaaWSp
import Derived.Test.YtfhfmnlkpcmgfaaRSynT
namespace Go.Proofs.Ytfhfmnlkpcmgfaa
open Go.RowKit

set_option maxRecDepth 100000 in
set_option maxHeartbeats 6400000 in
theorem sspec_walk (d : Dsk) (i : Int) (w : World) (hi : d.In w.heap.size w) (hsh : Short d) :
    Calls Try.prog 5 #[d.v, .int .i64 i] w fun e w' => e = .returned (.bool true) ∧ Below w.heap.size w w' := by
  have H0 := hide (env_one (m := []) hi (fun s hs => by cases hs))
  have HSH := hide hsh
  clear hi hsh
  go_enter Try.func5, Try.ntmps5
  go_wp2_with fail
  refine (sane_any _).mono ?_
  rintro e w1 ⟨rfl, hb⟩
  have H1 := hide (H0.out.below hb)
  clear hb H0
  obtain ⟨hbx, -, -, hix⟩ := H1.out.box (w.heap.size, d) (by simp)
  obtain ⟨c0, c1, c2, c3⟩ := hbx.c4
  have HFW := hide (few_any d w1 hix HSH.out.1 HSH.out.2)
  clear hbx hix
  go_wp2_with fail
  refine HFW.out.mono ?_
  rintro e w2 ⟨f, rfl, hb⟩
  have H2 := hide (H1.out.below hb)
  clear hb H1 HFW c0 c1 c2 c3
  cases f with
  | false =>
    go_wp2_with fail
    go_ret
    exact ⟨rfl, H2.out.bel⟩
  | true =>
    obtain ⟨hbx, -, -, hix⟩ := H2.out.box (w.heap.size, d) (by simp)
    obtain ⟨c0, c1, c2, c3⟩ := hbx.c4
    have HC3 := hide (sync_any d _ hix)
    clear hbx hix
    go_wp2_with fail
    refine HC3.out.mono ?_
    rintro e w3 ⟨x1, rfl, hd, hi, hb⟩
    have HD1 := hide hd
    have H3 := hide ((H2.out.below hb).new (Nat.le_refl _) hi)
    clear hb hi hd H2 HC3 c0 c1 c2 c3
    obtain ⟨hbx, -, -, hix⟩ := H3.out.box (w.heap.size, d) (by simp)
    obtain ⟨c0, c1, c2, c3⟩ := hbx.c4
    have HC4 := hide (rsync_any d _ hix)
    clear hbx hix
    go_wp2_with fail
    refine HC4.out.mono ?_
    rintro e w4 ⟨x2, rfl, hd, hi, hb⟩
    have HD2 := hide hd
    have H4 := hide ((H3.out.below hb).new (Nat.le_refl _) hi)
    clear hb hi hd H3 HC4 c0 c1 c2 c3
    obtain ⟨hbx, -, -, hix⟩ := H4.out.box (w.heap.size, d) (by simp)
    obtain ⟨c0, c1, c2, c3⟩ := hbx.c4
    have HC5 := hide (stop_any d i _ hix)
    clear hbx hix
    go_wp2_with fail
    refine HC5.out.mono ?_
    rintro e w5 ⟨x3, rfl, hd, hi, hb⟩
    have HD3 := hide hd
    have H5 := hide ((H4.out.below hb).new (Nat.le_refl _) hi)
    clear hb hi hd H4 HC5 c0 c1 c2 c3
    obtain ⟨hbx, -, -, hix⟩ := H5.out.box (w.heap.size, d) (by simp)
    obtain ⟨c0, c1, c2, c3⟩ := hbx.c4
    have HC6 := hide (rstop_any d i _ hix)
    clear hbx hix
    go_wp2_with fail
    refine HC6.out.mono ?_
    rintro e w6 ⟨x4, rfl, hd, hi, hb⟩
    have HD4 := hide hd
    have H6 := hide ((H5.out.below hb).new (Nat.le_refl _) hi)
    clear hb hi hd H5 HC6 c0 c1 c2 c3
    generalize d.d.sync.2 = m1 at *
    generalize (d.d.stop i).2 = m2 at *
    obtain ⟨hbx, -, -, hix⟩ := H6.out.box (w3.heap.size, x1) (by simp)
    obtain ⟨hby, -, -, hiy⟩ := H6.out.box (w4.heap.size, x2) (by simp)
    obtain ⟨c0, c1, c2, c3⟩ := hbx.c4
    obtain ⟨e0, e1, e2, e3⟩ := hby.c4
    have HSM := hide (same_any x1 x2 _ hix hiy (HD1.out.trans HD2.out.symm))
    clear hbx hby hix hiy
    go_wp2_with fail
    refine HSM.out.mono ?_
    rintro e w7 ⟨rfl, hb⟩
    have H7 := hide (H6.out.below hb)
    clear hb H6 HSM c0 c1 c2 c3 e0 e1 e2 e3
    obtain ⟨hbx, -, -, hix⟩ := H7.out.box (w5.heap.size, x3) (by simp)
    obtain ⟨hby, -, -, hiy⟩ := H7.out.box (w6.heap.size, x4) (by simp)
    obtain ⟨c0, c1, c2, c3⟩ := hbx.c4
    obtain ⟨e0, e1, e2, e3⟩ := hby.c4
    have HSM := hide (same_any x3 x4 _ hix hiy (HD3.out.trans HD4.out.symm))
    clear hbx hby hix hiy
    go_wp2_with fail
    refine HSM.out.mono ?_
    rintro e w8 ⟨rfl, hb⟩
    have H8 := hide (H7.out.below hb)
    clear hb H7 HSM c0 c1 c2 c3 e0 e1 e2 e3
    go_wp2_with fail
    go_ret
    exact ⟨rfl, H8.out.bel⟩
end Go.Proofs.Ytfhfmnlkpcmgfaa
