/- DiskHistory: the walk. -/
import Derived.Test.YtfhfmnlkpcmgfaaHwl
namespace Go.Proofs.Ytfhfmnlkpcmgfaa
open Go.RowKit

set_option maxRecDepth 100000 in
set_option maxHeartbeats 12800000 in
theorem history_walk (A : Option Addr) (l : List Ac) (cap : Nat) (left : UInt8) (w : World) (ha : Acs w.heap.size A l cap w) :
    Calls Try.prog 6 #[.slice A l.length cap, .int .u8 (left.toNat : Nat)] w fun e w' => e = .returned (.bool true) ∧ Below w.heap.size w w' := by
  have HAC := hide ha
  have hla : l.length ≤ cap := ha.le
  have hlb : cap ≤ 9223372036854775807 := ha.top
  have hl8 : left.toNat < 256 := left.toNat_lt
  clear ha
  go_enter Try.func6, Try.ntmps6
  go_wp2_with fail
  refine (sane_any _).mono ?_
  rintro e w1 ⟨rfl, hb⟩
  have H1 : Hid (Env w.heap.size w [] [] w1) := hide ⟨hb, fun p hp => (by cases hp), fun s hs => (by cases hs)⟩
  clear hb
  by_cases hl : 40 < l.length
  · have hl' : (40 : Int) < l.length := by omega
    go_wp2_with fail
    go_ret
    exact ⟨rfl, H1.out.bel⟩
  · have hl' : (l.length : Int) ≤ 40 := by omega
    have HL := hide hl
    clear hl
    go_wp2_with fail
    refine (new_ok (n0 := w.heap.size) 4 _ (by decide) (by decide)).mono ?_
    rintro e w2 ⟨d0, rfl, hd0, hi, hb⟩
    have HD0 := hide (show d0.d = hd [0, 0, 0, 0] [0, 0, 0, 0] [] (-1) from hd0.trans (congrArg Prod.fst new_hd))
    have H2 := hide ((H1.out.below hb).new (Nat.le_refl _) hi)
    clear hd0 hi hb H1
    obtain ⟨hbx, -, -, hix⟩ := H2.out.box (w2.heap.size, d0) (by simp)
    obtain ⟨c0, c1, c2, c3⟩ := hbx.c4
    have HST := hide (stop_is (i := (left.toNat : Int)) (y := hd [0, 0, 0, 0] [0, 0, 0, 0] [] (left.toNat : Int)) (n := 0) _ HD0.out (by
      unfold Dk.stop
      rw [if_pos (hd_runs rfl rfl (by decide) (by decide)), if_pos (by omega)]
      rfl) hix)
    have hw64 : IntKind.i64.wrap (left.toNat : Int) = (left.toNat : Int) := wrap_small _ hl8
    clear hbx hix
    go_wp2_with fail
    refine HST.out.mono ?_
    rintro e w3 ⟨d1, rfl, hd1, hi, hb⟩
    have HD1 := hide hd1
    have HXB := hide (show Blk w3 w2.heap.size 25 d0.cs from ((H2.out.below hb).box (w2.heap.size, d0) (by simp)).1)
    have H3 := hide ((H2.out.below hb).put1 (y := d1) hi (fun p hp => by cases hp))
    clear hd1 hi hb H2 c0 c1 c2 c3 HST HD0
    have HW0 := hide (show ∀ W, Below (w3.setRow w2.heap.size #[.slice d1.sa d1.ss.length d1.sc, .slice d1.pa d1.ps.length d1.pc, .int .i64 d1.left, .bool d1.stp]).heap.size (w3.setRow w2.heap.size #[.slice d1.sa d1.ss.length d1.sc, .slice d1.pa d1.ps.length d1.pc, .int .i64 d1.left, .bool d1.stp]) W → ∀ W1 W2 W3, W1 = W.alloc (.cells #[.int .u8 0, .int .u8 0, .int .u8 0, .int .u8 0] 44) → W2 = W1.alloc (.cells #[.int .u8 0, .int .u8 0, .int .u8 0, .int .u8 0] 44) → W3 = W2.alloc (.cells #[.int .u8 0, .int .u8 0, .int .u8 0, .int .u8 0] 44) → HW w [(w2.heap.size, d1)] W.heap.size [0, 0, 0, 0] [0, 0, 0, 0] [0, 0, 0, 0] (some ⟨W.heap.size + 1 + 1 + 1, 0, none⟩) 0 [] (W3.alloc (.cells #[] 46)) from fun W hW W1 W2 W3 e1 e2 e3 => by
      subst e1 e2 e3
      have h := H3.out.below hW
      have hh := h.bel.size
      have b1 := Blk.new W 44 (bs [0, 0, 0, 0])
      have b2 := Blk.new (W.alloc (.cells #[.int .u8 0, .int .u8 0, .int .u8 0, .int .u8 0] 44)) 44 (bs [0, 0, 0, 0])
      have b3 := Blk.new ((W.alloc (.cells #[.int .u8 0, .int .u8 0, .int .u8 0, .int .u8 0] 44)).alloc (.cells #[.int .u8 0, .int .u8 0, .int .u8 0, .int .u8 0] 44)) 44 (bs [0, 0, 0, 0])
      have o := own_empty (((W.alloc (.cells #[.int .u8 0, .int .u8 0, .int .u8 0, .int .u8 0] 44)).alloc (.cells #[.int .u8 0, .int .u8 0, .int .u8 0, .int .u8 0] 44)).alloc (.cells #[.int .u8 0, .int .u8 0, .int .u8 0, .int .u8 0] 44)) w.heap.size 46 3 (by simp only [World.size_alloc]; omega)
      simp only [World.size_alloc] at b2 b3 o
      exact ⟨(((h.alloc _).alloc _).alloc _).alloc _, o, ((b1.alloc _).alloc _).alloc _, (b2.alloc _).alloc _, b3.alloc _, hh⟩)
    go_wp2_with (refine wpList_store_row rfl 25 (.tmp 5) (.tmp 35) rfl _ #[.slice d1.sa d1.ss.length d1.sc, .slice d1.pa d1.ps.length d1.pc, .int .i64 d1.left, .bool d1.stp] rfl rfl 25 _ HXB.out Try.size25 rfl (one25 _ _ _ _ _ _ _ _) ?_)
    have HS0 : Hid (HW w [(w2.heap.size, d1)] w3.heap.size [0, 0, 0, 0] [0, 0, 0, 0] [0, 0, 0, 0] (some ⟨w3.heap.size + 1 + 1 + 1, 0, none⟩) 0 [] _) := hide (by
      have := HW0.out _ (Below.refl _ _) _ _ _ rfl rfl rfl
      rw [show (w3.setRow w2.heap.size #[.slice d1.sa d1.ss.length d1.sc, .slice d1.pa d1.ps.length d1.pc, .int .i64 d1.left, .bool d1.stp]).heap.size = w3.heap.size by simp] at this
      exact this)
    clear HW0 H3 HXB hw64
    generalize w3.heap.size = x8 at *
    generalize w2.heap.size = a5 at *
    go_loopw [13, 11, 12] (fun i qv r wr => ∃ (k : Nat) (B : List UInt8) (q : List Ac) (room : Nat) (A' : Option Addr) (cap' : Nat) (d : Dsk), k ≤ l.length ∧ i = .int .i64 k ∧ qv = .slice A' q.length cap' ∧ r = .int .i64 room ∧ Hid (HW w [(a5, d)] x8 (ups B q) B B A' cap' q wr) ∧ Hid (d.d = hd B B q room ∧ B.length = 4 ∧ room < 256 ∧ q.length ≤ k)) (fun i _ _ _ => l.length - (intOf i).toNat)
    case atStart => exact ⟨0, [0, 0, 0, 0], [], left.toNat, _, 0, d1, Nat.zero_le _, rfl, rfl, rfl, HS0, hide ⟨HD1.out, rfl, hl8, Nat.zero_le _⟩⟩
    case round =>
      clear HS0 HD1
      obtain ⟨k, B, q, room, A', cap', d, hk, rfl, rfl, rfl, HE, HD⟩ := hrel
      by_cases hlt : k < l.length
      · have hlt' : (k : Int) < l.length := by omega
        obtain ⟨bb, o, hA, hbb, e0, e1, e2⟩ := HAC.out.at hlt
        have f0 := (HE.out.env.bel.cell (p := ⟨bb, o + k * 3, none⟩) hbb).trans e0
        have f1 := (HE.out.env.bel.cell (p := ⟨bb, o + k * 3 + 1, none⟩) hbb).trans e1
        have f2 := (HE.out.env.bel.cell (p := ⟨bb, o + k * 3 + 2, none⟩) hbb).trans e2
        have HAX := hide hA
        generalize l[k] = ac at f0 f1 f2
        obtain ⟨syn, pos, byte⟩ := ac
        simp only at f0 f1 f2
        subst hA
        clear hbb e0 e1 e2
        cases syn with
        | false =>
          have H5 := hide (HE.out.below (below_new wr (.cells #[.bool false, .int .u8 (pos.toNat : Nat), .int .u8 (byte.toNat : Nat)] 46)))
          have HY := hide (Blk.new wr 46 [.bool false, .int .u8 (pos.toNat : Nat), .int .u8 (byte.toNat : Nat)])
          have HYW := hide (HE.out.env.bel.size)
          obtain ⟨hD, hB4, hroom, hq⟩ := HD.out
          have HDD := hide hD
          have HL4 := hide hB4
          have HRM := hide (And.intro hroom hq)
          have hqn : q.length ≤ 40 := by have := HL.out; omega
          obtain ⟨p, hp⟩ : ∃ p, p = pos.toNat % 4 := ⟨_, rfl⟩
          have hp4 : p < 4 := by omega
          have HPP := hide hp
          have htm : (pos.toNat : Int).tmod 4 = (p : Int) := by rw [Int.tmod_eq_emod_of_nonneg (by omega), hp]; omega
          have hw64 : IntKind.i64.wrap (p : Int) = (p : Int) := wrap_small _ (by omega)
          have hw8 : IntKind.u8.wrap (p : Int) = (p : Int) := wrap8_small _ (by omega)
          have HDI := hide ((H5.out.env.box (a5, d) (by simp)).2.2.2)
          have HDX := hide ((H5.out.env.box (a5, d) (by simp)).1)
          have HWR := hide (show ∀ W X, d.In w.heap.size W → Blk W X 5 (bs (dblS byte)) → Calls Try.prog 19 #[d.v, .int .i64 (p : Int), .slice (some ⟨X, 0, none⟩) 128 128] W fun e w' => ∃ d' : Dsk, e = .returned (.tuple #[d'.v, .int .i64 0]) ∧ d'.d = hd B B (q ++ [⟨false, pos, byte⟩]) room ∧ d'.In w.heap.size w' ∧ Below W.heap.size W w' from fun W X hi hX => by
            have h128 : (dblS byte).length = 128 := half_len _ _
            have := write_is (b := ⟨some ⟨X, 0, none⟩, dblS byte, 128⟩) (i := (p : Int)) (y := hd B B (q ++ [⟨false, pos, byte⟩]) room) (n := 0) W hD (by rw [hp]; exact hd_write hB4 hB4 (by omega) (by omega) ⟨false, pos, byte⟩) hi (blk_in (n0 := w.heap.size) hX (by omega) (by decide)) ⟨by omega, by omega⟩
            simp only [Sec.v, h128] at this
            exact this)
          go_upto_region 17 with (fail)
          clear f0 f1 f2 hp hD hB4 hroom hq
          go_cut [15, 16] from 60 to 70 (fun u v W => ∃ (g : Nat) (z : Dsk), u = .pointer (some ⟨g, 0, none⟩) ∧ v = .int .i64 0 ∧ Hid (z.d = hd B B (q ++ [⟨false, pos, byte⟩]) room) ∧ Hid (HW w [(g, z), (a5, d)] x8 (ups B q) B B A' cap' q W) ∧ Hid (Blk W wr.heap.size 46 [.bool false, .int .u8 (pos.toNat : Nat), .int .u8 (byte.toNat : Nat)]))
          case first =>
            have HWD := hide (H5.out.below (Below.refl _ _).drew)
            have HYD : Hid (Blk (wr.alloc (.cells #[.bool false, .int .u8 (pos.toNat : Nat), .int .u8 (byte.toNat : Nat)] 46)).drew wr.heap.size 46 [.bool false, .int .u8 (pos.toNat : Nat), .int .u8 (byte.toNat : Nat)]) := hide HY.out
            have HDB := hide (show ∀ W', Below (wr.alloc (.cells #[.bool false, .int .u8 (pos.toNat : Nat), .int .u8 (byte.toNat : Nat)] 46)).drew.heap.size (wr.alloc (.cells #[.bool false, .int .u8 (pos.toNat : Nat), .int .u8 (byte.toNat : Nat)] 46)).drew W' → Blk W' a5 25 d.cs from fun W' hW => (HWD.out.env.box (a5, d) (by simp)).1.below hW (HWD.out.env.box (a5, d) (by simp)).1.lt)
            have HYB := hide (show ∀ W', Below (wr.alloc (.cells #[.bool false, .int .u8 (pos.toNat : Nat), .int .u8 (byte.toNat : Nat)] 46)).drew.heap.size (wr.alloc (.cells #[.bool false, .int .u8 (pos.toNat : Nat), .int .u8 (byte.toNat : Nat)] 46)).drew W' → Blk W' wr.heap.size 46 [.bool false, .int .u8 (pos.toNat : Nat), .int .u8 (byte.toNat : Nat)] from fun W' hW => HYD.out.below hW HYD.out.lt)
            have HDI0 : Hid (d.In w.heap.size (wr.alloc (.cells #[.bool false, .int .u8 (pos.toNat : Nat), .int .u8 (byte.toNat : Nat)] 46)).drew) := hide (HDI.out.below (Below.refl _ _).drew)
            refine wp_region_plan3 (fun w' => Below (wr.alloc (.cells #[.bool false, .int .u8 (pos.toNat : Nat), .int .u8 (byte.toNat : Nat)] 46)).drew.heap.size (wr.alloc (.cells #[.bool false, .int .u8 (pos.toNat : Nat), .int .u8 (byte.toNat : Nat)] 46)).drew w') (.take 0 (.take 1 (.take 2 (.take 3 (.take 4 (.take 5 (.take 6 (.both 7 (.both 8 (.take 9 (.take 10 (.take 11 (.run 12 (.run 13 (.run 14 .done)))))) 12 (.run 8 (.take 9 (.take 10 (.take 11 (.run 13 (.run 14 .done))))))) 12 (.run 7 (.run 8 (.take 9 (.take 10 (.take 11 (.run 13 (.run 14 .done))))))))))))))) (by kernel_rfl) (by kernel_rfl) (Below.refl _ _) ?_
            generalize (wr.alloc (.cells #[.bool false, .int .u8 (pos.toNat : Nat), .int .u8 (byte.toNat : Nat)] 46)).drew = wD at *
            have HB0 := hide (Below.refl wD.heap.size wD)
            (refine plan3_take (o := ?_) (v := ?_) (by simp only [List.getElem?_toArray, List.getElem?_cons_zero]; rfl) (yields_run (by rfl) ?_) ?_; rotate_left; (focus (intro w' hw'; obtain ⟨q0, q1, q2, q3⟩ := (HDB.out w' hw').c4; obtain ⟨r0, r1, r2⟩ := (HYB.out w' hw').c3; go_simp <;> with_reducible rfl)); (simp only [Act.put, List.setIfInBounds_toArray, List.set_cons_zero, List.set_cons_succ]))
            (refine plan3_take (o := ?_) (v := ?_) (by simp only [List.getElem?_toArray, List.getElem?_cons_succ, List.getElem?_cons_zero]; rfl) (yields_run (by rfl) ?_) ?_; rotate_left; (focus (intro w' hw'; obtain ⟨q0, q1, q2, q3⟩ := (HDB.out w' hw').c4; obtain ⟨r0, r1, r2⟩ := (HYB.out w' hw').c3; go_simp <;> with_reducible rfl)); (simp only [Act.put, List.setIfInBounds_toArray, List.set_cons_zero, List.set_cons_succ]))
            (refine plan3_take (o := ?_) (v := ?_) (by simp only [List.getElem?_toArray, List.getElem?_cons_succ, List.getElem?_cons_zero]; rfl) (yields_run (by rfl) ?_) ?_; rotate_left; (focus (intro w' hw'; obtain ⟨q0, q1, q2, q3⟩ := (HDB.out w' hw').c4; obtain ⟨r0, r1, r2⟩ := (HYB.out w' hw').c3; go_simp <;> with_reducible rfl)); (simp only [Act.put, List.setIfInBounds_toArray, List.set_cons_zero, List.set_cons_succ]))
            (refine plan3_take (o := ?_) (v := ?_) (by simp only [List.getElem?_toArray, List.getElem?_cons_succ, List.getElem?_cons_zero]; rfl) (yields_run (by rfl) ?_) ?_; rotate_left; (focus (intro w' hw'; obtain ⟨q0, q1, q2, q3⟩ := (HDB.out w' hw').c4; obtain ⟨r0, r1, r2⟩ := (HYB.out w' hw').c3; go_simp <;> with_reducible rfl)); (simp only [Act.put, List.setIfInBounds_toArray, List.set_cons_zero, List.set_cons_succ]))
            (refine plan3_take (o := ?_) (v := ?_) (by simp only [List.getElem?_toArray, List.getElem?_cons_succ, List.getElem?_cons_zero]; rfl) (yields_run (by rfl) ?_) ?_; rotate_left; (focus (intro w' hw'; obtain ⟨q0, q1, q2, q3⟩ := (HDB.out w' hw').c4; obtain ⟨r0, r1, r2⟩ := (HYB.out w' hw').c3; go_simp <;> with_reducible rfl)); (simp only [Act.put, List.setIfInBounds_toArray, List.set_cons_zero, List.set_cons_succ]))
            (refine plan3_take (o := ?_) (v := ?_) (by simp only [List.getElem?_toArray, List.getElem?_cons_succ, List.getElem?_cons_zero]; rfl) (yields_run (by rfl) ?_) ?_; rotate_left; (focus (intro w' hw'; obtain ⟨q0, q1, q2, q3⟩ := (HDB.out w' hw').c4; obtain ⟨r0, r1, r2⟩ := (HYB.out w' hw').c3; go_simp <;> with_reducible rfl)); (simp only [Act.put, List.setIfInBounds_toArray, List.set_cons_zero, List.set_cons_succ]))
            (refine plan3_take (o := ?_) (v := ?_) (by simp only [List.getElem?_toArray, List.getElem?_cons_succ, List.getElem?_cons_zero]; rfl) (yields_run (by rfl) ?_) ?_; rotate_left; (focus (intro w' hw'; obtain ⟨q0, q1, q2, q3⟩ := (HDB.out w' hw').c4; obtain ⟨r0, r1, r2⟩ := (HYB.out w' hw').c3; go_simp <;> with_reducible rfl)); (simp only [Act.put, List.setIfInBounds_toArray, List.set_cons_zero, List.set_cons_succ]))
            refine plan3_both (o1 := ?_) (o2 := ?_) (by simp only [List.getElem?_toArray, List.getElem?_cons_succ, List.getElem?_cons_zero]; rfl) (by simp only [List.getElem?_toArray, List.getElem?_cons_succ, List.getElem?_cons_zero]; rfl) ?_ ?_
            · intro R HR
              go_wp2_with fail
              refine (double_any byte _).mono ?_
              rintro e v2 ⟨rfl, hX, hb⟩
              try simp only [World.size_alloc] at hX
              have HB2 := hide (below_one HB0.out hb)
              have HX2 := hide hX
              clear hX hb
              go_wp2_with fail
              refine HR.out _ _ HB2.out ?_
              clear HR
              refine plan3_both (o1 := ?_) (o2 := ?_) (by simp only [List.getElem?_toArray, List.getElem?_cons_succ, List.getElem?_cons_zero]; rfl) (by simp only [List.getElem?_toArray, List.getElem?_cons_succ, List.getElem?_cons_zero]; rfl) ?_ ?_
              · intro R HR
                go_wp2_with fail
                (with_reducible refine (HWR.out _ _ (HDI0.out.below HB2.out) HX2.out).mono ?_)
                rintro e v3 ⟨z, rfl, hd, hi, hb⟩
                have HB3 := hide (below_one HB2.out hb)
                have HZ3 := hide hd
                have HZI3 := hide hi
                clear hd hi hb
                go_wp2_with fail
                refine HR.out _ _ HB3.out ?_
                clear HR
                (refine plan3_take (o := ?_) (v := ?_) (by simp only [List.getElem?_toArray, List.getElem?_cons_succ, List.getElem?_cons_zero]; rfl) (yields_run (by rfl) ?_) ?_; rotate_left; (focus (intro w' _; go_simp <;> with_reducible rfl)); (simp only [Act.put, List.setIfInBounds_toArray, List.set_cons_zero, List.set_cons_succ]))
                (refine plan3_take (o := ?_) (v := ?_) (by simp only [List.getElem?_toArray, List.getElem?_cons_succ, List.getElem?_cons_zero]; rfl) (yields_run (by rfl) ?_) ?_; rotate_left; (focus (intro w' _; go_simp <;> with_reducible rfl)); (simp only [Act.put, List.setIfInBounds_toArray, List.set_cons_zero, List.set_cons_succ]))
                (refine plan3_take (o := ?_) (v := ?_) (by simp only [List.getElem?_toArray, List.getElem?_cons_succ, List.getElem?_cons_zero]; rfl) (yields_run (by rfl) ?_) ?_; rotate_left; (focus (intro w' _; go_simp <;> with_reducible rfl)); (simp only [Act.put, List.setIfInBounds_toArray, List.set_cons_zero, List.set_cons_succ]))
                refine plan3_run (o := ?_) (by simp only [List.getElem?_toArray, List.getElem?_cons_succ, List.getElem?_cons_zero]; rfl) ?_
                intro R HR
                have HB4 := hide (below_one HB3.out (below_new v3 (.cells #[.slice none 0 0, .slice none 0 0, .int .i64 0, .bool false] 25)))
                have HG4 := hide (Blk.new v3 25 [.slice none 0 0, .slice none 0 0, .int .i64 0, .bool false])
                have HGE4 := hide HB3.out.size
                have HX4 := hide (HX2.out.alloc (.cells #[.slice none 0 0, .slice none 0 0, .int .i64 0, .bool false] 25))
                have HZI4 := hide (HZI3.out.below (below_new v3 (.cells #[.slice none 0 0, .slice none 0 0, .int .i64 0, .bool false] 25)))
                go_wp2_with fail
                refine HR.out _ _ HB4.out ?_
                clear HR
                refine plan3_run (o := ?_) (by simp only [List.getElem?_toArray, List.getElem?_cons_succ, List.getElem?_cons_zero]; rfl) ?_
                intro R HR
                have HGW := hide (show w.heap.size ≤ _ from Nat.le_trans HWD.out.env.bel.size HGE4.out)
                have HZF := hide (HZI4.out.keep HG4.out HGW.out (only_setRow (only_refl _ _) (.inl rfl) #[.slice z.sa z.ss.length z.sc, .slice z.pa z.ps.length z.pc, .int .i64 z.left, .bool z.stp]))
                have HBF := hide (below_setRow HB4.out HGE4.out #[.slice z.sa z.ss.length z.sc, .slice z.pa z.ps.length z.pc, .int .i64 z.left, .bool z.stp])
                have HGF := hide (HG4.out.row z.cs)
                refine wpList_store_row rfl 25 (.tmp 15) (.tmp 69) rfl _ #[.slice z.sa z.ss.length z.sc, .slice z.pa z.ps.length z.pc, .int .i64 z.left, .bool z.stp] rfl rfl 25 _ HG4.out Try.size25 rfl (one25 _ _ _ _ _ _ _ _) ?_
                refine HR.out _ _ HBF.out ?_
                clear HR
                refine plan3_run (o := ?_) (by simp only [List.getElem?_toArray, List.getElem?_cons_succ, List.getElem?_cons_zero]; rfl) ?_
                intro R HR
                go_wp2_with fail
                refine HR.out _ _ HBF.out ?_
                clear HR
                refine plan3_done ?_
                go_wp2_with fail
                go_meet
                case rel => exact ⟨_, z, rfl, rfl, HZ3, hide ((HWD.out.below HBF.out).cons HGF.out HGW.out HZF.out), hide (HYD.out.below HBF.out HYD.out.lt)⟩
              · intro R HR
                have HB3 := hide (below_one HB2.out (below_new v2 (.cells #[.slice none 0 0, .slice none 0 0, .int .i64 0, .bool false] 25)))
                have HG3 := hide (Blk.new v2 25 [.slice none 0 0, .slice none 0 0, .int .i64 0, .bool false])
                have HGE3 := hide HB2.out.size
                have HX3 := hide (HX2.out.alloc (.cells #[.slice none 0 0, .slice none 0 0, .int .i64 0, .bool false] 25))
                go_wp2_with fail
                refine HR.out _ _ HB3.out ?_
                clear HR
                refine plan3_run (o := ?_) (by simp only [List.getElem?_toArray, List.getElem?_cons_succ, List.getElem?_cons_zero]; rfl) ?_
                intro R HR
                go_wp2_with fail
                (with_reducible refine (HWR.out _ _ (HDI0.out.below HB3.out) HX3.out).mono ?_)
                rintro e v4 ⟨z, rfl, hd, hi, hb⟩
                have HB4 := hide (below_one HB3.out hb)
                have HZ4 := hide hd
                have HZI4 := hide hi
                have HG4 := hide (HG3.out.below hb HG3.out.lt)
                clear hd hi hb
                go_wp2_with fail
                refine HR.out _ _ HB4.out ?_
                clear HR
                (refine plan3_take (o := ?_) (v := ?_) (by simp only [List.getElem?_toArray, List.getElem?_cons_succ, List.getElem?_cons_zero]; rfl) (yields_run (by rfl) ?_) ?_; rotate_left; (focus (intro w' _; go_simp <;> with_reducible rfl)); (simp only [Act.put, List.setIfInBounds_toArray, List.set_cons_zero, List.set_cons_succ]))
                (refine plan3_take (o := ?_) (v := ?_) (by simp only [List.getElem?_toArray, List.getElem?_cons_succ, List.getElem?_cons_zero]; rfl) (yields_run (by rfl) ?_) ?_; rotate_left; (focus (intro w' _; go_simp <;> with_reducible rfl)); (simp only [Act.put, List.setIfInBounds_toArray, List.set_cons_zero, List.set_cons_succ]))
                (refine plan3_take (o := ?_) (v := ?_) (by simp only [List.getElem?_toArray, List.getElem?_cons_succ, List.getElem?_cons_zero]; rfl) (yields_run (by rfl) ?_) ?_; rotate_left; (focus (intro w' _; go_simp <;> with_reducible rfl)); (simp only [Act.put, List.setIfInBounds_toArray, List.set_cons_zero, List.set_cons_succ]))
                refine plan3_run (o := ?_) (by simp only [List.getElem?_toArray, List.getElem?_cons_succ, List.getElem?_cons_zero]; rfl) ?_
                intro R HR
                have HGW := hide (show w.heap.size ≤ _ from Nat.le_trans HWD.out.env.bel.size HGE3.out)
                have HZF := hide (HZI4.out.keep HG4.out HGW.out (only_setRow (only_refl _ _) (.inl rfl) #[.slice z.sa z.ss.length z.sc, .slice z.pa z.ps.length z.pc, .int .i64 z.left, .bool z.stp]))
                have HBF := hide (below_setRow HB4.out HGE3.out #[.slice z.sa z.ss.length z.sc, .slice z.pa z.ps.length z.pc, .int .i64 z.left, .bool z.stp])
                have HGF := hide (HG4.out.row z.cs)
                refine wpList_store_row rfl 25 (.tmp 15) (.tmp 69) rfl _ #[.slice z.sa z.ss.length z.sc, .slice z.pa z.ps.length z.pc, .int .i64 z.left, .bool z.stp] rfl rfl 25 _ HG4.out Try.size25 rfl (one25 _ _ _ _ _ _ _ _) ?_
                refine HR.out _ _ HBF.out ?_
                clear HR
                refine plan3_run (o := ?_) (by simp only [List.getElem?_toArray, List.getElem?_cons_succ, List.getElem?_cons_zero]; rfl) ?_
                intro R HR
                go_wp2_with fail
                refine HR.out _ _ HBF.out ?_
                clear HR
                refine plan3_done ?_
                go_wp2_with fail
                go_meet
                case rel => exact ⟨_, z, rfl, rfl, HZ4, hide ((HWD.out.below HBF.out).cons HGF.out HGW.out HZF.out), hide (HYD.out.below HBF.out HYD.out.lt)⟩
            · intro R HR
              have HB2 := hide (below_one HB0.out (below_new wD (.cells #[.slice none 0 0, .slice none 0 0, .int .i64 0, .bool false] 25)))
              have HG2 := hide (Blk.new wD 25 [.slice none 0 0, .slice none 0 0, .int .i64 0, .bool false])
              have HGE2 := hide HB0.out.size
              go_wp2_with fail
              refine HR.out _ _ HB2.out ?_
              clear HR
              refine plan3_run (o := ?_) (by simp only [List.getElem?_toArray, List.getElem?_cons_succ, List.getElem?_cons_zero]; rfl) ?_
              intro R HR
              go_wp2_with fail
              refine (double_any byte _).mono ?_
              rintro e v3 ⟨rfl, hX, hb⟩
              try simp only [World.size_alloc] at hX
              have HB3 := hide (below_one HB2.out hb)
              have HX3 := hide hX
              have HG3 := hide (HG2.out.below hb HG2.out.lt)
              clear hX hb
              go_wp2_with fail
              refine HR.out _ _ HB3.out ?_
              clear HR
              refine plan3_run (o := ?_) (by simp only [List.getElem?_toArray, List.getElem?_cons_succ, List.getElem?_cons_zero]; rfl) ?_
              intro R HR
              go_wp2_with fail
              (with_reducible refine (HWR.out _ _ (HDI0.out.below HB3.out) HX3.out).mono ?_)
              rintro e v4 ⟨z, rfl, hd, hi, hb⟩
              have HB4 := hide (below_one HB3.out hb)
              have HZ4 := hide hd
              have HZI4 := hide hi
              have HG4 := hide (HG3.out.below hb HG3.out.lt)
              clear hd hi hb
              go_wp2_with fail
              refine HR.out _ _ HB4.out ?_
              clear HR
              (refine plan3_take (o := ?_) (v := ?_) (by simp only [List.getElem?_toArray, List.getElem?_cons_succ, List.getElem?_cons_zero]; rfl) (yields_run (by rfl) ?_) ?_; rotate_left; (focus (intro w' _; go_simp <;> with_reducible rfl)); (simp only [Act.put, List.setIfInBounds_toArray, List.set_cons_zero, List.set_cons_succ]))
              (refine plan3_take (o := ?_) (v := ?_) (by simp only [List.getElem?_toArray, List.getElem?_cons_succ, List.getElem?_cons_zero]; rfl) (yields_run (by rfl) ?_) ?_; rotate_left; (focus (intro w' _; go_simp <;> with_reducible rfl)); (simp only [Act.put, List.setIfInBounds_toArray, List.set_cons_zero, List.set_cons_succ]))
              (refine plan3_take (o := ?_) (v := ?_) (by simp only [List.getElem?_toArray, List.getElem?_cons_succ, List.getElem?_cons_zero]; rfl) (yields_run (by rfl) ?_) ?_; rotate_left; (focus (intro w' _; go_simp <;> with_reducible rfl)); (simp only [Act.put, List.setIfInBounds_toArray, List.set_cons_zero, List.set_cons_succ]))
              refine plan3_run (o := ?_) (by simp only [List.getElem?_toArray, List.getElem?_cons_succ, List.getElem?_cons_zero]; rfl) ?_
              intro R HR
              have HGW := hide (show w.heap.size ≤ _ from Nat.le_trans HWD.out.env.bel.size HGE2.out)
              have HZF := hide (HZI4.out.keep HG4.out HGW.out (only_setRow (only_refl _ _) (.inl rfl) #[.slice z.sa z.ss.length z.sc, .slice z.pa z.ps.length z.pc, .int .i64 z.left, .bool z.stp]))
              have HBF := hide (below_setRow HB4.out HGE2.out #[.slice z.sa z.ss.length z.sc, .slice z.pa z.ps.length z.pc, .int .i64 z.left, .bool z.stp])
              have HGF := hide (HG4.out.row z.cs)
              refine wpList_store_row rfl 25 (.tmp 15) (.tmp 69) rfl _ #[.slice z.sa z.ss.length z.sc, .slice z.pa z.ps.length z.pc, .int .i64 z.left, .bool z.stp] rfl rfl 25 _ HG4.out Try.size25 rfl (one25 _ _ _ _ _ _ _ _) ?_
              refine HR.out _ _ HBF.out ?_
              clear HR
              refine plan3_run (o := ?_) (by simp only [List.getElem?_toArray, List.getElem?_cons_succ, List.getElem?_cons_zero]; rfl) ?_
              intro R HR
              go_wp2_with fail
              refine HR.out _ _ HBF.out ?_
              clear HR
              refine plan3_done ?_
              go_wp2_with fail
              go_meet
              case rel => exact ⟨_, z, rfl, rfl, HZ4, hide ((HWD.out.below HBF.out).cons HGF.out HGW.out HZF.out), hide (HYD.out.below HBF.out HYD.out.lt)⟩
          case rest =>
            obtain ⟨g, z, rfl, rfl, HZ, H6, HY6⟩ := hcut
            clear HWR HDI HDX H5 HY HE
            generalize wc = w6 at *
            obtain ⟨hbz, -, -, hiz⟩ := H6.out.env.box (g, z) (by simp)
            obtain ⟨c0, c1, c2, c3⟩ := hbz.c4
            have HXB := hide (show Blk w6 a5 25 d.cs from (H6.out.env.box (a5, d) (by simp)).1)
            have HY7 := hide (HY6.out.far (HY6.out.ne HXB.out (by omega)) #[.slice z.sa z.ss.length z.sc, .slice z.pa z.ps.length z.pc, .int .i64 z.left, .bool z.stp])
            have H7 := hide (H6.out.tail.put hiz)
            clear hbz hiz
            have fr := H7.out.b8.free p
            have cr := H7.out.b8.cell p
            rw [bs_getD (by rw [ups_len, HL4.out]; exact hp4)] at cr
            generalize (ups B q).getD p 0 = old at cr
            obtain ⟨y0, y1, y2⟩ := HY7.out.c3
            have H8 := hide (H7.out.set8 p byte)
            have HY8 := hide (HY7.out.apart (p := ⟨x8, p, none⟩) (HY7.out.ne H7.out.b8 (by omega)) (.int .u8 (byte.toNat : Nat)))
            obtain ⟨t0, t1, t2⟩ := HY8.out.c3
            have hp0 : (0 : Int) ≤ p := by omega
            have hp4' : (p : Int) < 4 := by omega
            go_upto_region 22 with (refine wpList_store_row rfl 25 (.tmp 5) (.tmp 73) rfl _ #[.slice z.sa z.ss.length z.sc, .slice z.pa z.ps.length z.pc, .int .i64 z.left, .bool z.stp] rfl rfl 25 _ HXB.out Try.size25 rfl (one25 _ _ _ _ _ _ _ _) ?_)
            clear c0 c1 c2 c3 y0 y1 y2 cr fr H6 HY6 HY7 H7 HXB hp0 hp4' htm hw64 hw8
            generalize (w6.setRow a5 #[.slice z.sa z.ss.length z.sc, .slice z.pa z.ps.length z.pc, .int .i64 z.left, .bool z.stp]).setCell ⟨x8, p, none⟩ (.int .u8 (byte.toNat : Nat)) = w7 at *
            have HUP := hide (show ups B (q ++ [⟨false, pos, byte⟩]) = (ups B q).set p byte by rw [ups_snoc, HPP.out])
            have HOW := hide (own_later H8.out.own (below_new w7 (.cells #[.bool false, .int .u8 (pos.toNat : Nat), .int .u8 (byte.toNat : Nat)] 46)))
            have HNC := hide (new_cells w7 46 [.bool false, .int .u8 (pos.toNat : Nat), .int .u8 (byte.toNat : Nat)])
            have hz7 : w.heap.size ≤ (w7.alloc (.cells #[.bool false, .int .u8 (pos.toNat : Nat), .int .u8 (byte.toNat : Nat)] 46)).heap.size := by have := H8.out.env.bel.size; simp; omega
            obtain ⟨i46, hi46⟩ := hinfo46
            have HI46 := hide hi46
            clear hi46
            go_wp2_with (first | (at_builtin; refine wpList_app rfl (.tmp 80) (.tmp 82) 43 rfl w.heap.size 46 i46 _ 3 3 Try.underlying43 HI46.out rfl (by omega) _ q.length (acs q) rfl HOW.out (some ⟨w7.heap.size, 0, none⟩) 1 1 [.bool false, .int .u8 (pos.toNat : Nat), .int .u8 (byte.toNat : Nat)] rfl (fun h => by cases h) rfl HNC.out (by simp [Value.oneCell']) (by unfold maxLen; omega) (by omega) hz7 ?_; intro A7 cap7 w9 hown hg; have H9 := hide (HW.app (a := ⟨false, pos, byte⟩) (H8.out.below (below_new w7 (.cells #[.bool false, .int .u8 (pos.toNat : Nat), .int .u8 (byte.toNat : Nat)] 46))) hown hg); clear hown hg hz7; obtain ⟨c0, c1, c2, c3⟩ := (H9.out.env.box (a5, z) (by simp)).1.c4) | (refine wpList_load_mid rfl 44 (.tmp 8) rfl x8 0 rfl (bs ((ups B q).set p byte)) _ (range44 H9.out.b8) Try.underlying44 rfl (size44 (by rw [List.length_set, ups_len, HL4.out])) ?_))
            have HLS := hide (show ((ups B q).set p byte).length = 4 by rw [List.length_set, ups_len, HL4.out])
            have HRD := hide (show ∀ k : Nat, k < 4 → z.d.read (k : Int) = (half (((ups B q).set p byte).getD k 0) (((ups B q).set p byte).getD k 0), 0) from fun k hk => by
              rw [HZ.out, ← HUP.out]
              exact hd_read HL4.out HL4.out (by simp; omega) (by have := HRM.out; omega) k hk)
            refine (holds_any z _ _ w9 (H9.out.env.box (a5, z) (by simp)).2.2.2 HLS.out HLS.out HRD.out).mono ?_
            rintro e w10 ⟨rfl, hb⟩
            have H10 := hide (H9.out.below hb)
            rw [← HUP.out] at H10
            clear hb
            go_wp2_with fail
            go_roundw
            case rel => exact ⟨k + 1, B, q ++ [⟨false, pos, byte⟩], room, A7, cap7, z, by omega, by go_num, by simp, rfl, H10, hide ⟨HZ.out, HL4.out, HRM.out.1, by have := HRM.out.2; simp; omega⟩⟩
            case measure => simp [intOf]; omega
        | true =>
          have H5 := hide (HE.out.below (below_new wr (.cells #[.bool true, .int .u8 (pos.toNat : Nat), .int .u8 (byte.toNat : Nat)] 46)))
          have HY := hide (Blk.new wr 46 [.bool true, .int .u8 (pos.toNat : Nat), .int .u8 (byte.toNat : Nat)])
          obtain ⟨hD, hB4, hroom, hq⟩ := HD.out
          have HDD := hide hD
          have HL4 := hide hB4
          have HRM := hide (And.intro hroom hq)
          have hqn : q.length ≤ 40 := by have := HL.out; omega
          by_cases hst : room < q.length
          · have hdec : decide (room < q.length) = true := decide_eq_true (by omega)
            obtain ⟨c0, c1, c2, c3⟩ := (H5.out.env.box (a5, d) (by simp)).1.c4
            have HSY := hide (sync_is (y := ⟨hs (ups B (q.take (room + 1))) (ups B (q.take room)), [], 0, true⟩) (n := 40) _ hD (hd_stop hB4 hB4 (by omega) (by omega) hst) (H5.out.env.box (a5, d) (by simp)).2.2.2)
            have HST := hide hst
            clear hD hB4 hst hq hroom
            go_wp2_with fail
            refine HSY.out.mono ?_
            rintro e w6 ⟨y, rfl, hy, hi, hb⟩
            have HYY := hide hy
            have H6 := hide (((H5.out.below hb).below (below_new w6 (.cells y.cs.toArray 25))).cons (g := w6.heap.size) (Blk.new w6 25 y.cs) (H5.out.below hb).env.bel.size (hi.below (below_new w6 (.cells y.cs.toArray 25))))
            clear hy hi hb HSY c0 c1 c2 c3 H5 HY f0 f1 f2
            go_wp2_with fail
            generalize w6.heap.size = x17 at *
            go_loopw [20] (fun j wr => ∃ (m : Nat) (F S : List UInt8), m ≤ q.length ∧ m ≤ room + 1 ∧ j = .int .i64 m ∧ Hid (F = ups B (q.take m) ∧ S = ups B (q.take (min m room))) ∧ Hid (HW w [(x17, y), (a5, d)] x8 (ups B q) F S A' cap' q wr)) (fun j _ => q.length - (intOf j).toNat)
            case atStart => exact ⟨0, B, B, Nat.zero_le _, Nat.zero_le _, rfl, hide ⟨rfl, by rw [Nat.zero_min]; rfl⟩, H6⟩
            case round =>
              clear H6 HE
              obtain ⟨m, F, S, hm1, hm2, rfl, HFS, HI6⟩ := hrel
              by_cases hmc : m < q.length ∧ m ≤ room
              · obtain ⟨hmq, hmr⟩ := hmc
                have hmq' : decide (m < q.length) = true := decide_eq_true (by omega)
                have hmr' : decide (m ≤ room) = true := decide_eq_true (by omega)
                have hmq2 : (m : Int) < (q.length : Int) := by omega
                have hmr2 : (m : Int) ≤ (room : Int) := by omega
                obtain ⟨g7, c7, he7, _, _⟩ := HI6.out.own.form (by omega)
                obtain ⟨rfl, rfl⟩ := slice_inj he7
                obtain ⟨rest7, hrow7⟩ := own_blk HI6.out.own
                have HBG0 := hide hrow7
                have HFN := hide (ups_take B q hmq)
                have HCL := hide (show ∀ w', Blk w' g7 46 (acs q ++ rest7) → w'.cell? ⟨g7, m * 3 + 1, none⟩ = some (.int .u8 ((q[m]).pos.toNat : Nat)) ∧ w'.cell? ⟨g7, m * 3 + 2, none⟩ = some (.int .u8 ((q[m]).byte.toNat : Nat)) from fun w' hw' => by
                  refine ⟨?_, ?_⟩
                  · rw [hw'.cell, List.getElem?_append_left (by rw [acs_len]; omega), acs_get q m 1 hmq (by omega)]
                    rfl
                  · rw [hw'.cell, List.getElem?_append_left (by rw [acs_len]; omega), acs_get q m 2 hmq (by omega)]
                    rfl)
                generalize q[m] = am at HCL HFN
                obtain ⟨sy2, pos2, by2⟩ := am
                simp only at HCL HFN
                obtain ⟨p2, hp⟩ : ∃ p, p = pos2.toNat % 4 := ⟨_, rfl⟩
                have hp2 : p2 < 4 := by omega
                rw [← hp] at HFN
                have htm : (pos2.toNat : Int).tmod 4 = (p2 : Int) := by rw [Int.tmod_eq_emod_of_nonneg (by omega), hp]; omega
                have hw8 : IntKind.u8.wrap (p2 : Int) = (p2 : Int) := wrap8_small _ (by omega)
                have hp20 : (0 : Int) ≤ p2 := by omega
                have hp24 : (p2 : Int) < 4 := by omega
                clear he7 hrow7 hp
                have H0 := HI6
                have fr := H0.out.b9.free p2
                have cr := H0.out.b9.cell p2
                rw [bs_getD (by rw [HFS.out.1, ups_len, HL4.out]; exact hp2)] at cr
                generalize (F).getD p2 0 = old1 at cr
                go_upto_region 28 with (fail)
                have H1 := hide (H0.out.set9 p2 by2)
                have HBG1 := hide (HBG0.out.apart (p := ⟨x8 + 1, p2, none⟩) (HBG0.out.ne H0.out.b9 (by omega)) (.int .u8 (by2.toNat : Nat)))
                refine wp_region_plan3 (fun w' => Blk w' g7 46 (acs q ++ rest7)) (.take 0 (.take 1 (.take 2 (.take 3 (.take 4 (.take 5 (.take 6 (.take 7 (.take 8 (.take 9 (.take 10 (.take 11 (.run 12 .done))))))))))))) (by kernel_rfl) (by kernel_rfl) (HBG0.out.below (Below.refl _ _).drew HBG0.out.lt) ?_
                (refine plan3_take (o := ?_) (v := ?_) (by simp only [List.getElem?_toArray, List.getElem?_cons_zero]; rfl) (yields_run (by rfl) ?_) ?_; rotate_left; (focus (intro w' hw'; obtain ⟨r1, r2⟩ := HCL.out w' hw'; go_simp <;> with_reducible rfl)); (simp only [Act.put, List.setIfInBounds_toArray, List.set_cons_zero, List.set_cons_succ]))
                (refine plan3_take (o := ?_) (v := ?_) (by simp only [List.getElem?_toArray, List.getElem?_cons_succ, List.getElem?_cons_zero]; rfl) (yields_run (by rfl) ?_) ?_; rotate_left; (focus (intro w' hw'; obtain ⟨r1, r2⟩ := HCL.out w' hw'; go_simp <;> with_reducible rfl)); (simp only [Act.put, List.setIfInBounds_toArray, List.set_cons_zero, List.set_cons_succ]))
                (refine plan3_take (o := ?_) (v := ?_) (by simp only [List.getElem?_toArray, List.getElem?_cons_succ, List.getElem?_cons_zero]; rfl) (yields_run (by rfl) ?_) ?_; rotate_left; (focus (intro w' hw'; obtain ⟨r1, r2⟩ := HCL.out w' hw'; go_simp <;> with_reducible rfl)); (simp only [Act.put, List.setIfInBounds_toArray, List.set_cons_zero, List.set_cons_succ]))
                (refine plan3_take (o := ?_) (v := ?_) (by simp only [List.getElem?_toArray, List.getElem?_cons_succ, List.getElem?_cons_zero]; rfl) (yields_run (by rfl) ?_) ?_; rotate_left; (focus (intro w' hw'; obtain ⟨r1, r2⟩ := HCL.out w' hw'; go_simp <;> with_reducible rfl)); (simp only [Act.put, List.setIfInBounds_toArray, List.set_cons_zero, List.set_cons_succ]))
                (refine plan3_take (o := ?_) (v := ?_) (by simp only [List.getElem?_toArray, List.getElem?_cons_succ, List.getElem?_cons_zero]; rfl) (yields_run (by rfl) ?_) ?_; rotate_left; (focus (intro w' hw'; obtain ⟨r1, r2⟩ := HCL.out w' hw'; go_simp <;> with_reducible rfl)); (simp only [Act.put, List.setIfInBounds_toArray, List.set_cons_zero, List.set_cons_succ]))
                (refine plan3_take (o := ?_) (v := ?_) (by simp only [List.getElem?_toArray, List.getElem?_cons_succ, List.getElem?_cons_zero]; rfl) (yields_run (by rfl) ?_) ?_; rotate_left; (focus (intro w' hw'; obtain ⟨r1, r2⟩ := HCL.out w' hw'; go_simp <;> with_reducible rfl)); (simp only [Act.put, List.setIfInBounds_toArray, List.set_cons_zero, List.set_cons_succ]))
                (refine plan3_take (o := ?_) (v := ?_) (by simp only [List.getElem?_toArray, List.getElem?_cons_succ, List.getElem?_cons_zero]; rfl) (yields_run (by rfl) ?_) ?_; rotate_left; (focus (intro w' hw'; obtain ⟨r1, r2⟩ := HCL.out w' hw'; go_simp <;> with_reducible rfl)); (simp only [Act.put, List.setIfInBounds_toArray, List.set_cons_zero, List.set_cons_succ]))
                (refine plan3_take (o := ?_) (v := ?_) (by simp only [List.getElem?_toArray, List.getElem?_cons_succ, List.getElem?_cons_zero]; rfl) (yields_run (by rfl) ?_) ?_; rotate_left; (focus (intro w' hw'; obtain ⟨r1, r2⟩ := HCL.out w' hw'; go_simp <;> with_reducible rfl)); (simp only [Act.put, List.setIfInBounds_toArray, List.set_cons_zero, List.set_cons_succ]))
                (refine plan3_take (o := ?_) (v := ?_) (by simp only [List.getElem?_toArray, List.getElem?_cons_succ, List.getElem?_cons_zero]; rfl) (yields_run (by rfl) ?_) ?_; rotate_left; (focus (intro w' hw'; obtain ⟨r1, r2⟩ := HCL.out w' hw'; go_simp <;> with_reducible rfl)); (simp only [Act.put, List.setIfInBounds_toArray, List.set_cons_zero, List.set_cons_succ]))
                (refine plan3_take (o := ?_) (v := ?_) (by simp only [List.getElem?_toArray, List.getElem?_cons_succ, List.getElem?_cons_zero]; rfl) (yields_run (by rfl) ?_) ?_; rotate_left; (focus (intro w' hw'; obtain ⟨r1, r2⟩ := HCL.out w' hw'; go_simp <;> with_reducible rfl)); (simp only [Act.put, List.setIfInBounds_toArray, List.set_cons_zero, List.set_cons_succ]))
                (refine plan3_take (o := ?_) (v := ?_) (by simp only [List.getElem?_toArray, List.getElem?_cons_succ, List.getElem?_cons_zero]; rfl) (yields_run (by rfl) ?_) ?_; rotate_left; (focus (intro w' hw'; obtain ⟨r1, r2⟩ := HCL.out w' hw'; go_simp <;> with_reducible rfl)); (simp only [Act.put, List.setIfInBounds_toArray, List.set_cons_zero, List.set_cons_succ]))
                (refine plan3_take (o := ?_) (v := ?_) (by simp only [List.getElem?_toArray, List.getElem?_cons_succ, List.getElem?_cons_zero]; rfl) (yields_run (by rfl) ?_) ?_; rotate_left; (focus (intro w' hw'; obtain ⟨r1, r2⟩ := HCL.out w' hw'; go_simp <;> with_reducible rfl)); (simp only [Act.put, List.setIfInBounds_toArray, List.set_cons_zero, List.set_cons_succ]))
                refine plan3_run (o := ?_) (by simp only [List.getElem?_toArray, List.getElem?_cons_succ, List.getElem?_cons_zero]; rfl) ?_
                intro R HR
                go_wp2_with fail
                refine HR.out _ _ ?_ ?_
                · exact HBG1.out
                clear HR
                refine plan3_done ?_
                go_upto_region 29 with (fail)
                clear fr cr
                have HF1 := hide (show F.set p2 by2 = ups B (q.take (m + 1)) by rw [HFS.out.1, HFN.out])
                by_cases hmr3 : m < room
                · have hmr4 : (m : Int) < (room : Int) := by omega
                  have fr := H1.out.b10.free p2
                  have cr := H1.out.b10.cell p2
                  rw [bs_getD (by rw [HFS.out.2, ups_len, HL4.out]; exact hp2)] at cr
                  generalize (S).getD p2 0 = old2 at cr
                  go_upto_region 30 with (fail)
                  have H2 := hide (H1.out.set10 p2 by2)
                  have HBG2 := hide (HBG1.out.apart (p := ⟨x8 + 1 + 1, p2, none⟩) (HBG1.out.ne H1.out.b10 (by omega)) (.int .u8 (by2.toNat : Nat)))
                  refine wp_region_plan3 (fun w' => Blk w' g7 46 (acs q ++ rest7)) (.take 0 (.take 1 (.take 2 (.take 3 (.take 4 (.take 5 (.take 6 (.take 7 (.take 8 (.take 9 (.take 10 (.take 11 (.run 12 .done))))))))))))) (by kernel_rfl) (by kernel_rfl) (HBG1.out.below ((Below.refl _ _).drew.drew) HBG1.out.lt) ?_
                  (refine plan3_take (o := ?_) (v := ?_) (by simp only [List.getElem?_toArray, List.getElem?_cons_zero]; rfl) (yields_run (by rfl) ?_) ?_; rotate_left; (focus (intro w' hw'; obtain ⟨r1, r2⟩ := HCL.out w' hw'; go_simp <;> with_reducible rfl)); (simp only [Act.put, List.setIfInBounds_toArray, List.set_cons_zero, List.set_cons_succ]))
                  (refine plan3_take (o := ?_) (v := ?_) (by simp only [List.getElem?_toArray, List.getElem?_cons_succ, List.getElem?_cons_zero]; rfl) (yields_run (by rfl) ?_) ?_; rotate_left; (focus (intro w' hw'; obtain ⟨r1, r2⟩ := HCL.out w' hw'; go_simp <;> with_reducible rfl)); (simp only [Act.put, List.setIfInBounds_toArray, List.set_cons_zero, List.set_cons_succ]))
                  (refine plan3_take (o := ?_) (v := ?_) (by simp only [List.getElem?_toArray, List.getElem?_cons_succ, List.getElem?_cons_zero]; rfl) (yields_run (by rfl) ?_) ?_; rotate_left; (focus (intro w' hw'; obtain ⟨r1, r2⟩ := HCL.out w' hw'; go_simp <;> with_reducible rfl)); (simp only [Act.put, List.setIfInBounds_toArray, List.set_cons_zero, List.set_cons_succ]))
                  (refine plan3_take (o := ?_) (v := ?_) (by simp only [List.getElem?_toArray, List.getElem?_cons_succ, List.getElem?_cons_zero]; rfl) (yields_run (by rfl) ?_) ?_; rotate_left; (focus (intro w' hw'; obtain ⟨r1, r2⟩ := HCL.out w' hw'; go_simp <;> with_reducible rfl)); (simp only [Act.put, List.setIfInBounds_toArray, List.set_cons_zero, List.set_cons_succ]))
                  (refine plan3_take (o := ?_) (v := ?_) (by simp only [List.getElem?_toArray, List.getElem?_cons_succ, List.getElem?_cons_zero]; rfl) (yields_run (by rfl) ?_) ?_; rotate_left; (focus (intro w' hw'; obtain ⟨r1, r2⟩ := HCL.out w' hw'; go_simp <;> with_reducible rfl)); (simp only [Act.put, List.setIfInBounds_toArray, List.set_cons_zero, List.set_cons_succ]))
                  (refine plan3_take (o := ?_) (v := ?_) (by simp only [List.getElem?_toArray, List.getElem?_cons_succ, List.getElem?_cons_zero]; rfl) (yields_run (by rfl) ?_) ?_; rotate_left; (focus (intro w' hw'; obtain ⟨r1, r2⟩ := HCL.out w' hw'; go_simp <;> with_reducible rfl)); (simp only [Act.put, List.setIfInBounds_toArray, List.set_cons_zero, List.set_cons_succ]))
                  (refine plan3_take (o := ?_) (v := ?_) (by simp only [List.getElem?_toArray, List.getElem?_cons_succ, List.getElem?_cons_zero]; rfl) (yields_run (by rfl) ?_) ?_; rotate_left; (focus (intro w' hw'; obtain ⟨r1, r2⟩ := HCL.out w' hw'; go_simp <;> with_reducible rfl)); (simp only [Act.put, List.setIfInBounds_toArray, List.set_cons_zero, List.set_cons_succ]))
                  (refine plan3_take (o := ?_) (v := ?_) (by simp only [List.getElem?_toArray, List.getElem?_cons_succ, List.getElem?_cons_zero]; rfl) (yields_run (by rfl) ?_) ?_; rotate_left; (focus (intro w' hw'; obtain ⟨r1, r2⟩ := HCL.out w' hw'; go_simp <;> with_reducible rfl)); (simp only [Act.put, List.setIfInBounds_toArray, List.set_cons_zero, List.set_cons_succ]))
                  (refine plan3_take (o := ?_) (v := ?_) (by simp only [List.getElem?_toArray, List.getElem?_cons_succ, List.getElem?_cons_zero]; rfl) (yields_run (by rfl) ?_) ?_; rotate_left; (focus (intro w' hw'; obtain ⟨r1, r2⟩ := HCL.out w' hw'; go_simp <;> with_reducible rfl)); (simp only [Act.put, List.setIfInBounds_toArray, List.set_cons_zero, List.set_cons_succ]))
                  (refine plan3_take (o := ?_) (v := ?_) (by simp only [List.getElem?_toArray, List.getElem?_cons_succ, List.getElem?_cons_zero]; rfl) (yields_run (by rfl) ?_) ?_; rotate_left; (focus (intro w' hw'; obtain ⟨r1, r2⟩ := HCL.out w' hw'; go_simp <;> with_reducible rfl)); (simp only [Act.put, List.setIfInBounds_toArray, List.set_cons_zero, List.set_cons_succ]))
                  (refine plan3_take (o := ?_) (v := ?_) (by simp only [List.getElem?_toArray, List.getElem?_cons_succ, List.getElem?_cons_zero]; rfl) (yields_run (by rfl) ?_) ?_; rotate_left; (focus (intro w' hw'; obtain ⟨r1, r2⟩ := HCL.out w' hw'; go_simp <;> with_reducible rfl)); (simp only [Act.put, List.setIfInBounds_toArray, List.set_cons_zero, List.set_cons_succ]))
                  (refine plan3_take (o := ?_) (v := ?_) (by simp only [List.getElem?_toArray, List.getElem?_cons_succ, List.getElem?_cons_zero]; rfl) (yields_run (by rfl) ?_) ?_; rotate_left; (focus (intro w' hw'; obtain ⟨r1, r2⟩ := HCL.out w' hw'; go_simp <;> with_reducible rfl)); (simp only [Act.put, List.setIfInBounds_toArray, List.set_cons_zero, List.set_cons_succ]))
                  refine plan3_run (o := ?_) (by simp only [List.getElem?_toArray, List.getElem?_cons_succ, List.getElem?_cons_zero]; rfl) ?_
                  intro R HR
                  go_wp2_with fail
                  refine HR.out _ _ ?_ ?_
                  · exact HBG2.out
                  clear HR
                  refine plan3_done ?_
                  go_wp2_with fail
                  clear fr cr
                  have HS1 := hide (show S.set p2 by2 = ups B (q.take (min (m + 1) room)) by rw [HFS.out.2, Nat.min_eq_left (by omega), Nat.min_eq_left (by omega), HFN.out])
                  go_roundw
                  case rel => exact ⟨m + 1, _, _, by omega, by omega, by go_num, hide ⟨HF1.out, HS1.out⟩, hide (H2.out.below ((Below.refl _ _).drew.drew))⟩
                  case measure => simp [intOf]; omega
                · have hmr4 : ¬ ((m : Int) < (room : Int)) := by omega
                  have HS1 := hide (show S = ups B (q.take (min (m + 1) room)) by rw [HFS.out.2, Nat.min_eq_right (by omega), Nat.min_eq_right (by omega)])
                  go_wp2_with fail
                  go_roundw
                  case rel => exact ⟨m + 1, _, _, by omega, by omega, by go_num, hide ⟨HF1.out, HS1.out⟩, hide (H1.out.below ((Below.refl _ _).drew))⟩
                  case measure => simp [intOf]; omega
              · obtain rfl : m = room + 1 := by have := HST.out; omega
                have hmr' : decide (room + 1 ≤ room) = false := decide_eq_false (by omega)
                have hc : (q.length : Int) ≤ (room : Int) + 1 ∨ (room : Int) + 1 < (q.length : Int) := by omega
                have HF := hide (show F = ups B (q.take (room + 1)) ∧ S = ups B (q.take room) by
                  obtain ⟨h1, h2⟩ := HFS.out
                  rw [Nat.min_eq_right (by omega)] at h2
                  exact ⟨h1, h2⟩)
                have HYS := hide (show y.stp = true from congrArg Dk.stp HYY.out)
                clear hm1 hm2 hmc
                rcases hc with hc | hc
                all_goals
                  go_upto_region 32 with (fail)
                  have H := hide (HI6.out.below (Below.refl _ _).drew)
                  have HDB := hide (show ∀ W', Below wr.drew.heap.size wr.drew W' → Blk W' x17 25 y.cs from fun W' hW => ((H.out.below hW).env.box (x17, y) (by simp)).1)
                  have HDI := hide ((H.out.env.box (x17, y) (by simp)).2.2.2)
                  have HLF := hide (show F.length = 4 by rw [HF.out.1, ups_len, HL4.out])
                  have HLS := hide (show S.length = 4 by rw [HF.out.2, ups_len, HL4.out])
                  have HRD := hide (show ∀ r1 : Dsk, r1.d = y.d.restart → ∀ k : Nat, k < 4 → r1.d.read (k : Int) = (half (F.getD k 0) (S.getD k 0), 0) from fun r1 hr k hk => by
                    rw [hr, HYY.out, ← HF.out.1, ← HF.out.2]
                    exact hd_read (l := []) (left := -1) HLF.out HLS.out (by simp) (by decide) k hk)
                  refine wp_region_plan3 (fun w' => Below wr.drew.heap.size wr.drew w') (.take 0 (.take 1 (.take 2 (.take 3 (.take 4 (.take 5 (.take 6 (.take 7 (.take 9 (.take 10 (.run 8 (.run 11 (.take 12 (.run 13 .done)))))))))))))) (by kernel_rfl) (by kernel_rfl) (Below.refl _ _) ?_
                  generalize wr.drew = wD at *
                  have HB0 := hide (Below.refl wD.heap.size wD)
                  (refine plan3_take (o := ?_) (v := ?_) (by simp only [List.getElem?_toArray, List.getElem?_cons_zero]; rfl) (yields_run (by rfl) ?_) ?_; rotate_left; (focus (intro w' hw'; obtain ⟨q0, q1, q2, q3⟩ := (HDB.out w' hw').c4; go_simp <;> with_reducible rfl)); (simp only [Act.put, List.setIfInBounds_toArray, List.set_cons_zero, List.set_cons_succ]))
                  (refine plan3_take (o := ?_) (v := ?_) (by simp only [List.getElem?_toArray, List.getElem?_cons_succ, List.getElem?_cons_zero]; rfl) (yields_run (by rfl) ?_) ?_; rotate_left; (focus (intro w' hw'; obtain ⟨q0, q1, q2, q3⟩ := (HDB.out w' hw').c4; go_simp <;> with_reducible rfl)); (simp only [Act.put, List.setIfInBounds_toArray, List.set_cons_zero, List.set_cons_succ]))
                  (refine plan3_take (o := ?_) (v := ?_) (by simp only [List.getElem?_toArray, List.getElem?_cons_succ, List.getElem?_cons_zero]; rfl) (yields_run (by rfl) ?_) ?_; rotate_left; (focus (intro w' hw'; obtain ⟨q0, q1, q2, q3⟩ := (HDB.out w' hw').c4; go_simp <;> with_reducible rfl)); (simp only [Act.put, List.setIfInBounds_toArray, List.set_cons_zero, List.set_cons_succ]))
                  (refine plan3_take (o := ?_) (v := ?_) (by simp only [List.getElem?_toArray, List.getElem?_cons_succ, List.getElem?_cons_zero]; rfl) (yields_run (by rfl) ?_) ?_; rotate_left; (focus (intro w' hw'; obtain ⟨q0, q1, q2, q3⟩ := (HDB.out w' hw').c4; go_simp <;> with_reducible rfl)); (simp only [Act.put, List.setIfInBounds_toArray, List.set_cons_zero, List.set_cons_succ]))
                  (refine plan3_take (o := ?_) (v := ?_) (by simp only [List.getElem?_toArray, List.getElem?_cons_succ, List.getElem?_cons_zero]; rfl) (yields_run (by rfl) ?_) ?_; rotate_left; (focus (intro w' hw'; obtain ⟨q0, q1, q2, q3⟩ := (HDB.out w' hw').c4; rw [HYS.out] at q3; go_simp <;> with_reducible rfl)); (simp only [Act.put, List.setIfInBounds_toArray, List.set_cons_zero, List.set_cons_succ]))
                  (refine plan3_take (o := ?_) (v := ?_) (by simp only [List.getElem?_toArray, List.getElem?_cons_succ, List.getElem?_cons_zero]; rfl) (yields_run (by rfl) ?_) ?_; rotate_left; (focus (intro w' hw'; obtain ⟨q0, q1, q2, q3⟩ := (HDB.out w' hw').c4; go_simp <;> with_reducible rfl)); (simp only [Act.put, List.setIfInBounds_toArray, List.set_cons_zero, List.set_cons_succ]))
                  (refine plan3_take (o := ?_) (v := ?_) (by simp only [List.getElem?_toArray, List.getElem?_cons_succ, List.getElem?_cons_zero]; rfl) (yields_run (by rfl) ?_) ?_; rotate_left; (focus (intro w' hw'; obtain ⟨q0, q1, q2, q3⟩ := (HDB.out w' hw').c4; go_simp <;> with_reducible rfl)); (simp only [Act.put, List.setIfInBounds_toArray, List.set_cons_zero, List.set_cons_succ]))
                  (refine plan3_take (o := ?_) (v := ?_) (by simp only [List.getElem?_toArray, List.getElem?_cons_succ, List.getElem?_cons_zero]; rfl) (yields_run (by rfl) ?_) ?_; rotate_left; (focus (intro w' hw'; obtain ⟨q0, q1, q2, q3⟩ := (HDB.out w' hw').c4; go_simp <;> with_reducible rfl)); (simp only [Act.put, List.setIfInBounds_toArray, List.set_cons_zero, List.set_cons_succ]))
                  (refine plan3_take (o := ?_) (by simp only [List.getElem?_toArray, List.getElem?_cons_succ, List.getElem?_cons_zero]; rfl) (yieldsIf_load_mid (by rfl) 44 (.tmp 9) rfl (x8 + 1) 0 rfl (bs F) _ (fun W' hW => range44 (H.out.below hW).b9) Try.underlying44 rfl (size44 (by rw [HF.out.1, ups_len, HL4.out]))) ?_; (simp only [Act.put, List.setIfInBounds_toArray, List.set_cons_zero, List.set_cons_succ]))
                  (refine plan3_take (o := ?_) (by simp only [List.getElem?_toArray, List.getElem?_cons_succ, List.getElem?_cons_zero]; rfl) (yieldsIf_load_mid (by rfl) 44 (.tmp 10) rfl (x8 + 1 + 1) 0 rfl (bs S) _ (fun W' hW => range44 (H.out.below hW).b10) Try.underlying44 rfl (size44 (by rw [HF.out.2, ups_len, HL4.out]))) ?_; (simp only [Act.put, List.setIfInBounds_toArray, List.set_cons_zero, List.set_cons_succ]))
                  refine plan3_run (o := ?_) (by simp only [List.getElem?_toArray, List.getElem?_cons_succ, List.getElem?_cons_zero]; rfl) ?_
                  intro R HR
                  go_wp2_with fail
                  (with_reducible refine (restart_is _ rfl (HDI.out.below HB0.out)).mono ?_)
                  rintro e v2 ⟨r1, rfl, hr1, hi1, hb⟩
                  have HB2 := hide (below_one HB0.out hb)
                  have HR1 := hide hr1
                  have HRI := hide hi1
                  clear hr1 hi1 hb
                  go_wp2_with fail
                  refine HR.out _ _ HB2.out ?_
                  clear HR
                  refine plan3_run (o := ?_) (by simp only [List.getElem?_toArray, List.getElem?_cons_succ, List.getElem?_cons_zero]; rfl) ?_
                  intro R HR
                  go_wp2_with fail
                  (with_reducible refine (holds_any r1 _ _ _ HRI.out HLF.out HLS.out (HRD.out r1 HR1.out)).mono ?_)
                  rintro e v3 ⟨rfl, hb⟩
                  have HB3 := hide (below_one HB2.out hb)
                  clear hb
                  go_wp2_with fail
                  refine HR.out _ _ HB3.out ?_
                  clear HR
                  (refine plan3_take (o := ?_) (v := ?_) (by simp only [List.getElem?_toArray, List.getElem?_cons_succ, List.getElem?_cons_zero]; rfl) (yields_run (by rfl) ?_) ?_; rotate_left; (focus (intro w' _; go_simp <;> with_reducible rfl)); (simp only [Act.put, List.setIfInBounds_toArray, List.set_cons_zero, List.set_cons_succ]))
                  refine plan3_run (o := ?_) (by simp only [List.getElem?_toArray, List.getElem?_cons_succ, List.getElem?_cons_zero]; rfl) ?_
                  intro R HR
                  go_wp2_with fail
                  refine HR.out _ _ HB3.out ?_
                  clear HR
                  refine plan3_done ?_
                  go_wp2_with fail
                  go_ret
                  exact ⟨rfl, H.out.env.bel.trans (HB3.out.mono H.out.env.bel.size)⟩
          · replace hst : q.length ≤ room := by omega
            have hdec : decide (room < q.length) = false := decide_eq_false (by omega)
            obtain ⟨c0, c1, c2, c3⟩ := (H5.out.env.box (a5, d) (by simp)).1.c4
            have HSY := hide (sync_is (y := hd (ups B q) (ups B q) [] ((room : Int) - q.length)) (n := 0) _ hD (hd_sync hB4 hB4 (by omega) (by omega) (by omega)) (H5.out.env.box (a5, d) (by simp)).2.2.2)
            have HST := hide hst
            clear hD hB4 hst hq hroom
            go_wp2_with fail
            refine HSY.out.mono ?_
            rintro e w6 ⟨y, rfl, hy, hi, hb⟩
            have HYY := hide hy
            have H6 := hide (((H5.out.below hb).below (below_new w6 (.cells y.cs.toArray 25))).cons (g := w6.heap.size) (Blk.new w6 25 y.cs) (H5.out.below hb).env.bel.size (hi.below (below_new w6 (.cells y.cs.toArray 25))))
            clear hy hi hb HSY c0 c1 c2 c3 H5 HY f0 f1 f2
            go_wp2_with fail
            generalize w6.heap.size = x17 at *
            go_loopw [20] (fun j wr => ∃ (m : Nat) (F S : List UInt8), m ≤ q.length ∧ m ≤ room + 1 ∧ j = .int .i64 m ∧ Hid (F = ups B (q.take m) ∧ S = ups B (q.take (min m room))) ∧ Hid (HW w [(x17, y), (a5, d)] x8 (ups B q) F S A' cap' q wr)) (fun j _ => q.length - (intOf j).toNat)
            case atStart => exact ⟨0, B, B, Nat.zero_le _, Nat.zero_le _, rfl, hide ⟨rfl, by rw [Nat.zero_min]; rfl⟩, H6⟩
            case round =>
              clear H6 HE
              obtain ⟨m, F, S, hm1, hm2, rfl, HFS, HI6⟩ := hrel
              by_cases hmc : m < q.length ∧ m ≤ room
              · obtain ⟨hmq, hmr⟩ := hmc
                have hmq' : decide (m < q.length) = true := decide_eq_true (by omega)
                have hmr' : decide (m ≤ room) = true := decide_eq_true (by omega)
                have hmq2 : (m : Int) < (q.length : Int) := by omega
                have hmr2 : (m : Int) ≤ (room : Int) := by omega
                obtain ⟨g7, c7, he7, _, _⟩ := HI6.out.own.form (by omega)
                obtain ⟨rfl, rfl⟩ := slice_inj he7
                obtain ⟨rest7, hrow7⟩ := own_blk HI6.out.own
                have HBG0 := hide hrow7
                have HFN := hide (ups_take B q hmq)
                have HCL := hide (show ∀ w', Blk w' g7 46 (acs q ++ rest7) → w'.cell? ⟨g7, m * 3 + 1, none⟩ = some (.int .u8 ((q[m]).pos.toNat : Nat)) ∧ w'.cell? ⟨g7, m * 3 + 2, none⟩ = some (.int .u8 ((q[m]).byte.toNat : Nat)) from fun w' hw' => by
                  refine ⟨?_, ?_⟩
                  · rw [hw'.cell, List.getElem?_append_left (by rw [acs_len]; omega), acs_get q m 1 hmq (by omega)]
                    rfl
                  · rw [hw'.cell, List.getElem?_append_left (by rw [acs_len]; omega), acs_get q m 2 hmq (by omega)]
                    rfl)
                generalize q[m] = am at HCL HFN
                obtain ⟨sy2, pos2, by2⟩ := am
                simp only at HCL HFN
                obtain ⟨p2, hp⟩ : ∃ p, p = pos2.toNat % 4 := ⟨_, rfl⟩
                have hp2 : p2 < 4 := by omega
                rw [← hp] at HFN
                have htm : (pos2.toNat : Int).tmod 4 = (p2 : Int) := by rw [Int.tmod_eq_emod_of_nonneg (by omega), hp]; omega
                have hw8 : IntKind.u8.wrap (p2 : Int) = (p2 : Int) := wrap8_small _ (by omega)
                have hp20 : (0 : Int) ≤ p2 := by omega
                have hp24 : (p2 : Int) < 4 := by omega
                clear he7 hrow7 hp
                have H0 := HI6
                have fr := H0.out.b9.free p2
                have cr := H0.out.b9.cell p2
                rw [bs_getD (by rw [HFS.out.1, ups_len, HL4.out]; exact hp2)] at cr
                generalize (F).getD p2 0 = old1 at cr
                go_upto_region 28 with (fail)
                have H1 := hide (H0.out.set9 p2 by2)
                have HBG1 := hide (HBG0.out.apart (p := ⟨x8 + 1, p2, none⟩) (HBG0.out.ne H0.out.b9 (by omega)) (.int .u8 (by2.toNat : Nat)))
                refine wp_region_plan3 (fun w' => Blk w' g7 46 (acs q ++ rest7)) (.take 0 (.take 1 (.take 2 (.take 3 (.take 4 (.take 5 (.take 6 (.take 7 (.take 8 (.take 9 (.take 10 (.take 11 (.run 12 .done))))))))))))) (by kernel_rfl) (by kernel_rfl) (HBG0.out.below (Below.refl _ _).drew HBG0.out.lt) ?_
                (refine plan3_take (o := ?_) (v := ?_) (by simp only [List.getElem?_toArray, List.getElem?_cons_zero]; rfl) (yields_run (by rfl) ?_) ?_; rotate_left; (focus (intro w' hw'; obtain ⟨r1, r2⟩ := HCL.out w' hw'; go_simp <;> with_reducible rfl)); (simp only [Act.put, List.setIfInBounds_toArray, List.set_cons_zero, List.set_cons_succ]))
                (refine plan3_take (o := ?_) (v := ?_) (by simp only [List.getElem?_toArray, List.getElem?_cons_succ, List.getElem?_cons_zero]; rfl) (yields_run (by rfl) ?_) ?_; rotate_left; (focus (intro w' hw'; obtain ⟨r1, r2⟩ := HCL.out w' hw'; go_simp <;> with_reducible rfl)); (simp only [Act.put, List.setIfInBounds_toArray, List.set_cons_zero, List.set_cons_succ]))
                (refine plan3_take (o := ?_) (v := ?_) (by simp only [List.getElem?_toArray, List.getElem?_cons_succ, List.getElem?_cons_zero]; rfl) (yields_run (by rfl) ?_) ?_; rotate_left; (focus (intro w' hw'; obtain ⟨r1, r2⟩ := HCL.out w' hw'; go_simp <;> with_reducible rfl)); (simp only [Act.put, List.setIfInBounds_toArray, List.set_cons_zero, List.set_cons_succ]))
                (refine plan3_take (o := ?_) (v := ?_) (by simp only [List.getElem?_toArray, List.getElem?_cons_succ, List.getElem?_cons_zero]; rfl) (yields_run (by rfl) ?_) ?_; rotate_left; (focus (intro w' hw'; obtain ⟨r1, r2⟩ := HCL.out w' hw'; go_simp <;> with_reducible rfl)); (simp only [Act.put, List.setIfInBounds_toArray, List.set_cons_zero, List.set_cons_succ]))
                (refine plan3_take (o := ?_) (v := ?_) (by simp only [List.getElem?_toArray, List.getElem?_cons_succ, List.getElem?_cons_zero]; rfl) (yields_run (by rfl) ?_) ?_; rotate_left; (focus (intro w' hw'; obtain ⟨r1, r2⟩ := HCL.out w' hw'; go_simp <;> with_reducible rfl)); (simp only [Act.put, List.setIfInBounds_toArray, List.set_cons_zero, List.set_cons_succ]))
                (refine plan3_take (o := ?_) (v := ?_) (by simp only [List.getElem?_toArray, List.getElem?_cons_succ, List.getElem?_cons_zero]; rfl) (yields_run (by rfl) ?_) ?_; rotate_left; (focus (intro w' hw'; obtain ⟨r1, r2⟩ := HCL.out w' hw'; go_simp <;> with_reducible rfl)); (simp only [Act.put, List.setIfInBounds_toArray, List.set_cons_zero, List.set_cons_succ]))
                (refine plan3_take (o := ?_) (v := ?_) (by simp only [List.getElem?_toArray, List.getElem?_cons_succ, List.getElem?_cons_zero]; rfl) (yields_run (by rfl) ?_) ?_; rotate_left; (focus (intro w' hw'; obtain ⟨r1, r2⟩ := HCL.out w' hw'; go_simp <;> with_reducible rfl)); (simp only [Act.put, List.setIfInBounds_toArray, List.set_cons_zero, List.set_cons_succ]))
                (refine plan3_take (o := ?_) (v := ?_) (by simp only [List.getElem?_toArray, List.getElem?_cons_succ, List.getElem?_cons_zero]; rfl) (yields_run (by rfl) ?_) ?_; rotate_left; (focus (intro w' hw'; obtain ⟨r1, r2⟩ := HCL.out w' hw'; go_simp <;> with_reducible rfl)); (simp only [Act.put, List.setIfInBounds_toArray, List.set_cons_zero, List.set_cons_succ]))
                (refine plan3_take (o := ?_) (v := ?_) (by simp only [List.getElem?_toArray, List.getElem?_cons_succ, List.getElem?_cons_zero]; rfl) (yields_run (by rfl) ?_) ?_; rotate_left; (focus (intro w' hw'; obtain ⟨r1, r2⟩ := HCL.out w' hw'; go_simp <;> with_reducible rfl)); (simp only [Act.put, List.setIfInBounds_toArray, List.set_cons_zero, List.set_cons_succ]))
                (refine plan3_take (o := ?_) (v := ?_) (by simp only [List.getElem?_toArray, List.getElem?_cons_succ, List.getElem?_cons_zero]; rfl) (yields_run (by rfl) ?_) ?_; rotate_left; (focus (intro w' hw'; obtain ⟨r1, r2⟩ := HCL.out w' hw'; go_simp <;> with_reducible rfl)); (simp only [Act.put, List.setIfInBounds_toArray, List.set_cons_zero, List.set_cons_succ]))
                (refine plan3_take (o := ?_) (v := ?_) (by simp only [List.getElem?_toArray, List.getElem?_cons_succ, List.getElem?_cons_zero]; rfl) (yields_run (by rfl) ?_) ?_; rotate_left; (focus (intro w' hw'; obtain ⟨r1, r2⟩ := HCL.out w' hw'; go_simp <;> with_reducible rfl)); (simp only [Act.put, List.setIfInBounds_toArray, List.set_cons_zero, List.set_cons_succ]))
                (refine plan3_take (o := ?_) (v := ?_) (by simp only [List.getElem?_toArray, List.getElem?_cons_succ, List.getElem?_cons_zero]; rfl) (yields_run (by rfl) ?_) ?_; rotate_left; (focus (intro w' hw'; obtain ⟨r1, r2⟩ := HCL.out w' hw'; go_simp <;> with_reducible rfl)); (simp only [Act.put, List.setIfInBounds_toArray, List.set_cons_zero, List.set_cons_succ]))
                refine plan3_run (o := ?_) (by simp only [List.getElem?_toArray, List.getElem?_cons_succ, List.getElem?_cons_zero]; rfl) ?_
                intro R HR
                go_wp2_with fail
                refine HR.out _ _ ?_ ?_
                · exact HBG1.out
                clear HR
                refine plan3_done ?_
                go_upto_region 29 with (fail)
                clear fr cr
                have HF1 := hide (show F.set p2 by2 = ups B (q.take (m + 1)) by rw [HFS.out.1, HFN.out])
                by_cases hmr3 : m < room
                · have hmr4 : (m : Int) < (room : Int) := by omega
                  have fr := H1.out.b10.free p2
                  have cr := H1.out.b10.cell p2
                  rw [bs_getD (by rw [HFS.out.2, ups_len, HL4.out]; exact hp2)] at cr
                  generalize (S).getD p2 0 = old2 at cr
                  go_upto_region 30 with (fail)
                  have H2 := hide (H1.out.set10 p2 by2)
                  have HBG2 := hide (HBG1.out.apart (p := ⟨x8 + 1 + 1, p2, none⟩) (HBG1.out.ne H1.out.b10 (by omega)) (.int .u8 (by2.toNat : Nat)))
                  refine wp_region_plan3 (fun w' => Blk w' g7 46 (acs q ++ rest7)) (.take 0 (.take 1 (.take 2 (.take 3 (.take 4 (.take 5 (.take 6 (.take 7 (.take 8 (.take 9 (.take 10 (.take 11 (.run 12 .done))))))))))))) (by kernel_rfl) (by kernel_rfl) (HBG1.out.below ((Below.refl _ _).drew.drew) HBG1.out.lt) ?_
                  (refine plan3_take (o := ?_) (v := ?_) (by simp only [List.getElem?_toArray, List.getElem?_cons_zero]; rfl) (yields_run (by rfl) ?_) ?_; rotate_left; (focus (intro w' hw'; obtain ⟨r1, r2⟩ := HCL.out w' hw'; go_simp <;> with_reducible rfl)); (simp only [Act.put, List.setIfInBounds_toArray, List.set_cons_zero, List.set_cons_succ]))
                  (refine plan3_take (o := ?_) (v := ?_) (by simp only [List.getElem?_toArray, List.getElem?_cons_succ, List.getElem?_cons_zero]; rfl) (yields_run (by rfl) ?_) ?_; rotate_left; (focus (intro w' hw'; obtain ⟨r1, r2⟩ := HCL.out w' hw'; go_simp <;> with_reducible rfl)); (simp only [Act.put, List.setIfInBounds_toArray, List.set_cons_zero, List.set_cons_succ]))
                  (refine plan3_take (o := ?_) (v := ?_) (by simp only [List.getElem?_toArray, List.getElem?_cons_succ, List.getElem?_cons_zero]; rfl) (yields_run (by rfl) ?_) ?_; rotate_left; (focus (intro w' hw'; obtain ⟨r1, r2⟩ := HCL.out w' hw'; go_simp <;> with_reducible rfl)); (simp only [Act.put, List.setIfInBounds_toArray, List.set_cons_zero, List.set_cons_succ]))
                  (refine plan3_take (o := ?_) (v := ?_) (by simp only [List.getElem?_toArray, List.getElem?_cons_succ, List.getElem?_cons_zero]; rfl) (yields_run (by rfl) ?_) ?_; rotate_left; (focus (intro w' hw'; obtain ⟨r1, r2⟩ := HCL.out w' hw'; go_simp <;> with_reducible rfl)); (simp only [Act.put, List.setIfInBounds_toArray, List.set_cons_zero, List.set_cons_succ]))
                  (refine plan3_take (o := ?_) (v := ?_) (by simp only [List.getElem?_toArray, List.getElem?_cons_succ, List.getElem?_cons_zero]; rfl) (yields_run (by rfl) ?_) ?_; rotate_left; (focus (intro w' hw'; obtain ⟨r1, r2⟩ := HCL.out w' hw'; go_simp <;> with_reducible rfl)); (simp only [Act.put, List.setIfInBounds_toArray, List.set_cons_zero, List.set_cons_succ]))
                  (refine plan3_take (o := ?_) (v := ?_) (by simp only [List.getElem?_toArray, List.getElem?_cons_succ, List.getElem?_cons_zero]; rfl) (yields_run (by rfl) ?_) ?_; rotate_left; (focus (intro w' hw'; obtain ⟨r1, r2⟩ := HCL.out w' hw'; go_simp <;> with_reducible rfl)); (simp only [Act.put, List.setIfInBounds_toArray, List.set_cons_zero, List.set_cons_succ]))
                  (refine plan3_take (o := ?_) (v := ?_) (by simp only [List.getElem?_toArray, List.getElem?_cons_succ, List.getElem?_cons_zero]; rfl) (yields_run (by rfl) ?_) ?_; rotate_left; (focus (intro w' hw'; obtain ⟨r1, r2⟩ := HCL.out w' hw'; go_simp <;> with_reducible rfl)); (simp only [Act.put, List.setIfInBounds_toArray, List.set_cons_zero, List.set_cons_succ]))
                  (refine plan3_take (o := ?_) (v := ?_) (by simp only [List.getElem?_toArray, List.getElem?_cons_succ, List.getElem?_cons_zero]; rfl) (yields_run (by rfl) ?_) ?_; rotate_left; (focus (intro w' hw'; obtain ⟨r1, r2⟩ := HCL.out w' hw'; go_simp <;> with_reducible rfl)); (simp only [Act.put, List.setIfInBounds_toArray, List.set_cons_zero, List.set_cons_succ]))
                  (refine plan3_take (o := ?_) (v := ?_) (by simp only [List.getElem?_toArray, List.getElem?_cons_succ, List.getElem?_cons_zero]; rfl) (yields_run (by rfl) ?_) ?_; rotate_left; (focus (intro w' hw'; obtain ⟨r1, r2⟩ := HCL.out w' hw'; go_simp <;> with_reducible rfl)); (simp only [Act.put, List.setIfInBounds_toArray, List.set_cons_zero, List.set_cons_succ]))
                  (refine plan3_take (o := ?_) (v := ?_) (by simp only [List.getElem?_toArray, List.getElem?_cons_succ, List.getElem?_cons_zero]; rfl) (yields_run (by rfl) ?_) ?_; rotate_left; (focus (intro w' hw'; obtain ⟨r1, r2⟩ := HCL.out w' hw'; go_simp <;> with_reducible rfl)); (simp only [Act.put, List.setIfInBounds_toArray, List.set_cons_zero, List.set_cons_succ]))
                  (refine plan3_take (o := ?_) (v := ?_) (by simp only [List.getElem?_toArray, List.getElem?_cons_succ, List.getElem?_cons_zero]; rfl) (yields_run (by rfl) ?_) ?_; rotate_left; (focus (intro w' hw'; obtain ⟨r1, r2⟩ := HCL.out w' hw'; go_simp <;> with_reducible rfl)); (simp only [Act.put, List.setIfInBounds_toArray, List.set_cons_zero, List.set_cons_succ]))
                  (refine plan3_take (o := ?_) (v := ?_) (by simp only [List.getElem?_toArray, List.getElem?_cons_succ, List.getElem?_cons_zero]; rfl) (yields_run (by rfl) ?_) ?_; rotate_left; (focus (intro w' hw'; obtain ⟨r1, r2⟩ := HCL.out w' hw'; go_simp <;> with_reducible rfl)); (simp only [Act.put, List.setIfInBounds_toArray, List.set_cons_zero, List.set_cons_succ]))
                  refine plan3_run (o := ?_) (by simp only [List.getElem?_toArray, List.getElem?_cons_succ, List.getElem?_cons_zero]; rfl) ?_
                  intro R HR
                  go_wp2_with fail
                  refine HR.out _ _ ?_ ?_
                  · exact HBG2.out
                  clear HR
                  refine plan3_done ?_
                  go_wp2_with fail
                  clear fr cr
                  have HS1 := hide (show S.set p2 by2 = ups B (q.take (min (m + 1) room)) by rw [HFS.out.2, Nat.min_eq_left (by omega), Nat.min_eq_left (by omega), HFN.out])
                  go_roundw
                  case rel => exact ⟨m + 1, _, _, by omega, by omega, by go_num, hide ⟨HF1.out, HS1.out⟩, hide (H2.out.below ((Below.refl _ _).drew.drew))⟩
                  case measure => simp [intOf]; omega
                · have hmr4 : ¬ ((m : Int) < (room : Int)) := by omega
                  have HS1 := hide (show S = ups B (q.take (min (m + 1) room)) by rw [HFS.out.2, Nat.min_eq_right (by omega), Nat.min_eq_right (by omega)])
                  go_wp2_with fail
                  go_roundw
                  case rel => exact ⟨m + 1, _, _, by omega, by omega, by go_num, hide ⟨HF1.out, HS1.out⟩, hide (H1.out.below ((Below.refl _ _).drew))⟩
                  case measure => simp [intOf]; omega
              · obtain rfl : m = q.length := by have := HST.out; omega
                have hmq' : decide (q.length < q.length) = false := decide_eq_false (by omega)
                have HF := hide (show F = ups B q ∧ S = ups B q by
                  obtain ⟨h1, h2⟩ := HFS.out
                  rw [Nat.min_eq_left HST.out, List.take_length] at h2
                  rw [List.take_length] at h1
                  exact ⟨h1, h2⟩)
                obtain ⟨rfl, rfl⟩ := HF.out
                obtain ⟨c0, c1, c2, c3⟩ := (HI6.out.env.box (x17, y) (by simp)).1.c4
                have HI7 := hide (HI6.out.fresh)
                have HXB := hide (HI7.out.env.box (a5, d) (by simp)).1
                have HYI := hide (HI7.out.env.box (x17, y) (by simp)).2.2.2
                have H8 := hide (HI7.out.tail.put HYI.out)
                obtain ⟨k0, k1, k2, k3⟩ := (HI7.out.env.box (x17, y) (by simp)).1.c4
                obtain ⟨n0, n1, n2, n3⟩ := (H8.out.env.box (a5, y) (by simp)).1.c4
                have hrr : ((room - q.length : Nat) : Int) = (room : Int) - (q.length : Int) := by have := HST.out; omega
                have hrr0 : (0 : Int) ≤ (room : Int) - (q.length : Int) := by have := HST.out; omega
                have hrm := HRM.out.1
                clear hm1 hm2 hmc
                go_wp2_with (first | (refine wpList_store_row rfl 25 (.tmp 5) (.tmp 152) rfl _ #[.slice y.sa y.ss.length y.sc, .slice y.pa y.ps.length y.pc, .int .i64 y.left, .bool y.stp] rfl rfl 25 _ HXB.out Try.size25 rfl (one25 _ _ _ _ _ _ _ _) ?_) | (refine wpList_load_mid rfl 44 (.tmp 8) rfl x8 0 rfl (bs (ups B q)) _ (range44 H8.out.b8) Try.underlying44 rfl (size44 (by rw [ups_len, HL4.out])) ?_))
                have HRD := hide (show ∀ k : Nat, k < 4 → y.d.read (k : Int) = (half ((ups B q).getD k 0) ((ups B q).getD k 0), 0) from fun k hk => by
                  rw [HYY.out]
                  exact hd_read (l := []) (by rw [ups_len, HL4.out]) (by rw [ups_len, HL4.out]) (by simp) (by have := HRM.out; have := HST.out; omega) k hk)
                refine (holds_any y _ _ _ (H8.out.env.box (a5, y) (by simp)).2.2.2 (by rw [ups_len, HL4.out]) (by rw [ups_len, HL4.out]) HRD.out).mono ?_
                rintro e w10 ⟨rfl, hb⟩
                have H10 := hide (H8.out.below hb)
                clear hb
                go_wp2_with fail
                go_roundw
                case rel => exact ⟨k + 1, ups B q, [], room - q.length, _, 0, y, by omega, by go_num, rfl, by go_num, H10, hide ⟨by rw [HYY.out, hrr], by rw [ups_len, HL4.out], by omega, by simp⟩⟩
                case measure => simp [intOf]; omega
      · have hge : ¬ ((k : Int) < l.length) := by omega
        go_upto_region 40 with (fail)
        have H := hide (HE.out.below (Below.refl _ _).drew)
        have HDB := hide (show ∀ W', Below wr.drew.heap.size wr.drew W' → Blk W' a5 25 d.cs from fun W' hW => ((H.out.below hW).env.box (a5, d) (by simp)).1)
        have HDI := hide ((H.out.env.box (a5, d) (by simp)).2.2.2)
        have HLF := hide HD.out.2.1
        have HLS := HLF
        have HRD := hide (show ∀ r1 : Dsk, r1.d = d.d.restart → ∀ k : Nat, k < 4 → r1.d.read (k : Int) = (half (B.getD k 0) (B.getD k 0), 0) from fun r1 hr k hk => by
          rw [hr, HD.out.1]
          exact hd_read (l := []) (left := -1) HLF.out HLS.out (by simp) (by decide) k hk)
        refine wp_region_plan3 (fun w' => Below wr.drew.heap.size wr.drew w') (.take 0 (.take 2 (.take 3 (.run 1 (.run 4 (.run 5 .done)))))) (by kernel_rfl) (by kernel_rfl) (Below.refl _ _) ?_
        generalize wr.drew = wD at *
        have HB0 := hide (Below.refl wD.heap.size wD)
        (refine plan3_take (o := ?_) (v := ?_) (by simp only [List.getElem?_toArray, List.getElem?_cons_zero]; rfl) (yields_run (by rfl) ?_) ?_; rotate_left; (focus (intro w' hw'; obtain ⟨q0, q1, q2, q3⟩ := (HDB.out w' hw').c4; go_simp <;> with_reducible rfl)); (simp only [Act.put, List.setIfInBounds_toArray, List.set_cons_zero, List.set_cons_succ]))
        (refine plan3_take (o := ?_) (by simp only [List.getElem?_toArray, List.getElem?_cons_succ, List.getElem?_cons_zero]; rfl) (yieldsIf_load_mid (by rfl) 44 (.tmp 9) rfl (x8 + 1) 0 rfl (bs B) _ (fun W' hW => range44 (H.out.below hW).b9) Try.underlying44 rfl (size44 HLF.out)) ?_; (simp only [Act.put, List.setIfInBounds_toArray, List.set_cons_zero, List.set_cons_succ]))
        (refine plan3_take (o := ?_) (by simp only [List.getElem?_toArray, List.getElem?_cons_succ, List.getElem?_cons_zero]; rfl) (yieldsIf_load_mid (by rfl) 44 (.tmp 10) rfl (x8 + 1 + 1) 0 rfl (bs B) _ (fun W' hW => range44 (H.out.below hW).b10) Try.underlying44 rfl (size44 HLF.out)) ?_; (simp only [Act.put, List.setIfInBounds_toArray, List.set_cons_zero, List.set_cons_succ]))
        refine plan3_run (o := ?_) (by simp only [List.getElem?_toArray, List.getElem?_cons_succ, List.getElem?_cons_zero]; rfl) ?_
        intro R HR
        go_wp2_with fail
        (with_reducible refine (restart_is _ rfl (HDI.out.below HB0.out)).mono ?_)
        rintro e v2 ⟨r1, rfl, hr1, hi1, hb⟩
        have HB2 := hide (below_one HB0.out hb)
        have HR1 := hide hr1
        have HRI := hide hi1
        clear hr1 hi1 hb
        go_wp2_with fail
        refine HR.out _ _ HB2.out ?_
        clear HR
        refine plan3_run (o := ?_) (by simp only [List.getElem?_toArray, List.getElem?_cons_succ, List.getElem?_cons_zero]; rfl) ?_
        intro R HR
        go_wp2_with fail
        (with_reducible refine (holds_any r1 _ _ _ HRI.out HLF.out HLS.out (HRD.out r1 HR1.out)).mono ?_)
        rintro e v3 ⟨rfl, hb⟩
        have HB3 := hide (below_one HB2.out hb)
        clear hb
        go_wp2_with fail
        refine HR.out _ _ HB3.out ?_
        clear HR
        refine plan3_run (o := ?_) (by simp only [List.getElem?_toArray, List.getElem?_cons_succ, List.getElem?_cons_zero]; rfl) ?_
        intro R HR
        go_wp2_with fail
        refine HR.out _ _ HB3.out ?_
        clear HR
        refine plan3_done ?_
        go_wp2_with fail
        go_ret
        exact ⟨rfl, H.out.env.bel.trans (HB3.out.mono H.out.env.bel.size)⟩
end Go.Proofs.Ytfhfmnlkpcmgfaa
