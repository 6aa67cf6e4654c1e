/- The reference's Root. -/
import Derived.Test.YthjfeodclphgaaaDoorRnx
import Derived.Deep.AppendLies
namespace Go.Proofs.YthjfeodclphgaaaDoor
open Go.RowKit Go.Shelf
set_option maxRecDepth 20000 in
set_option maxHeartbeats 1600000 in
theorem rroot_nil (PA : Option Addr) (pc : Nat) (w : World) : Calls Tryd.prog 39 #[.slice PA 0 pc] w fun e w' => e = .returned (dv (tagd [110, 111, 110, 101] [])) ∧ Below w.heap.size w w' := by
  have HR := hide (Blk.new w 26 (List.replicate 32 (.int .u8 0)))
  have HB := hide (below_new w (.cells (List.replicate 32 (.int .u8 0)).toArray 26))
  have HC := hide (rtagged_any sNone none 0 0 [] (w.alloc (.cells (List.replicate 32 (.int .u8 0)).toArray 26)) ⟨rfl, fun h => absurd rfl h, fun _ => rfl⟩ (by decide) (by decide))
  have HS := hide (dv_size _ (tagd_len [110, 111, 110, 101] []))
  have HZ := hide (show (Tryd.prog.info? 26).map (·.size) = some ((bc (tagd [110, 111, 110, 101] [])).toArray).size by rw [HS.out]; exact Tryd.size26)
  have HO := hide (all_oneCell_toArray (bc_one (tagd [110, 111, 110, 101] [])))
  have HE := hide (show sNone.data.toList = [110, 111, 110, 101] from rfl)
  rw [HE.out] at HC
  generalize tagd [110, 111, 110, 101] [] = d at *
  go_enter Tryd.func39, Tryd.ntmps39
  go_wp2_with fail
  refine HC.out.mono ?_
  rintro e w2 ⟨rfl, hb⟩
  have HB2 := hide (below_one HB.out hb)
  have HR2 := hide (HR.out.below hb HR.out.lt)
  clear hb
  go_wp2_with (refine wpList_store_row rfl 26 (.tmp 2) (.tmp 7) rfl w.heap.size _ rfl rfl 26 _ HR2.out HZ.out (by rw [HS.out]; rfl) HO.out ?_)
  refine bodyPost_ret (v := dv d) (results_cell_row rfl _ _ w.heap.size 26 _ (0, 0) _ rfl (setRow_heap _ _ _ _ _ _ HR2.out) Tryd.underlying26 rfl HZ.out) rfl ⟨rfl, below_setRow HB2.out (Nat.le_refl _) _⟩
set_option maxRecDepth 20000 in
set_option maxHeartbeats 1600000 in
theorem rroot_some (PA : Option Addr) (pl : List Lf) (pc : Nat) (w : World) (hl : LvIn w PA pl) (h1 : 1 ≤ pl.length) (hn : pl.length ≤ 70000) :
    Calls Tryd.prog 39 #[.slice PA pl.length pc] w fun e w' => e = .returned (dv (rootR sha tagN (rowF pl))) ∧ Below w.heap.size w w' := by
  have HR := hide (Blk.new w 26 (List.replicate 32 (.int .u8 0)))
  have HB := hide (below_new w (.cells (List.replicate 32 (.int .u8 0)).toArray 26))
  have HC := hide (rfirst_any PA pl pc (w.alloc (.cells (List.replicate 32 (.int .u8 0)).toArray 26)) (hl.below HB.out) hn)
  have HRL := hide (show (rowF pl).length = pl.length ∧ D32 (rowF pl) from ⟨rowF_len pl, rowF_32 pl⟩)
  have hne' : ((pl.length : Int) == 0) = false := by simp only [beq_eq_false_iff_ne, ne_eq]; omega
  have HRR := hide (rootR_len HRL.out.2 (by rw [HRL.out.1]; exact h1))
  clear hl
  generalize rowF pl = row at *
  generalize hr0 : rootR sha tagN row = r0 at *
  have HR0 := hide hr0
  clear hr0
  have HS := hide (dv_size _ HRR.out)
  have HZ := hide (show (Tryd.prog.info? 26).map (·.size) = some ((bc r0).toArray).size by rw [HS.out]; exact Tryd.size26)
  have HO := hide (all_oneCell_toArray (bc_one r0))
  go_enter Tryd.func39, Tryd.ntmps39
  go_wp2_with fail
  refine HC.out.mono ?_
  rintro e w2 ⟨A, c, rfl, h3, h4⟩
  obtain ⟨A', c', e', hds⟩ := own_dsrc h3 HRL.out.2 rfl
  cases e'
  have HD := hide hds
  have HB2 := hide (below_one HB.out h4)
  have HR2 := hide (HR.out.below h4 HR.out.lt)
  clear h3 h4 hds HC
  go_wp2_with fail
  go_loopw [3] (fun v wr => ∃ (L : List (List UInt8)) (A : Option Addr) (c : Nat), v = .slice A L.length c ∧ 1 ≤ L.length ∧ L.length ≤ 70000 ∧ Hid (rootR sha tagN L = r0) ∧ Hid (DSrc wr A L.length c L) ∧ Hid (Blk wr w.heap.size 26 (List.replicate 32 (.int .u8 0)) ∧ Below w.heap.size w wr)) (fun v _ => match v with | .slice _ n _ => n | _ => 0)
  case atStart => exact ⟨row, A, c, rfl, by have := HRL.out.1; omega, by have := HRL.out.1; omega, HR0, HD, hide ⟨HR2.out, HB2.out⟩⟩
  case round =>
    obtain ⟨L, A, c, rfl, hL1, hL2, HRO, HDS, HBB⟩ := hrel
    by_cases hlt : 1 < L.length
    · have hlt' : (1 : Int) < (L.length : Int) := by omega
      obtain ⟨b, o, rfl, hB⟩ := HDS.out.ds.at HDS.out.d32 hL1
      have HN := hide (rnext_any b o c L wr HDS.out.d32 hB hL1 (by omega))
      have HRO2 := hide ((rootR_more sha tagN hlt).symm.trans HRO.out)
      have HP := hide (And.intro (pairsL_len sha tagN L) (pairs_32 HDS.out.d32))
      clear hB HRO
      generalize pairsL sha tagN L = L2 at *
      go_wp2_with fail
      with_reducible refine HN.out.mono ?_
      rintro e w3 ⟨A3, c3, rfl, h3, h4⟩
      obtain ⟨A', c', e', hds⟩ := own_dsrc h3 HP.out.2 rfl
      cases e'
      have HD3 := hide hds
      have HB3 := hide (And.intro (HBB.out.1.below h4 HBB.out.1.lt) (below_one HBB.out.2 h4))
      have hp := HP.out.1
      have hp1 : 1 ≤ L2.length := by omega
      have hp2 : L2.length ≤ 70000 := by omega
      have hp3 : L2.length < L.length := by omega
      clear hp h3 h4 hds HN
      go_wp2_with fail
      go_roundw
      case rel => exact ⟨L2, A3, c3, rfl, hp1, hp2, HRO2, HD3, HB3⟩
      case measure => exact hp3
    · have hlt' : ¬ (1 : Int) < (L.length : Int) := by omega
      obtain ⟨d, rfl⟩ : ∃ d, L = [d] := List.length_eq_one_iff.1 (by omega)
      have HRO2 := hide (show d = r0 by have := HRO.out; rw [rootR_one sha tagN (by simp)] at this; exact this)
      obtain rfl := HRO2.out
      obtain ⟨b, o, rfl, hB⟩ := HDS.out.ds.at HDS.out.d32 (by simp)
      have HG := hide (show wr.rangeAt b o (bc d) from by simpa using bs_range hB)
      have hc1 := HDS.out.le
      have hc2 := HDS.out.top
      clear HRO HRO2 hB HDS HD HR0
      go_wp2_with (first | (refine wpList_load_mid rfl 26 (.tmp 16) rfl b o rfl (bc d) _ HG.out Tryd.underlying26 rfl HZ.out ?_) | (refine wpList_store_row rfl 26 (.tmp 2) (.tmp 17) rfl w.heap.size _ rfl rfl 26 _ HBB.out.1 HZ.out (by rw [HS.out]; rfl) HO.out ?_))
      refine bodyPost_ret (v := dv d) (results_cell_row rfl _ _ w.heap.size 26 _ (0, 0) _ rfl (setRow_heap _ _ _ _ _ _ HBB.out.1) Tryd.underlying26 rfl HZ.out) rfl ⟨rfl, below_setRow HBB.out.2 (Nat.le_refl _) _⟩
theorem rroot_any (PA : Option Addr) (pl : List Lf) (pc : Nat) (w : World) (hl : LvIn w PA pl) (hn : pl.length ≤ 70000) :
    Calls Tryd.prog 39 #[.slice PA pl.length pc] w fun e w' => e = .returned (dv (rootB pl)) ∧ Below w.heap.size w w' := by
  unfold rootB
  by_cases h : pl.length = 0
  · rw [if_pos h, h]; exact rroot_nil PA pc w
  · rw [if_neg h]; exact rroot_some PA pl pc w hl (by omega) hn
end Go.Proofs.YthjfeodclphgaaaDoor

/- The reference's Prove. -/
namespace Go.Proofs.YthjfeodclphgaaaDoor
open Go.RowKit Go.Shelf
theorem row_form {B : Nat} {w : World} {A : Option Addr} {c : Nat} {L : List (List UInt8)} (h : w.ownsRow B 26 32 (.slice A L.length c) L.length (bc L.flatten)) (hD : D32 L) (h1 : 1 ≤ L.length) :
    ∃ g, A = some ⟨g, 0, none⟩ ∧ B ≤ g ∧ g < w.heap.size ∧ Bs w g 0 L.flatten := by
  obtain ⟨g, c', e, hb, hlt⟩ := h.form (by omega)
  obtain ⟨A', c'', e', hds⟩ := own_dsrc h hD rfl
  cases e'
  cases e
  obtain ⟨b, o, eb, hB⟩ := hds.ds.at hD h1
  cases eb
  exact ⟨g, rfl, hb, hlt, hB⟩
set_option maxRecDepth 20000 in
set_option maxHeartbeats 3200000 in
theorem rprove_yes (PA : Option Addr) (pl : List Lf) (pc : Nat) (i : Nat) (w : World) (hl : LvIn w PA pl) (hi : i < pl.length) (hn : pl.length ≤ 65536) :
    Calls Tryd.prog 37 #[.slice PA pl.length pc, .int .i64 (i : Nat)] w fun e w' => ∃ (A : Option Addr) (cap : Nat), e = .returned (.tuple #[.slice A (proveR sha tagN (rowF pl) i).length cap, .int .i64 0]) ∧
      w'.ownsRow w.heap.size 26 32 (.slice A (proveR sha tagN (rowF pl) i).length cap) (proveR sha tagN (rowF pl) i).length (bc (proveR sha tagN (rowF pl) i).flatten) ∧ Below w.heap.size w w' := by
  have hn1 : ¬ (65536 : Int) < (pl.length : Int) := by omega
  have hn2 : ¬ (i : Int) < 0 := by omega
  have hn3 : ¬ (pl.length : Int) ≤ (i : Int) := by omega
  have HST := hide (show (w.alloc (.cells #[] 26)).ownsRow w.heap.size 26 32 (.slice (some ⟨w.heap.size, 0, none⟩) 0 0) 0 (bc ([] : List (List UInt8)).flatten) ∧ Below w.heap.size w (w.alloc (.cells #[] 26)) from ⟨own_empty w w.heap.size 26 26 32 rfl (Nat.le_refl _), below_new w _⟩)
  have HF := hide (rfirst_any PA pl pc (w.alloc (.cells #[] 26)) (hl.below HST.out.2) (by omega))
  have HRL := hide (show (rowF pl).length = pl.length ∧ D32 (rowF pl) from ⟨rowF_len pl, rowF_32 pl⟩)
  have HR16 := hide (show (proveR sha tagN (rowF pl) i).length ≤ 16 by
    rw [proveR_len sha tagN _ _ i (Nat.le_refl _)]
    exact lenR_le 16 _ _ (by rw [HRL.out.1]; omega))
  clear hl
  generalize rowF pl = row at *
  generalize hr0 : proveR sha tagN row i = R at *
  have HR0 := hide hr0
  clear hr0
  go_enter Tryd.func37, Tryd.ntmps37
  go_wp2_with fail
  refine HF.out.mono ?_
  rintro e w2 ⟨A, c, rfl, h3, h4⟩
  obtain ⟨g, rfl, hg1, hg2, hB⟩ := row_form h3 HRL.out.2 (by rw [HRL.out.1]; omega)
  have HM := hide (And.intro HRL.out.2 (And.intro hB hg2))
  have HB2 := hide (below_one HST.out.2 h4)
  have HO2 := hide (own_below HST.out.1 h4)
  have HNE := hide (show ∀ k, (Value.slice (some ⟨w.heap.size, 0, none⟩) 0 0).ownBlock = some k → k ≠ g from by
    intro k hk
    cases hk
    have : (w.alloc (.cells #[] 26)).heap.size = w.heap.size + 1 := by simp
    show w.heap.size ≠ g
    omega)
  have hrl1 : i < row.length := by have := HRL.out.1; omega
  have hrl2 : row.length ≤ 65536 := by have := HRL.out.1; omega
  clear h3 h4 hB hg1 hg2 HF HST
  go_wp2_with fail
  go_loopw [1, 6, 7] (fun iv v r wr => ∃ (q : Nat) (L : List (List UInt8)) (g o c : Nat) (out : List (List UInt8)) (A2 : Option Addr) (c2 : Nat), iv = .int .i64 (q : Nat) ∧ v = .slice A2 out.length c2 ∧ r = .slice (some ⟨g, o, none⟩) L.length c ∧ q < L.length ∧ L.length ≤ 65536 ∧ Hid (D32 L ∧ Bs wr g o L.flatten ∧ g < wr.heap.size) ∧ Hid (out ++ proveR sha tagN L q = R) ∧
    Hid (wr.ownsRow w.heap.size 26 32 (.slice A2 out.length c2) out.length (bc out.flatten)) ∧ Hid (∀ k, (Value.slice A2 out.length c2).ownBlock = some k → k ≠ g) ∧ Hid (Below w.heap.size w wr)) (fun _ _ r _ => match r with | .slice _ n _ => n | _ => 0)
  case atStart => exact ⟨i, row, g, 0, c, [], some ⟨w.heap.size, 0, none⟩, 0, rfl, rfl, rfl, hrl1, hrl2, HM, hide (by rw [List.nil_append]; exact HR0.out), HO2, HNE, HB2⟩
  case round =>
    clear HM HR0 HO2 HNE HB2 HRL hrl1 hrl2
    obtain ⟨q, L, g, o, c, out, A2, c2, rfl, rfl, rfl, hq, hL2, HM, HRO, HO, HNE, HB⟩ := hrel
    by_cases hlt : 1 < L.length
    · have hlt' : (1 : Int) < (L.length : Int) := by omega
      have HPM := hide (proveR_more sha tagN (l := L) (i := q) hlt)
      have HPP := hide (show D32 (pairsL sha tagN L) ∧ (pairsL sha tagN L).length = (L.length + 1) / 2 from ⟨pairs_32 HM.out.1, pairsL_len sha tagN L⟩)
      have hon : out.length + 1 ≤ 1000000 := by
        have h1 := congrArg List.length HRO.out
        rw [List.length_append] at h1
        have h2 := HR16.out
        omega
      by_cases hodd : q % 2 = 1
      · have ho : ((q : Int) % 2 == 1) = true := by simp only [beq_iff_eq]; omega
        have hqx : q - 1 < L.length := by omega
        have HX := hide (bs_range (ds_el HM.out.1 HM.out.2.1 hqx))
        have HXL := hide (HM.out.1 _ (List.getElem_mem hqx))
        have HA := hide (show out ++ [L[q - 1]] ++ proveR sha tagN (pairsL sha tagN L) (q / 2) = R from by
          have h := HRO.out
          rw [HPM.out, if_neg (by unfold aloneB nb; rw [if_pos hodd]; rw [decide_eq_true_iff]; omega)] at h
          rw [show L.getD (nb q) [] = L[q - 1] from by
            rw [show nb q = q - 1 from by unfold nb; rw [if_pos hodd], List.getD_eq_getElem?_getD, List.getElem?_eq_getElem hqx]; rfl] at h
          rw [List.append_assoc]
          exact h)
        generalize L[q - 1] = x at *
        have HSZ := hide (show (Tryd.prog.info? 26).map (·.size) = some (bc x).length by rw [bc_len, HXL.out]; exact Tryd.size26)
        have hbl : (bc x).length = 32 := by rw [bc_len]; exact HXL.out
        have HBN := hide (Blk.new wr 26 (bc x))
        have HB4 := hide (HB.out.alloc HB.out.size (.cells (bc x).toArray 26))
        have HO4 := hide (own_below HO.out (below_new wr (.cells (bc x).toArray 26)))
        have hbase := HB4.out.size
        have HKEEP := hide (show ∀ w6, (wr.alloc (.cells (bc x).toArray 26)).grownBy w6 (Value.slice A2 out.length c2).ownBlock → Bs w6 g o L.flatten from fun w6 hg =>
          ((HM.out.2.1.below (below_new wr (.cells (bc x).toArray 26)) HM.out.2.2)).move (hg.block g (Nat.lt_of_lt_of_le HM.out.2.2 (below_new wr (.cells (bc x).toArray 26)).size) (fun e => HNE.out g e.symm rfl)))
        have ewr : IntKind.i64.wrap ((q : Int) - 1) = (q : Int) - 1 := IntWalk.i64_in _ (by omega)
        have etn : ((q : Int) - 1).toNat = q - 1 := by omega
        have e0n : (0 : Int) ≤ (q : Int) - 1 := by omega
        have e1n : (q : Int) - 1 < (L.length : Int) := by omega
        clear HPM HRO HO
        go_wp2_with (first | (refine wpList_load_mid rfl 26 (.tmp 34) rfl g (o + (q - 1) * 32) rfl (bc x) _ HX.out Tryd.underlying26 rfl HSZ.out ?_) | (at_builtin; (first | rw [fold_dv x HXL.out] | skip); (refine wpList_plain rfl ?_; intro K' hK'; refine wp_app26 (.tmp 30) (.tmp 36) rfl w.heap.size _ out.length out rfl HO4.out (some ⟨wr.heap.size, 0, none⟩) 1 1 [x] rfl (DSrc.one_of HBN.out HXL.out) hon hbase (out.length + 1) (out ++ [x]) rfl rfl ?_; intro v6 w6 hown hg; refine hK' _ _ ?_; have HO6 := hide hown; have HB6 := hide (below_grow HB4.out hbase HO4.out hg); have HL6 := hide (HKEEP.out w6 hg); clear hown hg; obtain ⟨A6, c6, rfl⟩ := own_form0 HO6.out)))
        clear ewr etn e0n e1n
        with_reducible refine (rnext_any g o c L w6 HM.out.1 HL6.out (by omega) (by omega)).mono ?_
        generalize pairsL sha tagN L = L2 at *
        rintro e w7 ⟨A3, c3, rfl, h3, h4⟩
        obtain ⟨g3, rfl, hg1, hg2, hB3⟩ := row_form h3 HPP.out.1 (by have := HPP.out.2; omega)
        have HM7 := hide (And.intro HPP.out.1 (And.intro hB3 hg2))
        have HB7 := hide (below_one HB6.out h4)
        have HO7 := hide (own_below HO6.out h4)
        have HNE7 := hide (show ∀ k, (Value.slice A6 (out.length + 1) c6).ownBlock = some k → k ≠ g3 from fun k hk => by have := (HO6.out.lt k hk).2; omega)
        have hp1 : q / 2 < L2.length := by have := HPP.out.2; omega
        have hp2 : L2.length ≤ 65536 := by have := HPP.out.2; omega
        have hp3 : L2.length < L.length := by have := HPP.out.2; omega
        clear h3 h4 hB3 hg1 hg2
        go_wp2_with fail
        go_roundw
        case rel => exact ⟨q / 2, L2, g3, 0, c3, out ++ [x], A6, c6, by first | rfl | go_num, by rw [List.length_append]; rfl, rfl, hp1, hp2, HM7, HA, hide (by rw [List.length_append]; exact HO7.out), hide (by rw [List.length_append]; exact HNE7.out), HB7⟩
        case measure => exact hp3
      · have ho : ((q : Int) % 2 == 1) = false := by simp only [beq_eq_false_iff_ne, ne_eq]; omega
        by_cases hqx : q + 1 < L.length
        · have hlt2 : (q : Int) + 1 < (L.length : Int) := by omega
          have HX := hide (bs_range (ds_el HM.out.1 HM.out.2.1 hqx))
          have HXL := hide (HM.out.1 _ (List.getElem_mem hqx))
          have HA := hide (show out ++ [L[q + 1]] ++ proveR sha tagN (pairsL sha tagN L) (q / 2) = R from by
            have h := HRO.out
            rw [HPM.out, if_neg (by unfold aloneB nb; rw [if_neg hodd]; rw [decide_eq_true_iff]; omega)] at h
            rw [show L.getD (nb q) [] = L[q + 1] from by
              rw [show nb q = q + 1 from by unfold nb; rw [if_neg hodd], List.getD_eq_getElem?_getD, List.getElem?_eq_getElem hqx]; rfl] at h
            rw [List.append_assoc]
            exact h)
          generalize L[q + 1] = x at *
          have HSZ := hide (show (Tryd.prog.info? 26).map (·.size) = some (bc x).length by rw [bc_len, HXL.out]; exact Tryd.size26)
          have hbl : (bc x).length = 32 := by rw [bc_len]; exact HXL.out
          have HBN := hide (Blk.new wr 26 (bc x))
          have HB4 := hide (HB.out.alloc HB.out.size (.cells (bc x).toArray 26))
          have HO4 := hide (own_below HO.out (below_new wr (.cells (bc x).toArray 26)))
          have hbase := HB4.out.size
          have HKEEP := hide (show ∀ w6, (wr.alloc (.cells (bc x).toArray 26)).grownBy w6 (Value.slice A2 out.length c2).ownBlock → Bs w6 g o L.flatten from fun w6 hg =>
            ((HM.out.2.1.below (below_new wr (.cells (bc x).toArray 26)) HM.out.2.2)).move (hg.block g (Nat.lt_of_lt_of_le HM.out.2.2 (below_new wr (.cells (bc x).toArray 26)).size) (fun e => HNE.out g e.symm rfl)))
          have ewr : IntKind.i64.wrap ((q : Int) + 1) = (q : Int) + 1 := IntWalk.i64_in _ (by omega)
          have etn : ((q : Int) + 1).toNat = q + 1 := by omega
          have e0n : (0 : Int) ≤ (q : Int) + 1 := by omega
          have e1n : (q : Int) + 1 < (L.length : Int) := by omega
          clear HPM HRO HO
          go_wp2_with (first | (refine wpList_load_mid rfl 26 (.tmp 47) rfl g (o + (q + 1) * 32) rfl (bc x) _ HX.out Tryd.underlying26 rfl HSZ.out ?_) | (at_builtin; (first | rw [fold_dv x HXL.out] | skip); (refine wpList_plain rfl ?_; intro K' hK'; refine wp_app26 (.tmp 43) (.tmp 49) rfl w.heap.size _ out.length out rfl HO4.out (some ⟨wr.heap.size, 0, none⟩) 1 1 [x] rfl (DSrc.one_of HBN.out HXL.out) hon hbase (out.length + 1) (out ++ [x]) rfl rfl ?_; intro v6 w6 hown hg; refine hK' _ _ ?_; have HO6 := hide hown; have HB6 := hide (below_grow HB4.out hbase HO4.out hg); have HL6 := hide (HKEEP.out w6 hg); clear hown hg; obtain ⟨A6, c6, rfl⟩ := own_form0 HO6.out)))
          clear ewr etn e0n e1n
          with_reducible refine (rnext_any g o c L w6 HM.out.1 HL6.out (by omega) (by omega)).mono ?_
          generalize pairsL sha tagN L = L2 at *
          rintro e w7 ⟨A3, c3, rfl, h3, h4⟩
          obtain ⟨g3, rfl, hg1, hg2, hB3⟩ := row_form h3 HPP.out.1 (by have := HPP.out.2; omega)
          have HM7 := hide (And.intro HPP.out.1 (And.intro hB3 hg2))
          have HB7 := hide (below_one HB6.out h4)
          have HO7 := hide (own_below HO6.out h4)
          have HNE7 := hide (show ∀ k, (Value.slice A6 (out.length + 1) c6).ownBlock = some k → k ≠ g3 from fun k hk => by have := (HO6.out.lt k hk).2; omega)
          have hp1 : q / 2 < L2.length := by have := HPP.out.2; omega
          have hp2 : L2.length ≤ 65536 := by have := HPP.out.2; omega
          have hp3 : L2.length < L.length := by have := HPP.out.2; omega
          clear h3 h4 hB3 hg1 hg2
          go_wp2_with fail
          go_roundw
          case rel => exact ⟨q / 2, L2, g3, 0, c3, out ++ [x], A6, c6, by first | rfl | go_num, by rw [List.length_append]; rfl, rfl, hp1, hp2, HM7, HA, hide (by rw [List.length_append]; exact HO7.out), hide (by rw [List.length_append]; exact HNE7.out), HB7⟩
          case measure => exact hp3
        · have hlt2 : ¬ (q : Int) + 1 < (L.length : Int) := by omega
          have HA := hide (show proveR sha tagN L q = proveR sha tagN (pairsL sha tagN L) (q / 2) from by
            rw [HPM.out, if_pos (by unfold aloneB nb; rw [if_neg hodd]; exact decide_eq_true (by omega))]; rfl)
          rw [HA.out] at HRO
          have HN := hide (rnext_any g o c L wr HM.out.1 HM.out.2.1 (by omega) (by omega))
          clear HA HPM
          go_wp2_with fail
          generalize pairsL sha tagN L = L2 at *
          with_reducible refine HN.out.mono ?_
          rintro e w7 ⟨A3, c3, rfl, h3, h4⟩
          obtain ⟨g3, rfl, hg1, hg2, hB3⟩ := row_form h3 HPP.out.1 (by have := HPP.out.2; omega)
          have HM7 := hide (And.intro HPP.out.1 (And.intro hB3 hg2))
          have HB7 := hide (below_one HB.out h4)
          have HO7 := hide (own_below HO.out h4)
          have HNE7 := hide (show ∀ k, (Value.slice A2 out.length c2).ownBlock = some k → k ≠ g3 from fun k hk => by have := (HO.out.lt k hk).2; omega)
          have hp1 : q / 2 < L2.length := by have := HPP.out.2; omega
          have hp2 : L2.length ≤ 65536 := by have := HPP.out.2; omega
          have hp3 : L2.length < L.length := by have := HPP.out.2; omega
          clear h3 h4 hB3 hg1 hg2 HN
          go_wp2_with fail
          go_roundw
          case rel => exact ⟨q / 2, L2, g3, 0, c3, out, A2, c2, by first | rfl | go_num, rfl, rfl, hp1, hp2, HM7, HRO, HO7, HNE7, HB7⟩
          case measure => exact hp3
    · have hlt' : ¬ (1 : Int) < (L.length : Int) := by omega
      obtain rfl : out = R := by have := HRO.out; rw [proveR_one sha tagN (by omega), List.append_nil] at this; exact this
      go_wp2_with fail
      exact bodyPost_ret (results_tmp2 rfl _ _ _) rfl ⟨A2, c2, rfl, HO.out, HB.out⟩
/-- Not a leaf. -/
theorem rprove_no (PA : Option Addr) (n pc : Nat) (i : Int) (w : World) (h : leafB (n : Nat) i = false) :
    Calls Tryd.prog 37 #[.slice PA n pc, .int .i64 i] w fun e w' => e = .returned (.tuple #[.slice none 0 0, .int .i64 1]) ∧ Below w.heap.size w w' := by
  have HL := hide h
  clear h
  go_enter Tryd.func37, Tryd.ntmps37
  by_cases h1 : (65536 : Int) < (n : Int)
  · go_wp2_with fail
    exact bodyPost_ret (results_tmp2 rfl _ _ _) rfl ⟨rfl, Below.refl _ _⟩
  · by_cases h2 : i < 0
    · go_wp2_with fail
      exact bodyPost_ret (results_tmp2 rfl _ _ _) rfl ⟨rfl, Below.refl _ _⟩
    · have h3 : (n : Int) ≤ i := by
        have := HL.out
        unfold leafB at this
        simp at this
        omega
      go_wp2_with fail
      exact bodyPost_ret (results_tmp2 rfl _ _ _) rfl ⟨rfl, Below.refl _ _⟩
end Go.Proofs.YthjfeodclphgaaaDoor

/- The reference's Same. -/
namespace Go.Proofs.YthjfeodclphgaaaDoor
open Go.RowKit
set_option maxRecDepth 10000 in
set_option maxHeartbeats 800000 in
theorem rsame_any (l : List (List UInt8)) (m c c' : Nat) (a a' : Option Addr) (w : World) (hD : D32 l) (h1 : Ds w a l) (h2 : Ds w a' l) (hm : m = l.length) (hn : m ≤ 9223372036854775807) :
    Calls Tryd.prog 40 #[.slice a m c, .slice a' m c'] w fun e w' => e = .returned (.bool true) ∧ Below w.heap.size w w' := by
  have HD := hide hD
  have H1 := hide h1
  have H2 := hide h2
  have HM := hide hm
  clear hD h1 h2 hm
  go_enter Tryd.func40, Tryd.ntmps40
  go_wp2_with fail
  go_loopw [5] (fun i wr => ∃ k : Nat, k ≤ m ∧ i = .int .i64 (k : Nat) ∧ Hid (Below w.heap.size w wr)) (fun i _ => m - (intOf i).toNat)
  case atStart => exact ⟨0, by omega, rfl, hide (Below.refl _ _)⟩
  case round =>
    obtain ⟨k, hk, rfl, HB⟩ := hrel
    by_cases hlt : k < m
    · have hltI : (k : Int) < (m : Int) := by omega
      have hkl : k < l.length := by rw [← HM.out]; exact hlt
      obtain ⟨b, o, rfl, hB1⟩ := H1.out.at HD.out (by omega)
      obtain ⟨b', o', rfl, hB2⟩ := H2.out.at HD.out (by omega)
      have hp : 0 < l.flatten.length := by rw [HD.out.flat]; omega
      have HE1 := hide (ds_el HD.out (hB1.below HB.out (hB1.lt hp)) hkl)
      have HE2 := hide (ds_el HD.out (hB2.below HB.out (hB2.lt hp)) hkl)
      have HLE := hide (HD.out _ (List.getElem_mem hkl))
      clear hB1 hB2 hp
      generalize l[k] = d at *
      have HSZ := hide (show (Tryd.prog.info? 26).map (·.size) = some (bc d).length by rw [bc_len, HLE.out]; exact Tryd.size26)
      go_wp2_with fail
      refine wp_region_plan (fun W => W.rangeAt b (o + k * 32) (bc d) ∧ W.rangeAt b' (o' + k * 32) (bc d)) (.take 0 (.take 1 (.take 2 (.take 4 (.take 5 (.take 6 (.take 3 (.take 7 (.take 8 .done))))))))) (by kernel_rfl) (by kernel_rfl) ⟨bs_range HE1.out, bs_range HE2.out⟩ ?_
      (refine plan_take (o := ?_) (v := ?_) (by simp only [List.getElem?_toArray, List.getElem?_cons_zero]; rfl) (yields_run (by rfl) ?_) ?_; rotate_left; (focus (intro w' _; go_simp <;> with_reducible rfl)); (simp only [Act.put, List.setIfInBounds_toArray, List.set_cons_zero, List.set_cons_succ]))
      (refine plan_take (o := ?_) (v := ?_) (by simp only [List.getElem?_toArray, List.getElem?_cons_succ, List.getElem?_cons_zero]; rfl) (yields_run (by rfl) ?_) ?_; rotate_left; (focus (intro w' _; go_simp <;> with_reducible rfl)); (simp only [Act.put, List.setIfInBounds_toArray, List.set_cons_zero, List.set_cons_succ]))
      (refine plan_take (o := ?_) (v := ?_) (by simp only [List.getElem?_toArray, List.getElem?_cons_succ, List.getElem?_cons_zero]; rfl) (yields_run (by rfl) ?_) ?_; rotate_left; (focus (intro w' _; go_simp <;> with_reducible rfl)); (simp only [Act.put, List.setIfInBounds_toArray, List.set_cons_zero, List.set_cons_succ]))
      (refine plan_take (o := ?_) (v := ?_) (by simp only [List.getElem?_toArray, List.getElem?_cons_succ, List.getElem?_cons_zero]; rfl) (yields_run (by rfl) ?_) ?_; rotate_left; (focus (intro w' _; go_simp <;> with_reducible rfl)); (simp only [Act.put, List.setIfInBounds_toArray, List.set_cons_zero, List.set_cons_succ]))
      (refine plan_take (o := ?_) (v := ?_) (by simp only [List.getElem?_toArray, List.getElem?_cons_succ, List.getElem?_cons_zero]; rfl) (yields_run (by rfl) ?_) ?_; rotate_left; (focus (intro w' _; go_simp <;> with_reducible rfl)); (simp only [Act.put, List.setIfInBounds_toArray, List.set_cons_zero, List.set_cons_succ]))
      (refine plan_take (o := ?_) (v := ?_) (by simp only [List.getElem?_toArray, List.getElem?_cons_succ, List.getElem?_cons_zero]; rfl) (yields_run (by rfl) ?_) ?_; rotate_left; (focus (intro w' _; go_simp <;> with_reducible rfl)); (simp only [Act.put, List.setIfInBounds_toArray, List.set_cons_zero, List.set_cons_succ]))
      (refine plan_take (o := ?_) (by simp only [List.getElem?_toArray, List.getElem?_cons_succ, List.getElem?_cons_zero]; rfl) (yieldsIf_load_mid (by rfl) 26 (.tmp 19) rfl b (o + k * 32) rfl (bc d) _ (fun _ (h : _ ∧ _) => h.1) Tryd.underlying26 rfl HSZ.out) ?_; (simp only [Act.put, List.setIfInBounds_toArray, List.set_cons_zero, List.set_cons_succ]))
      (refine plan_take (o := ?_) (by simp only [List.getElem?_toArray, List.getElem?_cons_succ, List.getElem?_cons_zero]; rfl) (yieldsIf_load_mid (by rfl) 26 (.tmp 23) rfl b' (o' + k * 32) rfl (bc d) _ (fun _ (h : _ ∧ _) => h.2) Tryd.underlying26 rfl HSZ.out) ?_; (simp only [Act.put, List.setIfInBounds_toArray, List.set_cons_zero, List.set_cons_succ]))
      (refine plan_take (o := ?_) (by simp only [List.getElem?_toArray, List.getElem?_cons_succ, List.getElem?_cons_zero]; rfl) (yields_neq (by rfl) (.tmp 20) (.tmp 24) 26 rfl d d rfl rfl HLE.out HLE.out false (by simp)) ?_; (simp only [Act.put, List.setIfInBounds_toArray, List.set_cons_zero, List.set_cons_succ]))
      refine plan_done ?_
      go_wp2_with fail
      go_roundw
      case rel => exact ⟨k + 1, by omega, by go_num, hide HB.out.drew⟩
      case measure => simp [intOf]; omega
    · have hltI : ¬ (k : Int) < (m : Int) := by omega
      go_wp2_with fail
      go_ret
      exact ⟨rfl, HB.out⟩
end Go.Proofs.YthjfeodclphgaaaDoor
