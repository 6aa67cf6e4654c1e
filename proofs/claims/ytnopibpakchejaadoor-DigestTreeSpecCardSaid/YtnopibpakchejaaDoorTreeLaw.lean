/- DigestTreeSpec. -/
import Derived.Test.YtnopibpakchejaaDoorTreeBoth
import Derived.Test.YtnopibpakchejaaDoorRSame
import Derived.Test.YtnopibpakchejaaDoorAppD
namespace Go.Proofs.YtnopibpakchejaaDoor
open Go.RowKit

/-- What the law knows: the digest's block, the list, what is new. -/
structure TB (w : World) (d : List UInt8) (A : Option Addr) (N c : Nat) (L : List (List UInt8)) (W : World) : Prop where
  blk : Blk W w.heap.size 26 (bc d)
  bel : Below w.heap.size w W
  src : DSrc W A N c L
  tab : Tab W
theorem TB.below {w W W' : World} {d : List UInt8} {A : Option Addr} {N c : Nat} {L : List (List UInt8)} (h : TB w d A N c L W) (hb : Below W.heap.size W W') : TB w d A N c L W' :=
  ⟨h.blk.below hb h.blk.lt, below_one h.bel hb, h.src.below hb, h.tab.below hb⟩


/-- A list of digests of the call's own: no block, or the block's beginning. -/
theorem own_form26 {w : World} {base n : Nat} {v : Value} {L : List (List UInt8)} (h : w.ownsRow base 26 32 v n (bc L.flatten)) (hD : D32 L) (hn : n = L.length) : ∃ A c, v = .slice A n c ∧ DSrc w A n c L := own_dsrc h hD hn

set_option maxRecDepth 10000 in
set_option maxHeartbeats 4000000 in
theorem treeLaw_walk (a : Option Addr) (n cap : Nat) (l : List UInt8) (k m : Int) (d : List UInt8) (w : World) (hT : Tab w) (hS : Src w a n cap l) (hn : n ≤ 9223372036854775807) (hd : d.length = 32) :
    Calls Tryd.prog 4 #[.slice a n cap, .int .i64 k, .int .i64 m, dv d] w (LawPost w) := by
  have HT := hide hT
  have HD := hide hd
  have HSA := hide (fun (W : World) (hW : Below w.heap.size w W) => sane_any W (hT.below hW))
  have HDG := hide (fun (W : World) (hW : Below w.heap.size w W) => digestsOf_any a n cap l W (hS.sb.below hW) hS.len hn)
  have HDL := hide (And.intro (digsOf_len l) (digsOf_d32 l))
  have hk24 := digsOf_len l
  clear hT hS
  generalize digsOf l = L at *
  obtain ⟨N, hN⟩ : ∃ N, L.length = N := ⟨_, rfl⟩
  have HN := hide hN
  rw [hN] at hk24
  clear hN hd
  go_enter Tryd.func4, Tryd.ntmps4
  go_wp2_with fail
  with_reducible refine (HSA.out _ (below_new w _)).mono ?_
  rintro e w1 ⟨rfl, hb⟩
  have HB1 : Hid (Blk w1 w.heap.size 26 (bc d) ∧ Below w.heap.size w w1) := hide ⟨(Blk.new w 26 (bc d)).below hb (Blk.new w 26 (bc d)).lt, below_one (below_new w _) hb⟩
  clear hb
  go_wp2_with fail
  with_reducible refine (HDG.out _ HB1.out.2).mono ?_
  rintro e w2 ⟨v, rfl, hown, hb⟩
  obtain ⟨A, c, rfl, hD⟩ := own_dsrc hown HDL.out.2 rfl
  rw [HN.out]
  rw [HN.out] at hD
  have HTB2 : Hid (TB w d A N c L w2) := hide ⟨HB1.out.1.below hb HB1.out.1.lt, below_one HB1.out.2 hb, hD, HT.out.below (below_one HB1.out.2 hb)⟩
  clear hown hb hD HB1 HSA HDG
  go_wp2_with fail
  with_reducible refine (tree_any L N c A w2 HTB2.out.tab HDL.out.2 HTB2.out.src.ds HN.out.symm (by omega) HTB2.out.src.le HTB2.out.src.top).mono ?_
  rintro e w3 ⟨rfl, hb⟩
  have HTB3 := hide (HTB2.out.below hb)
  clear hb HTB2
  go_wp2_with fail
  with_reducible refine (rtree_any L N c A w3 HDL.out.2 HTB3.out.src.ds HN.out.symm (by omega) HTB3.out.src.le HTB3.out.src.top).mono ?_
  rintro e w4 ⟨rfl, hb⟩
  have HTB4 := hide (HTB3.out.below hb)
  clear hb HTB3
  have HLE := hide (treeL_len L)
  generalize treeL L = X at *
  go_wp2_with (refine wpList_neqD (by rfl) (.tmp 29) (.tmp 31) 26 rfl X rfl rfl HLE.out ?_)

  have HJ0 := hide (Below.refl (w4.alloc (.cells #[.int .i64 k, .int .i64 (bits .and .i64 k 15)] 3)).heap.size (w4.alloc (.cells #[.int .i64 k, .int .i64 (bits .and .i64 k 15)] 3)))
  have HPC := hide (show ∀ j, j < 2 → ∃ i : Int, (w4.alloc (.cells #[.int .i64 k, .int .i64 (bits .and .i64 k 15)] 3)).cell? ⟨w4.heap.size, j, none⟩ = some (.int .i64 i) by
    intro j hj
    have hX : Blk (w4.alloc (.cells #[.int .i64 k, .int .i64 (bits .and .i64 k 15)] 3)) w4.heap.size 3 [.int .i64 k, .int .i64 (bits .and .i64 k 15)] := Blk.new w4 3 _
    rcases j with _ | _ | j
    · exact ⟨_, hX.cell 0⟩
    · exact ⟨_, hX.cell 1⟩
    · omega)
  have HTB := hide (show TB w d A N c L (w4.alloc (.cells #[.int .i64 k, .int .i64 (bits .and .i64 k 15)] 3)) from HTB4.out.below (below_new _ _))
  generalize w4.alloc (.cells #[.int .i64 k, .int .i64 (bits .and .i64 k 15)] 3) = W0 at *
  clear HTB4 HLE
  go_loopw [38] (fun i wr => ∃ j : Nat, j ≤ 2 ∧ i = .int .i64 j ∧ Hid (Below W0.heap.size W0 wr)) (fun i _ => 2 - (intOf i).toNat)
  case atStart => exact ⟨0, by omega, rfl, HJ0⟩
  case round =>
    clear HJ0
    obtain ⟨j, hj, rfl, HJ⟩ := hrel
    by_cases hlt : j < 2
    · obtain ⟨i, hcell⟩ := HPC.out j hlt
      have hltI : (j : Int) < 2 := by omega
      have hce := (World.cell?_of_block (a := ⟨_, j, none⟩) (HJ.out.block _ (cell_lt hcell))).trans hcell
      clear hcell
      have HTA := hide (HTB.out.below HJ.out)
      obtain ⟨p, r, hpD, hpl, hp⟩ := path_both L N c i A wr HTA.out.tab HDL.out.2 HTA.out.src.ds HN.out.symm (by omega) HTA.out.src.le HTA.out.src.top
      have HP := hide hp
      have HPD := hide (And.intro hpD hpl)
      clear hp hpD hpl
      have hr0 : (r != r) = false := by simp
      go_wp2_with fail
      clear hce
      with_reducible refine (HP.out wr (Below.refl _ _)).1.mono ?_
      rintro e w5 ⟨v, rfl, hown, hb⟩
      obtain ⟨A2, c2, rfl, hD⟩ := own_dsrc hown HPD.out.1 rfl
      have HB5 := hide hb
      have HQ5 := hide hD
      clear hown hb hD
      go_wp2_with fail
      with_reducible refine (HP.out w5 HB5.out).2.mono ?_
      rintro e w6 ⟨v, rfl, hown, hb⟩
      obtain ⟨A3, c3, rfl, hD⟩ := own_form26 hown HPD.out.1 rfl
      have HB6 := hide (below_one HB5.out hb)
      have HQ6 := hide (HQ5.out.below hb)
      have HR6 := hide hD
      clear hown hb hD HB5 HQ5
      go_wp2_with fail
      with_reducible refine (rsame_any p p.length c2 c3 A2 A3 w6 HPD.out.1 HQ6.out.ds HR6.out.ds rfl (by have := HPD.out.2; omega)).mono ?_
      rintro e w7 ⟨rfl, hb⟩
      have HB7 := hide (below_one HB6.out hb)
      have HR7 := hide (HR6.out.below hb)
      have HTB7 := hide (HTA.out.below HB7.out)
      have HBA := hide (below_one HJ.out HB7.out)
      clear hb HB6 HQ6 HR6 HTA HB7
      go_wp2_with fail
      have HJ0 := hide (Below.refl (w7.alloc (.cells #[.int .i64 m, .int .i64 (N : Nat)] 3)).heap.size (w7.alloc (.cells #[.int .i64 m, .int .i64 (N : Nat)] 3)))
      have HPC2 := hide (show ∀ j, j < 2 → ∃ i : Int, (w7.alloc (.cells #[.int .i64 m, .int .i64 (N : Nat)] 3)).cell? ⟨w7.heap.size, j, none⟩ = some (.int .i64 i) by
        intro j hj
        have hX : Blk (w7.alloc (.cells #[.int .i64 m, .int .i64 (N : Nat)] 3)) w7.heap.size 3 [.int .i64 m, .int .i64 (N : Nat)] := Blk.new w7 3 _
        rcases j with _ | _ | j
        · exact ⟨_, hX.cell 0⟩
        · exact ⟨_, hX.cell 1⟩
        · omega)
      have HTB8 := hide (show TB w d A N c L (w7.alloc (.cells #[.int .i64 m, .int .i64 (N : Nat)] 3)) from HTB7.out.below (below_new _ _))
      have HR8 := hide (show DSrc (w7.alloc (.cells #[.int .i64 m, .int .i64 (N : Nat)] 3)) A3 p.length c3 p from HR7.out.below (below_new _ _))
      have HBA8 := hide (show Below W0.heap.size W0 (w7.alloc (.cells #[.int .i64 m, .int .i64 (N : Nat)] 3)) from below_one HBA.out (below_new _ _))
      generalize w7.alloc (.cells #[.int .i64 m, .int .i64 (N : Nat)] 3) = W1 at *
      clear HTB7 HR7 HBA hr0 HJ HPC
      go_loopw [68] (fun i wr => ∃ j : Nat, j ≤ 2 ∧ i = .int .i64 j ∧ Hid (Below W1.heap.size W1 wr)) (fun i _ => 2 - (intOf i).toNat)
      case atStart => exact ⟨0, by omega, rfl, HJ0⟩
      case round =>
        clear HJ0
        obtain ⟨j2, hj2, rfl, HJ⟩ := hrel
        by_cases hlt2 : j2 < 2
        · obtain ⟨mi, hcell⟩ := HPC2.out j2 hlt2
          have hlt2I : (j2 : Int) < 2 := by omega
          have hce := (World.cell?_of_block (a := ⟨_, j2, none⟩) (HJ.out.block _ (cell_lt hcell))).trans hcell
          clear hcell
          have HTC := hide (HTB8.out.below HJ.out)
          have HRC := hide (HR8.out.below HJ.out)
          go_wp2_with fail
          clear hce
          have HS0 : Hid (Hid (Below wr.heap.size wr wr.drew)) := hide (hide (Below.refl _ _).drew)
          have HPN := hide (show p.length ≤ 1000 from HPD.out.2)
          have HPH := hide (show p.length / 2 ≤ c3 by have := HRC.out.le; omega)
          have HDS := hide (show (Tryd.prog.info? 26).map (·.size) = some (bc d).length by rw [bc_len, HD.out]; exact Tryd.size26)
          have hwr : IntKind.i64.wrap ((p.length : Int) / 2) = (p.length : Int) / 2 := IntWalk.i64_in _ (by have := HPN.out; omega)
          have hd32 : (bc d).length = 32 := by rw [bc_len, HD.out]
          refine wp_cutD (fun ac W => ∃ (A6 : Option Addr) (c6 Z : Nat) (x73 x75 x77 : Value), ac = ⟨#[Value.slice a n cap, Value.int IntKind.i64 k, Value.int IntKind.i64 m, dv d, undef, undef, undef, Value.pointer (some { block := w.heap.size, off := 0 }), u8, Value.slice A N c, undef, Value.int IntKind.i64 i, Value.slice A2 p.length c2, Value.int IntKind.i64 r, Value.slice A3 p.length c3, Value.int IntKind.i64 r, undef, Value.int IntKind.i64 mi, undef, u19, u20, u21, u22, u23, Value.bool true, Value.bool false, Value.slice a n cap, Value.slice A N c, Value.slice A N c, dv X, Value.slice A N c, dv X, Value.bool false, Value.int IntKind.i64 k, Value.int IntKind.i64 k, Value.int IntKind.i64 (bits BinOp.and IntKind.i64 k 15), Value.slice (some { block := w4.heap.size, off := 0 }) 2 2, Value.int IntKind.i64 2, Value.int IntKind.i64 (j : Int), Value.bool true, Value.pointer (some { block := w4.heap.size, off := j }), Value.int IntKind.i64 i, Value.tuple #[Value.slice A2 p.length c2, Value.int IntKind.i64 r], Value.slice A N c, Value.int IntKind.i64 i, Value.tuple #[Value.slice A2 p.length c2, Value.int IntKind.i64 r], Value.slice A2 p.length c2, Value.int IntKind.i64 r, Value.tuple #[Value.slice A3 p.length c3, Value.int IntKind.i64 r], Value.slice A N c, Value.int IntKind.i64 i, Value.tuple #[Value.slice A3 p.length c3, Value.int IntKind.i64 r], Value.slice A3 p.length c3, Value.int IntKind.i64 r, Value.slice A2 p.length c2, Value.slice A3 p.length c3, Value.bool true, Value.bool false, Value.bool false, Value.int IntKind.i64 r, Value.int IntKind.i64 r, Value.bool false, Value.bool false, Value.int IntKind.i64 m, Value.slice A N c, Value.int IntKind.i64 (N : Int), Value.slice (some { block := w7.heap.size, off := 0 }) 2 2, Value.int IntKind.i64 2, Value.int IntKind.i64 (j2 : Int), Value.bool true, Value.pointer (some { block := w7.heap.size, off := j2 }), Value.int IntKind.i64 mi, Value.slice A3 p.length c3, x73, Value.slice A3 p.length c3, x75, Value.agg (bc d).toArray, x77, Value.slice A6 (p.length + 1) c6, Value.slice A3 p.length c3, Value.slice A3 p.length c3, Value.int IntKind.i64 (p.length : Int), Value.int IntKind.i64 ((p.length : Int) / 2), Value.slice A3 (p.length / 2) c3, Value.slice (some { block := Z, off := 0 }) 3 3, Value.int IntKind.i64 3, Value.int IntKind.i64 0, u87, u88, u89, u90, u91, u92, u93, u94, u95, u96, u97, u98, u99, u100, u101, u102, u103, u104, u105, u106, u107, u108, u109, u110, u111, u112, u113, u114, u115, u116], []⟩ ∧ Hid (Below wr.heap.size wr W ∧ DSrc W A6 (p.length + 1) c6 (p ++ [d]) ∧ Blk W Z 30 [.slice A3 p.length c3, .slice A6 (p.length + 1) c6, .slice A3 (p.length / 2) c3])) ?_ ?_
          refine name_code ?_
          intro W2 HW2
          obtain rfl : W2 = wr := HW2.out
          refine wp_region_plan (fun W => Hid (Below W2.heap.size W2 W)) (.take 0 (.take 2 (.take 4 (.take 7 (.take 8 (.take 9 (.take 10 (.take 11 (.take 14 (.both 1 (.both 3 (.run 5 (.run 6 (.run 12 (.take 13 .done)))) 5 (.run 3 (.run 6 (.run 12 (.take 13 .done))))) 5 (.run 1 (.run 3 (.run 6 (.run 12 (.take 13 .done))))))))))))))) (by kernel_rfl) (by kernel_rfl) HS0.out ?_
          (refine plan_take (o := ?_) (v := ?_) (by simp only [List.getElem?_toArray, List.getElem?_cons_zero]; rfl) (yields_run (by rfl) ?_) ?_; rotate_left; (focus (intro w' _; go_simp <;> with_reducible rfl)); (simp only [Act.put, List.setIfInBounds_toArray, List.set_cons_zero, List.set_cons_succ]))
          (refine plan_take (o := ?_) (v := ?_) (by simp only [List.getElem?_toArray, List.getElem?_cons_succ, List.getElem?_cons_zero]; rfl) (yields_run (by rfl) ?_) ?_; rotate_left; (focus (intro w' _; go_simp <;> with_reducible rfl)); (simp only [Act.put, List.setIfInBounds_toArray, List.set_cons_zero, List.set_cons_succ]))
          (refine plan_take (o := ?_) (by simp only [List.getElem?_toArray, List.getElem?_cons_succ, List.getElem?_cons_zero]; rfl) (yieldsIf_load_mid (by rfl) 26 (.tmp 7) rfl w.heap.size 0 rfl (bc d) _ (fun _ (h : Hid _) => bs_range (HTC.out.below h.out).blk.bs) Tryd.underlying26 rfl HDS.out) ?_; (simp only [Act.put, List.setIfInBounds_toArray, List.set_cons_zero, List.set_cons_succ]))
          (refine plan_take (o := ?_) (v := ?_) (by simp only [List.getElem?_toArray, List.getElem?_cons_succ, List.getElem?_cons_zero]; rfl) (yields_run (by rfl) ?_) ?_; rotate_left; (focus (intro w' _; go_simp <;> with_reducible rfl)); (simp only [Act.put, List.setIfInBounds_toArray, List.set_cons_zero, List.set_cons_succ]))
          (refine plan_take (o := ?_) (v := ?_) (by simp only [List.getElem?_toArray, List.getElem?_cons_succ, List.getElem?_cons_zero]; rfl) (yields_run (by rfl) ?_) ?_; rotate_left; (focus (intro w' _; go_simp <;> with_reducible rfl)); (simp only [Act.put, List.setIfInBounds_toArray, List.set_cons_zero, List.set_cons_succ]))
          (refine plan_take (o := ?_) (v := ?_) (by simp only [List.getElem?_toArray, List.getElem?_cons_succ, List.getElem?_cons_zero]; rfl) (yields_run (by rfl) ?_) ?_; rotate_left; (focus (intro w' _; go_simp <;> with_reducible rfl)); (simp only [Act.put, List.setIfInBounds_toArray, List.set_cons_zero, List.set_cons_succ]))
          (refine plan_take (o := ?_) (v := ?_) (by simp only [List.getElem?_toArray, List.getElem?_cons_succ, List.getElem?_cons_zero]; rfl) (yields_run (by rfl) ?_) ?_; rotate_left; (focus (intro w' _; go_simp <;> with_reducible rfl)); (simp only [Act.put, List.setIfInBounds_toArray, List.set_cons_zero, List.set_cons_succ]))
          (refine plan_take (o := ?_) (by simp only [List.getElem?_toArray, List.getElem?_cons_succ, List.getElem?_cons_zero]; rfl) (yields_upto (by rfl) (.tmp 79) (.tmp 82) rfl A3 p.length c3 _ (p.length / 2) rfl rfl (by go_num) HPH.out (fun h => HRC.out.nil h)) ?_; (simp only [Act.put, List.setIfInBounds_toArray, List.set_cons_zero, List.set_cons_succ]))
          (refine plan_take (o := ?_) (v := ?_) (by simp only [List.getElem?_toArray, List.getElem?_cons_succ, List.getElem?_cons_zero]; rfl) (yields_run (by rfl) ?_) ?_; rotate_left; (focus (intro w' _; go_simp <;> with_reducible rfl)); (simp only [Act.put, List.setIfInBounds_toArray, List.set_cons_zero, List.set_cons_succ]))
          refine plan_both (o1 := ?_) (o2 := ?_) (by simp only [List.getElem?_toArray, List.getElem?_cons_succ, List.getElem?_cons_zero]; rfl) (by simp only [List.getElem?_toArray, List.getElem?_cons_succ, List.getElem?_cons_zero]; rfl) ?_ ?_
          · intro R HR
            go_wp2_with fail
            have HSX := hide (hide (show Below W2.heap.size W2 (W2.alloc (.cells #[] 26)).drew from (below_new _ _).drew))
            have hown := (own_empty W2 W2.heap.size 26 26 32 rfl (Nat.le_refl _)).drew
            have HRP := hide (HRC.out.below HSX.out.out)
            refine HR.out _ _ HSX.out ?_
            clear HR
            have HG1 := hide (show W2.heap.size < (W2.alloc (.cells #[] 26)).drew.heap.size from by simp [World.drew])
            generalize (W2.alloc (.cells #[] 26)).drew = WA at *
            refine plan_both (o1 := ?_) (o2 := ?_) (by simp only [List.getElem?_toArray, List.getElem?_cons_succ, List.getElem?_cons_zero]; rfl) (by simp only [List.getElem?_toArray, List.getElem?_cons_succ, List.getElem?_cons_zero]; rfl) ?_ ?_
            · intro R HR
              refine wpList_of_wp (by rfl) (wp_app26 (.tmp 73) (.tmp 74) rfl W2.heap.size _ 0 [] rfl hown A3 p.length c3 p rfl HRP.out (by have := HPN.out; omega) HSX.out.out.size p.length p (by omega) rfl ?_)
              intro v3 wB hB hg
              have HSB := hide (hide (HSX.out.out.grown hg HSX.out.out.size (fun k hk => (hown.lt k hk).1)))
              clear hg hown HSX
              refine HR.out _ _ HSB.out ?_
              clear HR
              (simp only [Act.put, List.setIfInBounds_toArray, List.set_cons_zero, List.set_cons_succ])
              refine plan_run (o := ?_) (by simp only [List.getElem?_toArray, List.getElem?_cons_succ, List.getElem?_cons_zero]; rfl) ?_
              intro R HR
              go_wp2_with fail
              rw [fold_dv d HD.out]
              have HSX := hide (hide (show Below W2.heap.size W2 (wB.alloc (.cells (bc d).toArray 26)) from below_one HSB.out.out (below_new _ _)))
              have hown := hB.alloc (.cells (bc d).toArray 26)
              have hD1 := DSrc.one_of (Blk.new wB 26 (bc d)) HD.out
              clear hB HSB
              refine HR.out _ _ HSX.out ?_
              clear HR
              refine plan_run (o := ?_) (by simp only [List.getElem?_toArray, List.getElem?_cons_succ, List.getElem?_cons_zero]; rfl) ?_
              intro R HR
              refine wpList_of_wp (by rfl) (wp_app26 (.tmp 75) (.tmp 77) rfl W2.heap.size v3 p.length p rfl hown (some ⟨wB.heap.size, 0, none⟩) 1 1 [d] rfl hD1 (by have := HPN.out; omega) HSX.out.out.size (p.length + 1) (p ++ [d]) rfl rfl ?_)
              intro v6 wD hD6 hg
              have HSD := hide (hide (HSX.out.out.grown hg HSX.out.out.size (fun k hk => (hown.lt k hk).1)))
              obtain ⟨A6, c6, rfl, hQ⟩ := own_dsrc hD6 (HPD.out.1.append (D32.one HD.out)) (by simp)
              clear hg hown hD1 hD6 HSX HRP
              refine HR.out _ _ HSD.out ?_
              clear HR
              (simp only [Act.put, List.setIfInBounds_toArray, List.set_cons_zero, List.set_cons_succ])
              refine plan_run (o := ?_) (by simp only [List.getElem?_toArray, List.getElem?_cons_succ, List.getElem?_cons_zero]; rfl) ?_
              intro R HR
              go_wp2_with fail
              have HSE := hide (hide (show Below W2.heap.size W2 (wD.alloc (.cells #[.slice A3 p.length c3, .slice A6 (p.length + 1) c6, .slice A3 (p.length / 2) c3] 30)) from below_one HSD.out.out (below_new _ _)))
              have HQE := hide (show DSrc (wD.alloc (.cells #[.slice A3 p.length c3, .slice A6 (p.length + 1) c6, .slice A3 (p.length / 2) c3] 30)) A6 (p.length + 1) c6 (p ++ [d]) from hQ.below (below_new _ _))
              have HZE := hide (show Blk (wD.alloc (.cells #[.slice A3 p.length c3, .slice A6 (p.length + 1) c6, .slice A3 (p.length / 2) c3] 30)) wD.heap.size 30 [.slice A3 p.length c3, .slice A6 (p.length + 1) c6, .slice A3 (p.length / 2) c3] from Blk.new wD 30 _)
              refine HR.out _ _ HSE.out ?_
              clear HR
              (refine plan_take (o := ?_) (v := ?_) (by simp only [List.getElem?_toArray, List.getElem?_cons_succ, List.getElem?_cons_zero]; rfl) (yields_run (by rfl) ?_) ?_; rotate_left; (focus (intro w' _; go_simp <;> with_reducible rfl)); (simp only [Act.put, List.setIfInBounds_toArray, List.set_cons_zero, List.set_cons_succ]))
              refine plan_done ?_
              exact ⟨A6, c6, wD.heap.size, _, _, _, rfl, hide ⟨HSE.out.out, HQE.out, HZE.out⟩⟩
            · intro R HR
              go_wp2_with fail
              rw [fold_dv d HD.out]
              have HSY := hide (hide (show Below W2.heap.size W2 (WA.alloc (.cells (bc d).toArray 26)) from below_one HSX.out.out (below_new _ _)))
              have hown1 := hown.alloc (.cells (bc d).toArray 26)
              have HRQ := hide (HRC.out.below HSY.out.out)
              have hBk := Blk.new WA 26 (bc d)
              clear hown HSX HRP
              have hown := hown1
              have HSX := HSY
              have HRP := HRQ
              clear hown1 HSY HRQ
              refine HR.out _ _ HSX.out ?_
              clear HR
              generalize WA.alloc (.cells (bc d).toArray 26) = WB at *
              refine plan_run (o := ?_) (by simp only [List.getElem?_toArray, List.getElem?_cons_succ, List.getElem?_cons_zero]; rfl) ?_
              intro R HR
              refine wpList_of_wp (by rfl) (wp_app26 (.tmp 73) (.tmp 74) rfl W2.heap.size _ 0 [] rfl hown A3 p.length c3 p rfl HRP.out (by have := HPN.out; omega) HSX.out.out.size p.length p (by omega) rfl ?_)
              intro v3 wB hB hg
              have HSB := hide (hide (HSX.out.out.grown hg HSX.out.out.size (fun k hk => (hown.lt k hk).1)))
              have hD1 := DSrc.one_of (show Blk wB WA.heap.size 26 (bc d) from (hg.block _ hBk.lt (fun e => by have := HG1.out; have e2 : WA.heap.size = W2.heap.size := Option.some.inj e; omega)).trans hBk) HD.out
              clear hg hown HSX
              have hown := hB
              have HSX := HSB
              clear hB HSB hBk
              refine HR.out _ _ HSX.out ?_
              clear HR
              (simp only [Act.put, List.setIfInBounds_toArray, List.set_cons_zero, List.set_cons_succ])
              refine plan_run (o := ?_) (by simp only [List.getElem?_toArray, List.getElem?_cons_succ, List.getElem?_cons_zero]; rfl) ?_
              intro R HR
              refine wpList_of_wp (by rfl) (wp_app26 (.tmp 75) (.tmp 77) rfl W2.heap.size v3 p.length p rfl hown (some ⟨WA.heap.size, 0, none⟩) 1 1 [d] rfl hD1 (by have := HPN.out; omega) HSX.out.out.size (p.length + 1) (p ++ [d]) rfl rfl ?_)
              intro v6 wD hD6 hg
              have HSD := hide (hide (HSX.out.out.grown hg HSX.out.out.size (fun k hk => (hown.lt k hk).1)))
              obtain ⟨A6, c6, rfl, hQ⟩ := own_dsrc hD6 (HPD.out.1.append (D32.one HD.out)) (by simp)
              clear hg hown hD1 hD6 HSX HRP
              refine HR.out _ _ HSD.out ?_
              clear HR
              (simp only [Act.put, List.setIfInBounds_toArray, List.set_cons_zero, List.set_cons_succ])
              refine plan_run (o := ?_) (by simp only [List.getElem?_toArray, List.getElem?_cons_succ, List.getElem?_cons_zero]; rfl) ?_
              intro R HR
              go_wp2_with fail
              have HSE := hide (hide (show Below W2.heap.size W2 (wD.alloc (.cells #[.slice A3 p.length c3, .slice A6 (p.length + 1) c6, .slice A3 (p.length / 2) c3] 30)) from below_one HSD.out.out (below_new _ _)))
              have HQE := hide (show DSrc (wD.alloc (.cells #[.slice A3 p.length c3, .slice A6 (p.length + 1) c6, .slice A3 (p.length / 2) c3] 30)) A6 (p.length + 1) c6 (p ++ [d]) from hQ.below (below_new _ _))
              have HZE := hide (show Blk (wD.alloc (.cells #[.slice A3 p.length c3, .slice A6 (p.length + 1) c6, .slice A3 (p.length / 2) c3] 30)) wD.heap.size 30 [.slice A3 p.length c3, .slice A6 (p.length + 1) c6, .slice A3 (p.length / 2) c3] from Blk.new wD 30 _)
              refine HR.out _ _ HSE.out ?_
              clear HR
              (refine plan_take (o := ?_) (v := ?_) (by simp only [List.getElem?_toArray, List.getElem?_cons_succ, List.getElem?_cons_zero]; rfl) (yields_run (by rfl) ?_) ?_; rotate_left; (focus (intro w' _; go_simp <;> with_reducible rfl)); (simp only [Act.put, List.setIfInBounds_toArray, List.set_cons_zero, List.set_cons_succ]))
              refine plan_done ?_
              exact ⟨A6, c6, wD.heap.size, _, _, _, rfl, hide ⟨HSE.out.out, HQE.out, HZE.out⟩⟩
          · intro R HR
            go_wp2_with fail
            rw [fold_dv d HD.out]
            have HSA := hide (hide (show Below W2.heap.size W2 (W2.alloc (.cells (bc d).toArray 26)).drew from (below_new _ _).drew))
            have hBk := (Blk.new W2 26 (bc d)).drew
            refine HR.out _ _ HSA.out ?_
            clear HR
            generalize (W2.alloc (.cells (bc d).toArray 26)).drew = WA at *
            refine plan_run (o := ?_) (by simp only [List.getElem?_toArray, List.getElem?_cons_succ, List.getElem?_cons_zero]; rfl) ?_
            intro R HR
            go_wp2_with fail
            have HSX := hide (hide (show Below W2.heap.size W2 (WA.alloc (.cells #[] 26)) from below_one HSA.out.out (below_new _ _)))
            have hown := (own_empty WA W2.heap.size 26 26 32 rfl HSA.out.out.size)
            have HRP := hide (HRC.out.below HSX.out.out)
            have HG1 := hide hBk.lt
            have hBk2 := hBk.alloc (.cells #[] 26)
            clear hBk HSA
            refine HR.out _ _ HSX.out ?_
            clear HR
            generalize WA.alloc (.cells #[] 26) = WB at *
            refine plan_run (o := ?_) (by simp only [List.getElem?_toArray, List.getElem?_cons_succ, List.getElem?_cons_zero]; rfl) ?_
            intro R HR
            refine wpList_of_wp (by rfl) (wp_app26 (.tmp 73) (.tmp 74) rfl W2.heap.size _ 0 [] rfl hown A3 p.length c3 p rfl HRP.out (by have := HPN.out; omega) HSX.out.out.size p.length p (by omega) rfl ?_)
            intro v3 wB hB hg
            have HSB := hide (hide (HSX.out.out.grown hg HSX.out.out.size (fun k hk => (hown.lt k hk).1)))
            have hD1 := DSrc.one_of (show Blk wB W2.heap.size 26 (bc d) from (hg.block _ hBk2.lt (fun e => by have := HG1.out; have e2 : W2.heap.size = WA.heap.size := Option.some.inj e; omega)).trans hBk2) HD.out
            clear hg hown HSX
            have hown := hB
            have HSX := HSB
            clear hB HSB hBk2
            refine HR.out _ _ HSX.out ?_
            clear HR
            (simp only [Act.put, List.setIfInBounds_toArray, List.set_cons_zero, List.set_cons_succ])
            refine plan_run (o := ?_) (by simp only [List.getElem?_toArray, List.getElem?_cons_succ, List.getElem?_cons_zero]; rfl) ?_
            intro R HR
            refine wpList_of_wp (by rfl) (wp_app26 (.tmp 75) (.tmp 77) rfl W2.heap.size v3 p.length p rfl hown (some ⟨W2.heap.size, 0, none⟩) 1 1 [d] rfl hD1 (by have := HPN.out; omega) HSX.out.out.size (p.length + 1) (p ++ [d]) rfl rfl ?_)
            intro v6 wD hD6 hg
            have HSD := hide (hide (HSX.out.out.grown hg HSX.out.out.size (fun k hk => (hown.lt k hk).1)))
            obtain ⟨A6, c6, rfl, hQ⟩ := own_dsrc hD6 (HPD.out.1.append (D32.one HD.out)) (by simp)
            clear hg hown hD1 hD6 HSX HRP
            refine HR.out _ _ HSD.out ?_
            clear HR
            (simp only [Act.put, List.setIfInBounds_toArray, List.set_cons_zero, List.set_cons_succ])
            refine plan_run (o := ?_) (by simp only [List.getElem?_toArray, List.getElem?_cons_succ, List.getElem?_cons_zero]; rfl) ?_
            intro R HR
            go_wp2_with fail
            have HSE := hide (hide (show Below W2.heap.size W2 (wD.alloc (.cells #[.slice A3 p.length c3, .slice A6 (p.length + 1) c6, .slice A3 (p.length / 2) c3] 30)) from below_one HSD.out.out (below_new _ _)))
            have HQE := hide (show DSrc (wD.alloc (.cells #[.slice A3 p.length c3, .slice A6 (p.length + 1) c6, .slice A3 (p.length / 2) c3] 30)) A6 (p.length + 1) c6 (p ++ [d]) from hQ.below (below_new _ _))
            have HZE := hide (show Blk (wD.alloc (.cells #[.slice A3 p.length c3, .slice A6 (p.length + 1) c6, .slice A3 (p.length / 2) c3] 30)) wD.heap.size 30 [.slice A3 p.length c3, .slice A6 (p.length + 1) c6, .slice A3 (p.length / 2) c3] from Blk.new wD 30 _)
            refine HR.out _ _ HSE.out ?_
            clear HR
            (refine plan_take (o := ?_) (v := ?_) (by simp only [List.getElem?_toArray, List.getElem?_cons_succ, List.getElem?_cons_zero]; rfl) (yields_run (by rfl) ?_) ?_; rotate_left; (focus (intro w' _; go_simp <;> with_reducible rfl)); (simp only [Act.put, List.setIfInBounds_toArray, List.set_cons_zero, List.set_cons_succ]))
            refine plan_done ?_
            exact ⟨A6, c6, wD.heap.size, _, _, _, rfl, hide ⟨HSE.out.out, HQE.out, HZE.out⟩⟩
          rintro ac W ⟨A6, c6, Z, x73, x75, x77, rfl, HQ⟩
          have HTD := hide (HTC.out.below HQ.out.1)
          have HBW := hide (below_one HJ.out HQ.out.1)
          have HPC3 := hide (show ∀ j, j < 3 → ∃ A' m' c' p', W.cell? ⟨Z, j, none⟩ = some (.slice A' m' c') ∧ DSrc W A' m' c' p' by
            intro j hj
            have h0 := HRC.out.below HQ.out.1
            rcases j with _ | _ | _ | j
            · exact ⟨_, _, _, _, HQ.out.2.2.cell 0, h0⟩
            · exact ⟨_, _, _, _, HQ.out.2.2.cell 1, HQ.out.2.1⟩
            · exact ⟨_, _, _, _, HQ.out.2.2.cell 2, h0.take _ (Nat.div_le_self _ _)⟩
            · omega)
          have HJ3 := hide (Below.refl W.heap.size W)
          clear HQ HTC HRC HS0 HPH hwr hd32 HJ HPN
          go_wp2_with fail
          go_loopw [86] (fun i wr => ∃ j : Nat, j ≤ 3 ∧ i = .int .i64 j ∧ Hid (Below W.heap.size W wr)) (fun i _ => 3 - (intOf i).toNat)
          case atStart => exact ⟨0, by omega, rfl, HJ3⟩
          case round =>
            clear HJ3
            obtain ⟨j3, hj3, rfl, HJ⟩ := hrel
            by_cases hlt3 : j3 < 3
            · obtain ⟨A', m', c', p', hcell, hsrc⟩ := HPC3.out j3 hlt3
              have hlt3I : (j3 : Int) < 3 := by omega
              have hce := (World.cell?_of_block (a := ⟨_, j3, none⟩) (HJ.out.block _ (cell_lt hcell))).trans hcell
              have HSR := hide (hsrc.below HJ.out)
              have HTE := hide (HTD.out.below HJ.out)
              clear hcell hsrc
              obtain ⟨v, r2, hv, hcl⟩ := climb_both d p' m' c' i mi A' wr HD.out HSR.out.len HTE.out.tab HSR.out.d32 HSR.out.ds HSR.out.le HSR.out.top
              have HCL := hide hcl
              have HV := hide hv
              have HSZ := hide (dv_size v hv)
              have HZ := hide (show (Tryd.prog.info? 26).map (·.size) = some ((bc v).toArray).size by rw [dv_size v hv]; exact Tryd.size26)
              have HZL := hide (show (Tryd.prog.info? 26).map (·.size) = some (bc v).length by rw [bc_len, hv]; exact Tryd.size26)
              have HO := hide (all_oneCell_toArray (bc_one v))
              have hr2 : (r2 != r2) = false := by simp
              clear hcl hv
              go_wp2_with (refine wpList_load_mid rfl 26 (.tmp 7) rfl w.heap.size 0 rfl (bc d) _ (bs_range HTE.out.blk.bs) Tryd.underlying26 rfl HDS.out ?_)
              clear hce
              with_reducible refine (HCL.out wr (Below.refl _ _)).1.mono ?_
              rintro e wA ⟨rfl, hb⟩
              have HBA := hide hb
              have HWB : Hid (Blk ((wA.alloc (.cells (List.replicate 32 (.int .u8 0)).toArray 26)).setRow wA.heap.size (bc v).toArray) wA.heap.size 26 (bc v) ∧ Below wr.heap.size wr ((wA.alloc (.cells (List.replicate 32 (.int .u8 0)).toArray 26)).setRow wA.heap.size (bc v).toArray)) := by
                have h : Below wA.heap.size wA ((wA.alloc (.cells (List.replicate 32 (.int .u8 0)).toArray 26)).setRow wA.heap.size (bc v).toArray) := below_setRow (below_new wA _) (Nat.le_refl _) _
                exact hide ⟨(Blk.new wA 26 _).row _, below_one HBA.out h⟩
              have HTF := hide (HTE.out.below HWB.out.2)
              clear hb HBA
              go_wp2_with (first | (refine wpList_load_mid rfl 26 (.tmp 7) rfl w.heap.size 0 rfl (bc d) _ (bs_range HTF.out.blk.bs) Tryd.underlying26 rfl HDS.out ?_) | (refine wpList_store_row rfl 26 (.tmp 20) (.tmp 96) rfl wA.heap.size _ rfl rfl 26 _ (heap_alloc_new wA _) HZ.out (by rw [HSZ.out]; rfl) HO.out ?_))
              refine (HCL.out _ HWB.out.2).2.mono ?_
              rintro e wC ⟨rfl, hb⟩
              have HWD : Hid (Blk ((wC.alloc (.cells (List.replicate 32 (.int .u8 0)).toArray 26)).setRow wC.heap.size (bc v).toArray) wA.heap.size 26 (bc v) ∧ Blk ((wC.alloc (.cells (List.replicate 32 (.int .u8 0)).toArray 26)).setRow wC.heap.size (bc v).toArray) wC.heap.size 26 (bc v) ∧ Below wr.heap.size wr ((wC.alloc (.cells (List.replicate 32 (.int .u8 0)).toArray 26)).setRow wC.heap.size (bc v).toArray)) := by
                have h : Below wC.heap.size wC ((wC.alloc (.cells (List.replicate 32 (.int .u8 0)).toArray 26)).setRow wC.heap.size (bc v).toArray) := below_setRow (below_new wC _) (Nat.le_refl _) _
                have h1 := HWB.out.1.below hb HWB.out.1.lt
                exact hide ⟨h1.below h h1.lt, (Blk.new wC 26 _).row _, below_one (below_one HWB.out.2 hb) h⟩
              clear hb HWB HTF
              go_wp2_with (first | (refine wpList_store_row rfl 26 (.tmp 22) (.tmp 104) rfl wC.heap.size _ rfl rfl 26 _ (heap_alloc_new wC _) HZ.out (by rw [HSZ.out]; rfl) HO.out ?_) | (refine wpList_load_mid rfl 26 (.tmp 20) rfl wA.heap.size 0 rfl (bc v) _ (bs_range HWD.out.1.bs) Tryd.underlying26 rfl HZL.out ?_) | (refine wpList_load_mid rfl 26 (.tmp 22) rfl wC.heap.size 0 rfl (bc v) _ (bs_range HWD.out.2.1.bs) Tryd.underlying26 rfl HZL.out ?_) | (refine wpList_neqD (by rfl) (.tmp 106) (.tmp 107) 26 rfl v rfl rfl HV.out ?_))
              go_roundw
              case rel => exact ⟨j3 + 1, by omega, by go_num, hide (below_one HJ.out HWD.out.2.2)⟩
              case measure => simp [intOf]; omega
            · have hge : ¬ (j3 : Int) < 3 := by omega
              go_wp2_with fail
              go_roundw
              case rel => exact ⟨j2 + 1, by omega, by go_num, hide (below_one HBW.out HJ.out)⟩
              case measure => simp [intOf]; omega
        · have hge : ¬ (j2 : Int) < 2 := by omega
          go_wp2_with fail
          go_roundw
          case rel => exact ⟨j + 1, by omega, by go_num, hide (below_one HBA8.out HJ.out)⟩
          case measure => simp [intOf]; omega
    · have hge : ¬ (j : Int) < 2 := by omega
      go_wp2_with fail
      go_ret
      exact ⟨rfl, below_one HTB.out.bel HJ.out⟩

end Go.Proofs.YtnopibpakchejaaDoor
