/- DigestClimbs. -/
import Derived.Test.YtnopibpakchejaaDoorAppF
import Derived.Test.YtnopibpakchejaaDoorPlanT
namespace Go.Proofs.YtnopibpakchejaaDoor
open Go.RowKit
theorem plan3_named {P : Program} {ops : Array Oper} {Q : Exit → Act → World → Prop} {S : World → Prop} {p : Plan3} {a : Act} {w : World} (h : ∀ W, Hid (W = w) → wpPlan3 P ops Q S p a W) : wpPlan3 P ops Q S p a w := h w rfl
/-- What the law knows. -/
structure TC (w : World) (X4 : Nat) (T : List UInt8) (A : Option Addr) (N c : Nat) (L : List (List UInt8)) (W : World) : Prop where
  k4 : Blk W X4 26 (bc T)
  bel : Below w.heap.size w W
  src : DSrc W A N c L
  tab : Tab W
theorem TC.below {w W W' : World} {X4 : Nat} {T : List UInt8} {A : Option Addr} {N c : Nat} {L : List (List UInt8)} (h : TC w X4 T A N c L W) (hb : Below W.heap.size W W') : TC w X4 T A N c L W' :=
  ⟨h.k4.below hb h.k4.lt, below_one h.bel hb, h.src.below hb, h.tab.below hb⟩

set_option maxRecDepth 10000 in
set_option maxHeartbeats 4000000 in
theorem climbs_walk (a : Option Addr) (n cap : Nat) (l : List UInt8) (w : World) (hT : Tab w) (hS : Src w a n cap l) (hn : n ≤ 9223372036854775807) :
    Calls Tryd.prog 6 #[.slice a n cap] w (LawPost w) := by
  have HT := hide hT
  have HSA := hide (sane_any w hT)
  have HDG := hide (fun (W : World) (hW : Below w.heap.size w W) => digestsOf_any a n cap l W (hS.sb.below hW) hS.len hn)
  have HDL := hide (And.intro (digsOf_len l) (digsOf_d32 l))
  have hk24 := digsOf_len l
  clear hT hS
  generalize digsOf l = L at *
  obtain ⟨N, hN⟩ : ∃ N, L.length = N := ⟨_, rfl⟩
  have HN := hide hN
  rw [hN] at hk24
  clear hN
  go_enter Tryd.func6, Tryd.ntmps6
  go_wp2_with fail
  with_reducible refine HSA.out.mono ?_
  rintro e w1 ⟨rfl, hb⟩
  have HB1 := hide hb
  clear hb
  go_wp2_with fail
  with_reducible refine (HDG.out _ HB1.out).mono ?_
  rintro e w2 ⟨v, rfl, hown, hb⟩
  obtain ⟨A, c, rfl, hD⟩ := own_dsrc hown HDL.out.2 rfl
  rw [HN.out]
  rw [HN.out] at hD
  have HB2 := hide (below_one HB1.out hb)
  have HDS := hide hD
  clear hown hb hD HB1 HSA HDG
  go_wp2_with fail
  with_reducible refine (tree_any L N c A w2 (HT.out.below HB2.out) HDL.out.2 HDS.out.ds HN.out.symm (by omega) HDS.out.le HDS.out.top).mono ?_
  rintro e w3 ⟨rfl, hb⟩
  have HTL := hide (treeL_len L)
  have HZt := hide (show (Tryd.prog.info? 26).map (·.size) = some ((bc (treeL L)).toArray).size by rw [dv_size _ HTL.out]; exact Tryd.size26)
  have HSt := hide (show (Tryd.prog.info? 26).map (·.size) = some (bc (treeL L)).length by rw [bc_len, HTL.out]; exact Tryd.size26)
  have HLt := hide (dv_size _ HTL.out)
  have HTC0 : Hid (TC w w3.heap.size (treeL L) A N c L ((w3.alloc (.cells (List.replicate 32 (.int .u8 0)).toArray 26)).setRow w3.heap.size (bc (treeL L)).toArray)) := by
    have h : Below w3.heap.size w3 ((w3.alloc (.cells (List.replicate 32 (.int .u8 0)).toArray 26)).setRow w3.heap.size (bc (treeL L)).toArray) := below_setRow (below_new w3 _) (Nat.le_refl _) _
    have hb3 := below_one HB2.out (below_one hb h)
    exact hide ⟨(Blk.new w3 26 _).row _, hb3, (HDS.out.below hb).below h, HT.out.below hb3⟩
  clear hb HB2 HDS
  go_wp2_with (refine wpList_store_row rfl 26 (.tmp 4) (.tmp 18) rfl w3.heap.size _ rfl rfl 26 _ (heap_alloc_new w3 _) HZt.out (by rw [HLt.out]; rfl) (all_oneCell_toArray (bc_one _)) ?_)
  clear HZt HLt
  go_loopw [21] (fun i wr => ∃ k : Nat, k ≤ N ∧ i = .int .i64 k ∧ Hid (TC w w3.heap.size (treeL L) A N c L wr)) (fun i _ => N - (intOf i).toNat)
  case atStart => exact ⟨0, by omega, rfl, HTC0⟩
  case round =>
    clear HTC0
    obtain ⟨k, hk, rfl, HJ⟩ := hrel
    by_cases hlt : k < N
    · have hltI : (k : Int) < (N : Int) := by omega
      have hkL : k < L.length := by rw [HN.out]; exact hlt
      obtain ⟨b, o, rfl, _⟩ := HJ.out.src.ds.at HJ.out.src.d32 (by omega)
      have HRG := hide (HJ.out.src.one k hkL)
      have HDk := hide (HDL.out.2 _ (List.getElem_mem hkL))
      have HCP := hide (climb_path N L k hkL HN.out)
      have HPS := hide (path_steps N L k HN.out)
      have HPD := hide (path_d32 N L k HN.out)
      have HFW := hide (steps_few 5 N k (by omega))
      have HYES := hide (fun (W : World) (hW : Below wr.heap.size wr W) => Path_yes L N c k (some ⟨b, o, none⟩) W (HJ.out.tab.below hW) HDL.out.2 (HJ.out.src.below hW).ds HN.out.symm hlt (by omega) HJ.out.src.le HJ.out.src.top)
      generalize L[k] = d at *
      generalize pathL L k = p at *
      generalize treeL L = T at *
      have HSD := hide (show (Tryd.prog.info? 26).map (·.size) = some (bc d).length by rw [bc_len, HDk.out]; exact Tryd.size26)
      have HZd := hide (show (Tryd.prog.info? 26).map (·.size) = some ((bc d).toArray).size by rw [dv_size d HDk.out]; exact Tryd.size26)
      have HOd := hide (all_oneCell_toArray (bc_one d))
      have HLd := hide (dv_size d HDk.out)
      have HC7 : Hid (Blk ((wr.alloc (.cells (List.replicate 32 (.int .u8 0)).toArray 26)).setRow wr.heap.size (bc d).toArray) wr.heap.size 26 (bc d) ∧ Below wr.heap.size wr ((wr.alloc (.cells (List.replicate 32 (.int .u8 0)).toArray 26)).setRow wr.heap.size (bc d).toArray)) := by
        have h : Below wr.heap.size wr ((wr.alloc (.cells (List.replicate 32 (.int .u8 0)).toArray 26)).setRow wr.heap.size (bc d).toArray) := below_setRow (below_new wr _) (Nat.le_refl _) _
        exact hide ⟨(Blk.new wr 26 _).row _, h⟩
      clear hkL
      go_wp2_with (first | (refine wpList_load_mid rfl 26 (.tmp 24) rfl b (o + k * 32) rfl (bc d) _ HRG.out Tryd.underlying26 rfl HSD.out ?_) | (refine wpList_store_row rfl 26 (.tmp 6) (.tmp 25) rfl wr.heap.size _ rfl rfl 26 _ (heap_alloc_new wr _) HZd.out (by rw [HLd.out]; rfl) HOd.out ?_))
      refine (HYES.out _ HC7.out.2).mono ?_
      rintro e w4 ⟨v, rfl, hown, hb⟩
      obtain ⟨A2, c2, rfl, hD⟩ := own_dsrc hown HPD.out rfl
      have HC4 := hide (And.intro (HC7.out.1.below hb HC7.out.1.lt) (And.intro (below_one HC7.out.2 hb) hD))
      clear hown hb hD HC7 HYES HRG
      have HTD := hide (HJ.out.below HC4.out.2.1)
      go_wp2_with (refine wpList_load_mid rfl 26 (.tmp 6) rfl wr.heap.size 0 rfl (bc d) _ (bs_range HC4.out.1.bs) Tryd.underlying26 rfl HSD.out ?_)
      refine (Climb_yes d p p.length c2 k N A2 w4 HDk.out rfl HPS.out hlt (by omega) HTD.out.tab HPD.out HC4.out.2.2.ds HC4.out.2.2.le HC4.out.2.2.top).mono ?_
      rintro e w5 ⟨rfl, hb⟩
      rw [HCP.out]
      have HZt := hide (show (Tryd.prog.info? 26).map (·.size) = some ((bc T).toArray).size by rw [dv_size _ HTL.out]; exact Tryd.size26)
      have HLt := hide (dv_size _ HTL.out)
      have HC5 : Hid (Blk ((w5.alloc (.cells (List.replicate 32 (.int .u8 0)).toArray 26)).setRow w5.heap.size (bc T).toArray) w5.heap.size 26 (bc T) ∧ Blk ((w5.alloc (.cells (List.replicate 32 (.int .u8 0)).toArray 26)).setRow w5.heap.size (bc T).toArray) wr.heap.size 26 (bc d) ∧ DSrc ((w5.alloc (.cells (List.replicate 32 (.int .u8 0)).toArray 26)).setRow w5.heap.size (bc T).toArray) A2 p.length c2 p ∧ TC w w3.heap.size T (some ⟨b, o, none⟩) N c L ((w5.alloc (.cells (List.replicate 32 (.int .u8 0)).toArray 26)).setRow w5.heap.size (bc T).toArray)) := by
        have h : Below w5.heap.size w5 ((w5.alloc (.cells (List.replicate 32 (.int .u8 0)).toArray 26)).setRow w5.heap.size (bc T).toArray) := below_setRow (below_new w5 _) (Nat.le_refl _) _
        have h1 := HC4.out.1.below hb HC4.out.1.lt
        exact hide ⟨(Blk.new w5 26 _).row _, h1.below h h1.lt, (HC4.out.2.2.below hb).below h, (HTD.out.below hb).below h⟩
      clear hb HC4 HTD HJ
      go_wp2_with (refine wpList_store_row rfl 26 (.tmp 9) (.tmp 39) rfl w5.heap.size _ rfl rfl 26 _ (heap_alloc_new w5 _) HZt.out (by rw [HLt.out]; rfl) (all_oneCell_toArray (bc_one _)) ?_)
      (try simp only [Act.put])
      have HFP := hide (show p.length ≤ 5 by have := HFW.out; have := HPS.out; omega)
      have HSt := hide (show (Tryd.prog.info? 26).map (·.size) = some (bc T).length by rw [bc_len, HTL.out]; exact Tryd.size26)
      have hd32 : (bc d).length = 32 := by rw [bc_len, HDk.out]
      clear HZt HLt HOd HLd HZd
      refine name_code ?_
      intro Wr HWr
      have HC5' : Hid (Blk Wr w5.heap.size 26 (bc T) ∧ Blk Wr wr.heap.size 26 (bc d) ∧ DSrc Wr A2 p.length c2 p ∧ TC w w3.heap.size T (some ⟨b, o, none⟩) N c L Wr) := by
        have e : Wr = (w5.alloc (.cells (List.replicate 32 (.int .u8 0)).toArray 26)).setRow w5.heap.size (bc T).toArray := HWr.out
        subst e
        exact HC5
      clear HWr HC5
      have HC5 := HC5'
      clear HC5'
      refine wp_cutD (fun ac W => ∃ x11 x46 x48 x50 x51 : Value, ac = ⟨#[Value.slice a n cap, undef, u2, Value.slice (some { block := b, off := o }) N c, Value.pointer (some { block := w3.heap.size, off := 0 }), Value.int IntKind.i64 (k : Int), Value.pointer (some { block := wr.heap.size, off := 0 }), Value.slice A2 p.length c2, Value.int IntKind.i64 0, Value.pointer (some { block := w5.heap.size, off := 0 }), Value.int IntKind.i64 0, x11, Value.int IntKind.i64 1, Value.bool true, Value.bool false, Value.slice a n cap, Value.slice (some { block := b, off := o }) N c, Value.slice (some { block := b, off := o }) N c, dv T, Value.slice (some { block := b, off := o }) N c, Value.int IntKind.i64 (N : Int), Value.int IntKind.i64 (k : Int), Value.bool true, Value.int IntKind.i64 (k : Int), Value.pointer (some { block := b, off := o + k * 32 }), Value.agg (bc d).toArray, Value.tuple #[Value.slice A2 p.length c2, Value.int IntKind.i64 0], Value.slice (some { block := b, off := o }) N c, Value.int IntKind.i64 (k : Int), Value.tuple #[Value.slice A2 p.length c2, Value.int IntKind.i64 0], Value.slice A2 p.length c2, Value.int IntKind.i64 0, Value.tuple #[dv T, Value.int IntKind.i64 0], Value.agg (bc d).toArray, Value.int IntKind.i64 (k : Int), Value.slice (some { block := b, off := o }) N c, Value.int IntKind.i64 (N : Int), Value.slice A2 p.length c2, Value.tuple #[dv T, Value.int IntKind.i64 0], dv T, Value.int IntKind.i64 0, Value.tuple #[dv zd, Value.int IntKind.i64 1], Value.agg (bc d).toArray, Value.int IntKind.i64 (k : Int), Value.slice (some { block := b, off := o }) N c, Value.int IntKind.i64 (N : Int), x46, Value.slice A2 p.length c2, x48, Value.agg (bc d).toArray, x50, x51, Value.tuple #[dv zd, Value.int IntKind.i64 1], dv zd, Value.int IntKind.i64 1, u55, u56, u57, u58, u59, u60, u61, u62, u63, u64, u65, u66, u67, u68, u69, u70, u71, u72, u73, u74, u75], []⟩ ∧ Hid (Below Wr.heap.size Wr W)) ?_ ?_
      · have HS0 : Hid (Hid (Below Wr.heap.size Wr Wr.drew)) := hide (hide (Below.refl _ _).drew)
        refine wp_region_plan3 (fun W => Hid (Below Wr.heap.size Wr W)) (.take 0 (.take 1 (.take 2 (.take 3 (.take 5 (.take 7 (.three 4 (.three 6 (.both 8 (.both 9 (.both 10 (.take 11 (.take 12 (.take 13 (.run 14 (.run 15 (.take 16 .done)))))) 14 (.run 10 (.take 11 (.take 12 (.take 13 (.run 15 (.take 16 .done))))))) 14 (.run 9 (.run 10 (.take 11 (.take 12 (.take 13 (.run 15 (.take 16 .done)))))))) 14 (.run 8 (.run 9 (.run 10 (.take 11 (.take 12 (.take 13 (.run 15 (.take 16 .done))))))))) 8 (.both 6 (.both 9 (.both 10 (.take 11 (.take 12 (.take 13 (.run 14 (.run 15 (.take 16 .done)))))) 14 (.run 10 (.take 11 (.take 12 (.take 13 (.run 15 (.take 16 .done))))))) 14 (.run 9 (.run 10 (.take 11 (.take 12 (.take 13 (.run 15 (.take 16 .done)))))))) 14 (.run 6 (.run 9 (.run 10 (.take 11 (.take 12 (.take 13 (.run 15 (.take 16 .done))))))))) 14 (.both 6 (.run 8 (.run 9 (.run 10 (.take 11 (.take 12 (.take 13 (.run 15 (.take 16 .done)))))))) 8 (.run 6 (.run 9 (.run 10 (.take 11 (.take 12 (.take 13 (.run 15 (.take 16 .done)))))))))) 8 (.both 4 (.both 6 (.both 9 (.both 10 (.take 11 (.take 12 (.take 13 (.run 14 (.run 15 (.take 16 .done)))))) 14 (.run 10 (.take 11 (.take 12 (.take 13 (.run 15 (.take 16 .done))))))) 14 (.run 9 (.run 10 (.take 11 (.take 12 (.take 13 (.run 15 (.take 16 .done)))))))) 14 (.run 6 (.run 9 (.run 10 (.take 11 (.take 12 (.take 13 (.run 15 (.take 16 .done))))))))) 14 (.run 4 (.run 6 (.run 9 (.run 10 (.take 11 (.take 12 (.take 13 (.run 15 (.take 16 .done)))))))))) 14 (.both 4 (.both 6 (.run 8 (.run 9 (.run 10 (.take 11 (.take 12 (.take 13 (.run 15 (.take 16 .done)))))))) 8 (.run 6 (.run 9 (.run 10 (.take 11 (.take 12 (.take 13 (.run 15 (.take 16 .done))))))))) 8 (.run 4 (.run 6 (.run 9 (.run 10 (.take 11 (.take 12 (.take 13 (.run 15 (.take 16 .done))))))))))))))))) (by kernel_rfl) (by kernel_rfl) HS0.out ?_
        refine plan3_named ?_
        intro Wd HWd
        have HS : Hid (Hid (Below Wr.heap.size Wr Wd)) := by
          have e : Wd = Wr.drew := HWd.out
          subst e
          exact HS0
        clear HWd HS0
        (refine plan3_take (o := ?_) (by simp only [List.getElem?_toArray, List.getElem?_cons_zero]; rfl) (yieldsIf_load_mid (by rfl) 26 (.tmp 6) rfl wr.heap.size 0 rfl (bc d) _ (fun _ h => bs_range (HC5.out.2.1.below h.out HC5.out.2.1.lt).bs) Tryd.underlying26 rfl HSD.out) ?_; (simp only [Act.put, List.setIfInBounds_toArray, List.set_cons_zero, List.set_cons_succ]))
        (refine plan3_take (o := ?_) (v := ?_) (by simp only [List.getElem?_toArray, List.getElem?_cons_succ, List.getElem?_cons_zero]; rfl) (yields_run (by rfl) ?_) ?_; rotate_left; (focus (intro w' _; go_simp <;> with_reducible rfl)); (simp only [Act.put, List.setIfInBounds_toArray, List.set_cons_zero, List.set_cons_succ]))
        (refine plan3_take (o := ?_) (v := ?_) (by simp only [List.getElem?_toArray, List.getElem?_cons_succ, List.getElem?_cons_zero]; rfl) (yields_run (by rfl) ?_) ?_; rotate_left; (focus (intro w' _; go_simp <;> with_reducible rfl)); (simp only [Act.put, List.setIfInBounds_toArray, List.set_cons_zero, List.set_cons_succ]))
        (refine plan3_take (o := ?_) (v := ?_) (by simp only [List.getElem?_toArray, List.getElem?_cons_succ, List.getElem?_cons_zero]; rfl) (yields_run (by rfl) ?_) ?_; rotate_left; (focus (intro w' _; go_simp <;> with_reducible rfl)); (simp only [Act.put, List.setIfInBounds_toArray, List.set_cons_zero, List.set_cons_succ]))
        (refine plan3_take (o := ?_) (v := ?_) (by simp only [List.getElem?_toArray, List.getElem?_cons_succ, List.getElem?_cons_zero]; rfl) (yields_run (by rfl) ?_) ?_; rotate_left; (focus (intro w' _; go_simp <;> with_reducible rfl)); (simp only [Act.put, List.setIfInBounds_toArray, List.set_cons_zero, List.set_cons_succ]))
        (refine plan3_take (o := ?_) (by simp only [List.getElem?_toArray, List.getElem?_cons_succ, List.getElem?_cons_zero]; rfl) (yieldsIf_load_mid (by rfl) 26 (.tmp 6) rfl wr.heap.size 0 rfl (bc d) _ (fun _ h => bs_range (HC5.out.2.1.below h.out HC5.out.2.1.lt).bs) Tryd.underlying26 rfl HSD.out) ?_; (simp only [Act.put, List.setIfInBounds_toArray, List.set_cons_zero, List.set_cons_succ]))
        refine plan3_three (o1 := ?_) (o2 := ?_) (o3 := ?_) (by simp only [List.getElem?_toArray, List.getElem?_cons_succ, List.getElem?_cons_zero]; rfl) (by simp only [List.getElem?_toArray, List.getElem?_cons_succ, List.getElem?_cons_zero]; rfl) (by simp only [List.getElem?_toArray, List.getElem?_cons_succ, List.getElem?_cons_zero]; rfl) ?_ ?_ ?_
        · intro R HR
          go_wp2_with fail
          refine HR.out _ _ (show Hid (Below Wr.heap.size Wr (Wd.alloc (.cells #[] 26))) from hide (below_one HS.out.out (below_new _ _))) ?_
          clear HR
          refine plan3_named ?_
          intro Wz1 HWn
          have HS' : Hid (Hid (Below Wr.heap.size Wr Wz1)) := by
            have e : Wz1 = Wd.alloc (.cells #[] 26) := HWn.out
            subst e
            exact hide (hide (below_one HS.out.out (below_new _ _)))
          have HO' : Hid (Wz1.ownsRow Wr.heap.size 26 32 (.slice (some ⟨Wd.heap.size, 0, none⟩) 0 0) 0 (bc ([] : List (List UInt8)).flatten)) := by
            have e : Wz1 = Wd.alloc (.cells #[] 26) := HWn.out
            subst e
            exact hide (own_empty _ _ 26 26 32 rfl HS.out.out.size)
          clear HS
          have HS := HS'
          have HO := HO'
          clear HS' HO' HWn
          refine plan3_three (o1 := ?_) (o2 := ?_) (o3 := ?_) (by simp only [List.getElem?_toArray, List.getElem?_cons_succ, List.getElem?_cons_zero]; rfl) (by simp only [List.getElem?_toArray, List.getElem?_cons_succ, List.getElem?_cons_zero]; rfl) (by simp only [List.getElem?_toArray, List.getElem?_cons_succ, List.getElem?_cons_zero]; rfl) ?_ ?_ ?_
          · intro R HR
            refine wpList_of_wp (by rfl) (wp_app26f (.tmp 46) (.tmp 47) rfl Wr.heap.size Wd.heap.size 0 0 [] rfl HO.out A2 p.length c2 p rfl (HC5.out.2.2.1.below HS.out.out) (by have := HFP.out; omega) HS.out.out.size p.length p (by omega) rfl ?_)
            intro g3 cp4 Wz2 ho hg hor
            have HS' : Hid (Hid (Below Wr.heap.size Wr Wz2)) := hide (hide (HS.out.out.grown hg HS.out.out.size (fun k hk => (HO.out.lt k hk).1)))
            have HO' : Hid (Wz2.ownsRow Wr.heap.size 26 32 (.slice (some ⟨g3, 0, none⟩) p.length cp4) p.length (bc p.flatten)) := hide ho
            clear HS HO
            have HS := HS'
            have HO := HO'
            clear HS' HO'
            clear ho hg hor
            refine HR.out _ _ HS.out ?_
            clear HR
            (simp only [Act.put, List.setIfInBounds_toArray, List.set_cons_zero, List.set_cons_succ])
            refine plan3_both (o1 := ?_) (o2 := ?_) (by simp only [List.getElem?_toArray, List.getElem?_cons_succ, List.getElem?_cons_zero]; rfl) (by simp only [List.getElem?_toArray, List.getElem?_cons_succ, List.getElem?_cons_zero]; rfl) ?_ ?_
            · intro R HR
              go_wp2_with fail
              rw [fold_dv d HDk.out]
              refine HR.out _ _ (show Hid (Below Wr.heap.size Wr (Wz2.alloc (.cells (bc d).toArray 26))) from hide (below_one HS.out.out (below_new _ _))) ?_
              clear HR
              refine plan3_named ?_
              intro Wz5 HWn
              have HS' : Hid (Hid (Below Wr.heap.size Wr Wz5)) := by
                have e : Wz5 = Wz2.alloc (.cells (bc d).toArray 26) := HWn.out
                subst e
                exact hide (hide (below_one HS.out.out (below_new _ _)))
              have HO' : Hid (Wz5.ownsRow Wr.heap.size 26 32 (.slice (some ⟨g3, 0, none⟩) p.length cp4) p.length (bc p.flatten)) := by
                have e : Wz5 = Wz2.alloc (.cells (bc d).toArray 26) := HWn.out
                subst e
                exact hide (HO.out.alloc _)
              have K8' : Hid (Blk Wz5 Wz2.heap.size 26 (bc d)) := by
                have e : Wz5 = Wz2.alloc (.cells (bc d).toArray 26) := HWn.out
                subst e
                exact hide (Blk.new _ _ _)
              clear HS HO
              have HS := HS'
              have HO := HO'
              have K8 := K8'
              clear HS' HO' K8' HWn
              refine plan3_both (o1 := ?_) (o2 := ?_) (by simp only [List.getElem?_toArray, List.getElem?_cons_succ, List.getElem?_cons_zero]; rfl) (by simp only [List.getElem?_toArray, List.getElem?_cons_succ, List.getElem?_cons_zero]; rfl) ?_ ?_
              · intro R HR
                refine wpList_of_wp (by rfl) (wp_app26f (.tmp 48) (.tmp 50) rfl Wr.heap.size g3 p.length cp4 p rfl HO.out (some ⟨Wz2.heap.size, 0, none⟩) 1 1 [d] rfl (DSrc.one_of K8.out HDk.out) (by have := HFP.out; omega) HS.out.out.size (p.length + 1) (p ++ [d]) rfl rfl ?_)
                intro g7 cp8 Wz6 ho hg hor
                obtain ⟨A9, c9, e9, hQ⟩ := own_dsrc ho (HPD.out.append (D32.one HDk.out)) (by simp)
                cases e9
                have HS' : Hid (Hid (Below Wr.heap.size Wr Wz6)) := hide (hide (HS.out.out.grown hg HS.out.out.size (fun k hk => (HO.out.lt k hk).1)))
                have HQ9' : Hid (DSrc Wz6 (some ⟨g7, 0, none⟩) (p.length + 1) cp8 (p ++ [d])) := hide hQ
                clear HS
                have HS := HS'
                have HQ9 := HQ9'
                clear HS' HQ9'
                clear ho hg hor hQ HO
                refine HR.out _ _ HS.out ?_
                clear HR
                (simp only [Act.put, List.setIfInBounds_toArray, List.set_cons_zero, List.set_cons_succ])
                refine plan3_both (o1 := ?_) (o2 := ?_) (by simp only [List.getElem?_toArray, List.getElem?_cons_succ, List.getElem?_cons_zero]; rfl) (by simp only [List.getElem?_toArray, List.getElem?_cons_succ, List.getElem?_cons_zero]; rfl) ?_ ?_
                · intro R HR
                  go_wp2_with fail
                  refine (Climb_no5 d (p.length + 1) cp8 k N (some ⟨g7, 0, none⟩) Wz6 k N rfl rfl (by omega) (by omega) hlt (by have := HPS.out; omega)).mono ?_
                  rintro e Wz9 ⟨rfl, hb⟩
                  have HS' : Hid (Hid (Below Wr.heap.size Wr Wz9)) := hide (hide (below_one HS.out.out hb))
                  clear HS
                  have HS := HS'
                  clear HS'
                  clear hb
                  go_wp2_with fail
                  refine HR.out _ _ HS.out ?_
                  clear HR
                  (refine plan3_take (o := ?_) (v := ?_) (by simp only [List.getElem?_toArray, List.getElem?_cons_succ, List.getElem?_cons_zero]; rfl) (yields_run (by rfl) ?_) ?_; rotate_left; (focus (intro w' _; go_simp <;> with_reducible rfl)); (simp only [Act.put, List.setIfInBounds_toArray, List.set_cons_zero, List.set_cons_succ]))
                  (refine plan3_take (o := ?_) (v := ?_) (by simp only [List.getElem?_toArray, List.getElem?_cons_succ, List.getElem?_cons_zero]; rfl) (yields_run (by rfl) ?_) ?_; rotate_left; (focus (intro w' _; go_simp <;> with_reducible rfl)); (simp only [Act.put, List.setIfInBounds_toArray, List.set_cons_zero, List.set_cons_succ]))
                  (refine plan3_take (o := ?_) (v := ?_) (by simp only [List.getElem?_toArray, List.getElem?_cons_succ, List.getElem?_cons_zero]; rfl) (yields_run (by rfl) ?_) ?_; rotate_left; (focus (intro w' _; go_simp <;> with_reducible rfl)); (simp only [Act.put, List.setIfInBounds_toArray, List.set_cons_zero, List.set_cons_succ]))
                  refine plan3_run (o := ?_) (by simp only [List.getElem?_toArray, List.getElem?_cons_succ, List.getElem?_cons_zero]; rfl) ?_
                  intro R HR
                  go_wp2_with fail
                  refine HR.out _ _ (show Hid (Below Wr.heap.size Wr (Wz9.alloc (.cells (List.replicate 32 (.int .u8 0)).toArray 26))) from hide (below_one HS.out.out (below_new _ _))) ?_
                  clear HR
                  refine plan3_named ?_
                  intro Wz10 HWn
                  have HS' : Hid (Hid (Below Wr.heap.size Wr Wz10)) := by
                    have e : Wz10 = Wz9.alloc (.cells (List.replicate 32 (.int .u8 0)).toArray 26) := HWn.out
                    subst e
                    exact hide (hide (below_one HS.out.out (below_new _ _)))
                  have K11' : Hid (Blk Wz10 Wz9.heap.size 26 (List.replicate 32 (.int .u8 0))) := by
                    have e : Wz10 = Wz9.alloc (.cells (List.replicate 32 (.int .u8 0)).toArray 26) := HWn.out
                    subst e
                    exact hide (Blk.new _ _ _)
                  have HG11' : Hid (Wr.heap.size ≤ Wz9.heap.size) := by
                    have e : Wz10 = Wz9.alloc (.cells (List.replicate 32 (.int .u8 0)).toArray 26) := HWn.out
                    subst e
                    exact hide HS.out.out.size
                  clear HS
                  have HS := HS'
                  have K11 := K11'
                  have HG11 := HG11'
                  clear HS' K11' HG11' HWn
                  refine plan3_run (o := ?_) (by simp only [List.getElem?_toArray, List.getElem?_cons_succ, List.getElem?_cons_zero]; rfl) ?_
                  intro R HR
                  refine wpList_store_mid rfl 26 (.tmp 11) (.tmp 53) rfl Wz9.heap.size 0 (bc zd).toArray rfl rfl (by rw [dv_size zd zd_len]; exact K11.out.there (by simp)) (by rw [dv_size zd zd_len]; exact Tryd.size26) (all_oneCell_toArray (bc_one _)) ?_
                  have HS' : Hid (Hid (Below Wr.heap.size Wr (Wz10.setCells Wz9.heap.size 0 (bc zd).toArray.toList))) := hide (hide (below_setCells HS.out.out HG11.out _ _))
                  refine HR.out _ _ HS'.out ?_
                  clear HR HS K11
                  have HS := HS'
                  clear HS'
                  (simp only [Act.put])
                  (refine plan3_take (o := ?_) (v := ?_) (by simp only [List.getElem?_toArray, List.getElem?_cons_succ, List.getElem?_cons_zero]; rfl) (yields_run (by rfl) ?_) ?_; rotate_left; (focus (intro w' _; go_simp <;> with_reducible rfl)); (simp only [Act.put, List.setIfInBounds_toArray, List.set_cons_zero, List.set_cons_succ]))
                  refine plan3_done ?_
                  exact ⟨_, _, _, _, _, rfl, hide HS.out.out⟩
                · intro R HR
                  go_wp2_with fail
                  refine HR.out _ _ (show Hid (Below Wr.heap.size Wr (Wz6.alloc (.cells (List.replicate 32 (.int .u8 0)).toArray 26))) from hide (below_one HS.out.out (below_new _ _))) ?_
                  clear HR
                  refine plan3_named ?_
                  intro Wz11 HWn
                  have HS' : Hid (Hid (Below Wr.heap.size Wr Wz11)) := by
                    have e : Wz11 = Wz6.alloc (.cells (List.replicate 32 (.int .u8 0)).toArray 26) := HWn.out
                    subst e
                    exact hide (hide (below_one HS.out.out (below_new _ _)))
                  have HQ9' : Hid (DSrc Wz11 (some ⟨g7, 0, none⟩) (p.length + 1) cp8 (p ++ [d])) := by
                    have e : Wz11 = Wz6.alloc (.cells (List.replicate 32 (.int .u8 0)).toArray 26) := HWn.out
                    subst e
                    exact hide (HQ9.out.below (below_new _ _))
                  have K11' : Hid (Blk Wz11 Wz6.heap.size 26 (List.replicate 32 (.int .u8 0))) := by
                    have e : Wz11 = Wz6.alloc (.cells (List.replicate 32 (.int .u8 0)).toArray 26) := HWn.out
                    subst e
                    exact hide (Blk.new _ _ _)
                  have HG11' : Hid (Wr.heap.size ≤ Wz6.heap.size) := by
                    have e : Wz11 = Wz6.alloc (.cells (List.replicate 32 (.int .u8 0)).toArray 26) := HWn.out
                    subst e
                    exact hide HS.out.out.size
                  clear HS HQ9
                  have HS := HS'
                  have HQ9 := HQ9'
                  have K11 := K11'
                  have HG11 := HG11'
                  clear HS' HQ9' K11' HG11' HWn
                  refine plan3_run (o := ?_) (by simp only [List.getElem?_toArray, List.getElem?_cons_succ, List.getElem?_cons_zero]; rfl) ?_
                  intro R HR
                  go_wp2_with fail
                  refine (Climb_no5 d (p.length + 1) cp8 k N (some ⟨g7, 0, none⟩) Wz11 k N rfl rfl (by omega) (by omega) hlt (by have := HPS.out; omega)).mono ?_
                  rintro e Wz12 ⟨rfl, hb⟩
                  have HS' : Hid (Hid (Below Wr.heap.size Wr Wz12)) := hide (hide (below_one HS.out.out hb))
                  have K11' : Hid (Blk Wz12 Wz6.heap.size 26 (List.replicate 32 (.int .u8 0))) := hide (K11.out.below hb K11.out.lt)
                  clear HS K11
                  have HS := HS'
                  have K11 := K11'
                  clear HS' K11'
                  clear hb
                  go_wp2_with fail
                  refine HR.out _ _ HS.out ?_
                  clear HR
                  (refine plan3_take (o := ?_) (v := ?_) (by simp only [List.getElem?_toArray, List.getElem?_cons_succ, List.getElem?_cons_zero]; rfl) (yields_run (by rfl) ?_) ?_; rotate_left; (focus (intro w' _; go_simp <;> with_reducible rfl)); (simp only [Act.put, List.setIfInBounds_toArray, List.set_cons_zero, List.set_cons_succ]))
                  (refine plan3_take (o := ?_) (v := ?_) (by simp only [List.getElem?_toArray, List.getElem?_cons_succ, List.getElem?_cons_zero]; rfl) (yields_run (by rfl) ?_) ?_; rotate_left; (focus (intro w' _; go_simp <;> with_reducible rfl)); (simp only [Act.put, List.setIfInBounds_toArray, List.set_cons_zero, List.set_cons_succ]))
                  (refine plan3_take (o := ?_) (v := ?_) (by simp only [List.getElem?_toArray, List.getElem?_cons_succ, List.getElem?_cons_zero]; rfl) (yields_run (by rfl) ?_) ?_; rotate_left; (focus (intro w' _; go_simp <;> with_reducible rfl)); (simp only [Act.put, List.setIfInBounds_toArray, List.set_cons_zero, List.set_cons_succ]))
                  refine plan3_run (o := ?_) (by simp only [List.getElem?_toArray, List.getElem?_cons_succ, List.getElem?_cons_zero]; rfl) ?_
                  intro R HR
                  refine wpList_store_mid rfl 26 (.tmp 11) (.tmp 53) rfl Wz6.heap.size 0 (bc zd).toArray rfl rfl (by rw [dv_size zd zd_len]; exact K11.out.there (by simp)) (by rw [dv_size zd zd_len]; exact Tryd.size26) (all_oneCell_toArray (bc_one _)) ?_
                  have HS' : Hid (Hid (Below Wr.heap.size Wr (Wz12.setCells Wz6.heap.size 0 (bc zd).toArray.toList))) := hide (hide (below_setCells HS.out.out HG11.out _ _))
                  refine HR.out _ _ HS'.out ?_
                  clear HR HS K11
                  have HS := HS'
                  clear HS'
                  (simp only [Act.put])
                  (refine plan3_take (o := ?_) (v := ?_) (by simp only [List.getElem?_toArray, List.getElem?_cons_succ, List.getElem?_cons_zero]; rfl) (yields_run (by rfl) ?_) ?_; rotate_left; (focus (intro w' _; go_simp <;> with_reducible rfl)); (simp only [Act.put, List.setIfInBounds_toArray, List.set_cons_zero, List.set_cons_succ]))
                  refine plan3_done ?_
                  exact ⟨_, _, _, _, _, rfl, hide HS.out.out⟩
              · intro R HR
                go_wp2_with fail
                refine HR.out _ _ (show Hid (Below Wr.heap.size Wr (Wz5.alloc (.cells (List.replicate 32 (.int .u8 0)).toArray 26))) from hide (below_one HS.out.out (below_new _ _))) ?_
                clear HR
                refine plan3_named ?_
                intro Wz13 HWn
                have HS' : Hid (Hid (Below Wr.heap.size Wr Wz13)) := by
                  have e : Wz13 = Wz5.alloc (.cells (List.replicate 32 (.int .u8 0)).toArray 26) := HWn.out
                  subst e
                  exact hide (hide (below_one HS.out.out (below_new _ _)))
                have HO' : Hid (Wz13.ownsRow Wr.heap.size 26 32 (.slice (some ⟨g3, 0, none⟩) p.length cp4) p.length (bc p.flatten)) := by
                  have e : Wz13 = Wz5.alloc (.cells (List.replicate 32 (.int .u8 0)).toArray 26) := HWn.out
                  subst e
                  exact hide (HO.out.alloc _)
                have K8' : Hid (Blk Wz13 Wz2.heap.size 26 (bc d)) := by
                  have e : Wz13 = Wz5.alloc (.cells (List.replicate 32 (.int .u8 0)).toArray 26) := HWn.out
                  subst e
                  exact hide (K8.out.alloc _)
                have K11' : Hid (Blk Wz13 Wz5.heap.size 26 (List.replicate 32 (.int .u8 0))) := by
                  have e : Wz13 = Wz5.alloc (.cells (List.replicate 32 (.int .u8 0)).toArray 26) := HWn.out
                  subst e
                  exact hide (Blk.new _ _ _)
                have HG11' : Hid (Wr.heap.size ≤ Wz5.heap.size) := by
                  have e : Wz13 = Wz5.alloc (.cells (List.replicate 32 (.int .u8 0)).toArray 26) := HWn.out
                  subst e
                  exact hide HS.out.out.size
                have N11' : Hid (¬ Wz5.heap.size = g3) := by
                  have e : Wz13 = Wz5.alloc (.cells (List.replicate 32 (.int .u8 0)).toArray 26) := HWn.out
                  subst e
                  exact hide (by have h2 : g3 < Wz5.heap.size := (HO.out.lt _ rfl).2; omega)
                clear HS HO K8
                have HS := HS'
                have HO := HO'
                have K8 := K8'
                have K11 := K11'
                have HG11 := HG11'
                have N11 := N11'
                clear HS' HO' K8' K11' HG11' N11' HWn
                refine plan3_run (o := ?_) (by simp only [List.getElem?_toArray, List.getElem?_cons_succ, List.getElem?_cons_zero]; rfl) ?_
                intro R HR
                refine wpList_of_wp (by rfl) (wp_app26f (.tmp 48) (.tmp 50) rfl Wr.heap.size g3 p.length cp4 p rfl HO.out (some ⟨Wz2.heap.size, 0, none⟩) 1 1 [d] rfl (DSrc.one_of K8.out HDk.out) (by have := HFP.out; omega) HS.out.out.size (p.length + 1) (p ++ [d]) rfl rfl ?_)
                intro g15 cp16 Wz14 ho hg hor
                obtain ⟨A9, c9, e9, hQ⟩ := own_dsrc ho (HPD.out.append (D32.one HDk.out)) (by simp)
                cases e9
                have HS' : Hid (Hid (Below Wr.heap.size Wr Wz14)) := hide (hide (HS.out.out.grown hg HS.out.out.size (fun k hk => (HO.out.lt k hk).1)))
                have K11' : Hid (Blk Wz14 Wz5.heap.size 26 (List.replicate 32 (.int .u8 0))) := hide ((hg.block _ K11.out.lt (fun e => N11.out (Option.some.inj e))).trans K11.out)
                have HQ9' : Hid (DSrc Wz14 (some ⟨g15, 0, none⟩) (p.length + 1) cp16 (p ++ [d])) := hide hQ
                clear HS K11
                have HS := HS'
                have K11 := K11'
                have HQ9 := HQ9'
                clear HS' K11' HQ9'
                clear ho hg hor hQ HO
                refine HR.out _ _ HS.out ?_
                clear HR
                (simp only [Act.put, List.setIfInBounds_toArray, List.set_cons_zero, List.set_cons_succ])
                refine plan3_run (o := ?_) (by simp only [List.getElem?_toArray, List.getElem?_cons_succ, List.getElem?_cons_zero]; rfl) ?_
                intro R HR
                go_wp2_with fail
                refine (Climb_no5 d (p.length + 1) cp16 k N (some ⟨g15, 0, none⟩) Wz14 k N rfl rfl (by omega) (by omega) hlt (by have := HPS.out; omega)).mono ?_
                rintro e Wz17 ⟨rfl, hb⟩
                have HS' : Hid (Hid (Below Wr.heap.size Wr Wz17)) := hide (hide (below_one HS.out.out hb))
                have K11' : Hid (Blk Wz17 Wz5.heap.size 26 (List.replicate 32 (.int .u8 0))) := hide (K11.out.below hb K11.out.lt)
                clear HS K11
                have HS := HS'
                have K11 := K11'
                clear HS' K11'
                clear hb
                go_wp2_with fail
                refine HR.out _ _ HS.out ?_
                clear HR
                (refine plan3_take (o := ?_) (v := ?_) (by simp only [List.getElem?_toArray, List.getElem?_cons_succ, List.getElem?_cons_zero]; rfl) (yields_run (by rfl) ?_) ?_; rotate_left; (focus (intro w' _; go_simp <;> with_reducible rfl)); (simp only [Act.put, List.setIfInBounds_toArray, List.set_cons_zero, List.set_cons_succ]))
                (refine plan3_take (o := ?_) (v := ?_) (by simp only [List.getElem?_toArray, List.getElem?_cons_succ, List.getElem?_cons_zero]; rfl) (yields_run (by rfl) ?_) ?_; rotate_left; (focus (intro w' _; go_simp <;> with_reducible rfl)); (simp only [Act.put, List.setIfInBounds_toArray, List.set_cons_zero, List.set_cons_succ]))
                (refine plan3_take (o := ?_) (v := ?_) (by simp only [List.getElem?_toArray, List.getElem?_cons_succ, List.getElem?_cons_zero]; rfl) (yields_run (by rfl) ?_) ?_; rotate_left; (focus (intro w' _; go_simp <;> with_reducible rfl)); (simp only [Act.put, List.setIfInBounds_toArray, List.set_cons_zero, List.set_cons_succ]))
                refine plan3_run (o := ?_) (by simp only [List.getElem?_toArray, List.getElem?_cons_succ, List.getElem?_cons_zero]; rfl) ?_
                intro R HR
                refine wpList_store_mid rfl 26 (.tmp 11) (.tmp 53) rfl Wz5.heap.size 0 (bc zd).toArray rfl rfl (by rw [dv_size zd zd_len]; exact K11.out.there (by simp)) (by rw [dv_size zd zd_len]; exact Tryd.size26) (all_oneCell_toArray (bc_one _)) ?_
                have HS' : Hid (Hid (Below Wr.heap.size Wr (Wz17.setCells Wz5.heap.size 0 (bc zd).toArray.toList))) := hide (hide (below_setCells HS.out.out HG11.out _ _))
                refine HR.out _ _ HS'.out ?_
                clear HR HS K11
                have HS := HS'
                clear HS'
                (simp only [Act.put])
                (refine plan3_take (o := ?_) (v := ?_) (by simp only [List.getElem?_toArray, List.getElem?_cons_succ, List.getElem?_cons_zero]; rfl) (yields_run (by rfl) ?_) ?_; rotate_left; (focus (intro w' _; go_simp <;> with_reducible rfl)); (simp only [Act.put, List.setIfInBounds_toArray, List.set_cons_zero, List.set_cons_succ]))
                refine plan3_done ?_
                exact ⟨_, _, _, _, _, rfl, hide HS.out.out⟩
            · intro R HR
              go_wp2_with fail
              refine HR.out _ _ (show Hid (Below Wr.heap.size Wr (Wz2.alloc (.cells (List.replicate 32 (.int .u8 0)).toArray 26))) from hide (below_one HS.out.out (below_new _ _))) ?_
              clear HR
              refine plan3_named ?_
              intro Wz18 HWn
              have HS' : Hid (Hid (Below Wr.heap.size Wr Wz18)) := by
                have e : Wz18 = Wz2.alloc (.cells (List.replicate 32 (.int .u8 0)).toArray 26) := HWn.out
                subst e
                exact hide (hide (below_one HS.out.out (below_new _ _)))
              have HO' : Hid (Wz18.ownsRow Wr.heap.size 26 32 (.slice (some ⟨g3, 0, none⟩) p.length cp4) p.length (bc p.flatten)) := by
                have e : Wz18 = Wz2.alloc (.cells (List.replicate 32 (.int .u8 0)).toArray 26) := HWn.out
                subst e
                exact hide (HO.out.alloc _)
              have K11' : Hid (Blk Wz18 Wz2.heap.size 26 (List.replicate 32 (.int .u8 0))) := by
                have e : Wz18 = Wz2.alloc (.cells (List.replicate 32 (.int .u8 0)).toArray 26) := HWn.out
                subst e
                exact hide (Blk.new _ _ _)
              have HG11' : Hid (Wr.heap.size ≤ Wz2.heap.size) := by
                have e : Wz18 = Wz2.alloc (.cells (List.replicate 32 (.int .u8 0)).toArray 26) := HWn.out
                subst e
                exact hide HS.out.out.size
              have N11' : Hid (¬ Wz2.heap.size = g3) := by
                have e : Wz18 = Wz2.alloc (.cells (List.replicate 32 (.int .u8 0)).toArray 26) := HWn.out
                subst e
                exact hide (by have h2 : g3 < Wz2.heap.size := (HO.out.lt _ rfl).2; omega)
              clear HS HO
              have HS := HS'
              have HO := HO'
              have K11 := K11'
              have HG11 := HG11'
              have N11 := N11'
              clear HS' HO' K11' HG11' N11' HWn
              refine plan3_run (o := ?_) (by simp only [List.getElem?_toArray, List.getElem?_cons_succ, List.getElem?_cons_zero]; rfl) ?_
              intro R HR
              go_wp2_with fail
              rw [fold_dv d HDk.out]
              refine HR.out _ _ (show Hid (Below Wr.heap.size Wr (Wz18.alloc (.cells (bc d).toArray 26))) from hide (below_one HS.out.out (below_new _ _))) ?_
              clear HR
              refine plan3_named ?_
              intro Wz19 HWn
              have HS' : Hid (Hid (Below Wr.heap.size Wr Wz19)) := by
                have e : Wz19 = Wz18.alloc (.cells (bc d).toArray 26) := HWn.out
                subst e
                exact hide (hide (below_one HS.out.out (below_new _ _)))
              have HO' : Hid (Wz19.ownsRow Wr.heap.size 26 32 (.slice (some ⟨g3, 0, none⟩) p.length cp4) p.length (bc p.flatten)) := by
                have e : Wz19 = Wz18.alloc (.cells (bc d).toArray 26) := HWn.out
                subst e
                exact hide (HO.out.alloc _)
              have K11' : Hid (Blk Wz19 Wz2.heap.size 26 (List.replicate 32 (.int .u8 0))) := by
                have e : Wz19 = Wz18.alloc (.cells (bc d).toArray 26) := HWn.out
                subst e
                exact hide (K11.out.alloc _)
              have K8' : Hid (Blk Wz19 Wz18.heap.size 26 (bc d)) := by
                have e : Wz19 = Wz18.alloc (.cells (bc d).toArray 26) := HWn.out
                subst e
                exact hide (Blk.new _ _ _)
              clear HS HO K11
              have HS := HS'
              have HO := HO'
              have K11 := K11'
              have K8 := K8'
              clear HS' HO' K11' K8' HWn
              refine plan3_run (o := ?_) (by simp only [List.getElem?_toArray, List.getElem?_cons_succ, List.getElem?_cons_zero]; rfl) ?_
              intro R HR
              refine wpList_of_wp (by rfl) (wp_app26f (.tmp 48) (.tmp 50) rfl Wr.heap.size g3 p.length cp4 p rfl HO.out (some ⟨Wz18.heap.size, 0, none⟩) 1 1 [d] rfl (DSrc.one_of K8.out HDk.out) (by have := HFP.out; omega) HS.out.out.size (p.length + 1) (p ++ [d]) rfl rfl ?_)
              intro g21 cp22 Wz20 ho hg hor
              obtain ⟨A9, c9, e9, hQ⟩ := own_dsrc ho (HPD.out.append (D32.one HDk.out)) (by simp)
              cases e9
              have HS' : Hid (Hid (Below Wr.heap.size Wr Wz20)) := hide (hide (HS.out.out.grown hg HS.out.out.size (fun k hk => (HO.out.lt k hk).1)))
              have K11' : Hid (Blk Wz20 Wz2.heap.size 26 (List.replicate 32 (.int .u8 0))) := hide ((hg.block _ K11.out.lt (fun e => N11.out (Option.some.inj e))).trans K11.out)
              have HQ9' : Hid (DSrc Wz20 (some ⟨g21, 0, none⟩) (p.length + 1) cp22 (p ++ [d])) := hide hQ
              clear HS K11
              have HS := HS'
              have K11 := K11'
              have HQ9 := HQ9'
              clear HS' K11' HQ9'
              clear ho hg hor hQ HO
              refine HR.out _ _ HS.out ?_
              clear HR
              (simp only [Act.put, List.setIfInBounds_toArray, List.set_cons_zero, List.set_cons_succ])
              refine plan3_run (o := ?_) (by simp only [List.getElem?_toArray, List.getElem?_cons_succ, List.getElem?_cons_zero]; rfl) ?_
              intro R HR
              go_wp2_with fail
              refine (Climb_no5 d (p.length + 1) cp22 k N (some ⟨g21, 0, none⟩) Wz20 k N rfl rfl (by omega) (by omega) hlt (by have := HPS.out; omega)).mono ?_
              rintro e Wz23 ⟨rfl, hb⟩
              have HS' : Hid (Hid (Below Wr.heap.size Wr Wz23)) := hide (hide (below_one HS.out.out hb))
              have K11' : Hid (Blk Wz23 Wz2.heap.size 26 (List.replicate 32 (.int .u8 0))) := hide (K11.out.below hb K11.out.lt)
              clear HS K11
              have HS := HS'
              have K11 := K11'
              clear HS' K11'
              clear hb
              go_wp2_with fail
              refine HR.out _ _ HS.out ?_
              clear HR
              (refine plan3_take (o := ?_) (v := ?_) (by simp only [List.getElem?_toArray, List.getElem?_cons_succ, List.getElem?_cons_zero]; rfl) (yields_run (by rfl) ?_) ?_; rotate_left; (focus (intro w' _; go_simp <;> with_reducible rfl)); (simp only [Act.put, List.setIfInBounds_toArray, List.set_cons_zero, List.set_cons_succ]))
              (refine plan3_take (o := ?_) (v := ?_) (by simp only [List.getElem?_toArray, List.getElem?_cons_succ, List.getElem?_cons_zero]; rfl) (yields_run (by rfl) ?_) ?_; rotate_left; (focus (intro w' _; go_simp <;> with_reducible rfl)); (simp only [Act.put, List.setIfInBounds_toArray, List.set_cons_zero, List.set_cons_succ]))
              (refine plan3_take (o := ?_) (v := ?_) (by simp only [List.getElem?_toArray, List.getElem?_cons_succ, List.getElem?_cons_zero]; rfl) (yields_run (by rfl) ?_) ?_; rotate_left; (focus (intro w' _; go_simp <;> with_reducible rfl)); (simp only [Act.put, List.setIfInBounds_toArray, List.set_cons_zero, List.set_cons_succ]))
              refine plan3_run (o := ?_) (by simp only [List.getElem?_toArray, List.getElem?_cons_succ, List.getElem?_cons_zero]; rfl) ?_
              intro R HR
              refine wpList_store_mid rfl 26 (.tmp 11) (.tmp 53) rfl Wz2.heap.size 0 (bc zd).toArray rfl rfl (by rw [dv_size zd zd_len]; exact K11.out.there (by simp)) (by rw [dv_size zd zd_len]; exact Tryd.size26) (all_oneCell_toArray (bc_one _)) ?_
              have HS' : Hid (Hid (Below Wr.heap.size Wr (Wz23.setCells Wz2.heap.size 0 (bc zd).toArray.toList))) := hide (hide (below_setCells HS.out.out HG11.out _ _))
              refine HR.out _ _ HS'.out ?_
              clear HR HS K11
              have HS := HS'
              clear HS'
              (simp only [Act.put])
              (refine plan3_take (o := ?_) (v := ?_) (by simp only [List.getElem?_toArray, List.getElem?_cons_succ, List.getElem?_cons_zero]; rfl) (yields_run (by rfl) ?_) ?_; rotate_left; (focus (intro w' _; go_simp <;> with_reducible rfl)); (simp only [Act.put, List.setIfInBounds_toArray, List.set_cons_zero, List.set_cons_succ]))
              refine plan3_done ?_
              exact ⟨_, _, _, _, _, rfl, hide HS.out.out⟩
          · intro R HR
            go_wp2_with fail
            rw [fold_dv d HDk.out]
            refine HR.out _ _ (show Hid (Below Wr.heap.size Wr (Wz1.alloc (.cells (bc d).toArray 26))) from hide (below_one HS.out.out (below_new _ _))) ?_
            clear HR
            refine plan3_named ?_
            intro Wz24 HWn
            have HS' : Hid (Hid (Below Wr.heap.size Wr Wz24)) := by
              have e : Wz24 = Wz1.alloc (.cells (bc d).toArray 26) := HWn.out
              subst e
              exact hide (hide (below_one HS.out.out (below_new _ _)))
            have HO' : Hid (Wz24.ownsRow Wr.heap.size 26 32 (.slice (some ⟨Wd.heap.size, 0, none⟩) 0 0) 0 (bc ([] : List (List UInt8)).flatten)) := by
              have e : Wz24 = Wz1.alloc (.cells (bc d).toArray 26) := HWn.out
              subst e
              exact hide (HO.out.alloc _)
            have K8' : Hid (Blk Wz24 Wz1.heap.size 26 (bc d)) := by
              have e : Wz24 = Wz1.alloc (.cells (bc d).toArray 26) := HWn.out
              subst e
              exact hide (Blk.new _ _ _)
            have N8' : Hid (¬ Wz1.heap.size = Wd.heap.size) := by
              have e : Wz24 = Wz1.alloc (.cells (bc d).toArray 26) := HWn.out
              subst e
              exact hide (by have h2 : Wd.heap.size < Wz1.heap.size := (HO.out.lt _ rfl).2; omega)
            clear HS HO
            have HS := HS'
            have HO := HO'
            have K8 := K8'
            have N8 := N8'
            clear HS' HO' K8' N8' HWn
            refine plan3_both (o1 := ?_) (o2 := ?_) (by simp only [List.getElem?_toArray, List.getElem?_cons_succ, List.getElem?_cons_zero]; rfl) (by simp only [List.getElem?_toArray, List.getElem?_cons_succ, List.getElem?_cons_zero]; rfl) ?_ ?_
            · intro R HR
              refine wpList_of_wp (by rfl) (wp_app26f (.tmp 46) (.tmp 47) rfl Wr.heap.size Wd.heap.size 0 0 [] rfl HO.out A2 p.length c2 p rfl (HC5.out.2.2.1.below HS.out.out) (by have := HFP.out; omega) HS.out.out.size p.length p (by omega) rfl ?_)
              intro g26 cp27 Wz25 ho hg hor
              have HS' : Hid (Hid (Below Wr.heap.size Wr Wz25)) := hide (hide (HS.out.out.grown hg HS.out.out.size (fun k hk => (HO.out.lt k hk).1)))
              have K8' : Hid (Blk Wz25 Wz1.heap.size 26 (bc d)) := hide ((hg.block _ K8.out.lt (fun e => N8.out (Option.some.inj e))).trans K8.out)
              have HO' : Hid (Wz25.ownsRow Wr.heap.size 26 32 (.slice (some ⟨g26, 0, none⟩) p.length cp27) p.length (bc p.flatten)) := hide ho
              clear HS K8 HO
              have HS := HS'
              have K8 := K8'
              have HO := HO'
              clear HS' K8' HO'
              clear ho hg hor
              refine HR.out _ _ HS.out ?_
              clear HR
              (simp only [Act.put, List.setIfInBounds_toArray, List.set_cons_zero, List.set_cons_succ])
              refine plan3_both (o1 := ?_) (o2 := ?_) (by simp only [List.getElem?_toArray, List.getElem?_cons_succ, List.getElem?_cons_zero]; rfl) (by simp only [List.getElem?_toArray, List.getElem?_cons_succ, List.getElem?_cons_zero]; rfl) ?_ ?_
              · intro R HR
                refine wpList_of_wp (by rfl) (wp_app26f (.tmp 48) (.tmp 50) rfl Wr.heap.size g26 p.length cp27 p rfl HO.out (some ⟨Wz1.heap.size, 0, none⟩) 1 1 [d] rfl (DSrc.one_of K8.out HDk.out) (by have := HFP.out; omega) HS.out.out.size (p.length + 1) (p ++ [d]) rfl rfl ?_)
                intro g29 cp30 Wz28 ho hg hor
                obtain ⟨A9, c9, e9, hQ⟩ := own_dsrc ho (HPD.out.append (D32.one HDk.out)) (by simp)
                cases e9
                have HS' : Hid (Hid (Below Wr.heap.size Wr Wz28)) := hide (hide (HS.out.out.grown hg HS.out.out.size (fun k hk => (HO.out.lt k hk).1)))
                have HQ9' : Hid (DSrc Wz28 (some ⟨g29, 0, none⟩) (p.length + 1) cp30 (p ++ [d])) := hide hQ
                clear HS
                have HS := HS'
                have HQ9 := HQ9'
                clear HS' HQ9'
                clear ho hg hor hQ HO
                refine HR.out _ _ HS.out ?_
                clear HR
                (simp only [Act.put, List.setIfInBounds_toArray, List.set_cons_zero, List.set_cons_succ])
                refine plan3_both (o1 := ?_) (o2 := ?_) (by simp only [List.getElem?_toArray, List.getElem?_cons_succ, List.getElem?_cons_zero]; rfl) (by simp only [List.getElem?_toArray, List.getElem?_cons_succ, List.getElem?_cons_zero]; rfl) ?_ ?_
                · intro R HR
                  go_wp2_with fail
                  refine (Climb_no5 d (p.length + 1) cp30 k N (some ⟨g29, 0, none⟩) Wz28 k N rfl rfl (by omega) (by omega) hlt (by have := HPS.out; omega)).mono ?_
                  rintro e Wz31 ⟨rfl, hb⟩
                  have HS' : Hid (Hid (Below Wr.heap.size Wr Wz31)) := hide (hide (below_one HS.out.out hb))
                  clear HS
                  have HS := HS'
                  clear HS'
                  clear hb
                  go_wp2_with fail
                  refine HR.out _ _ HS.out ?_
                  clear HR
                  (refine plan3_take (o := ?_) (v := ?_) (by simp only [List.getElem?_toArray, List.getElem?_cons_succ, List.getElem?_cons_zero]; rfl) (yields_run (by rfl) ?_) ?_; rotate_left; (focus (intro w' _; go_simp <;> with_reducible rfl)); (simp only [Act.put, List.setIfInBounds_toArray, List.set_cons_zero, List.set_cons_succ]))
                  (refine plan3_take (o := ?_) (v := ?_) (by simp only [List.getElem?_toArray, List.getElem?_cons_succ, List.getElem?_cons_zero]; rfl) (yields_run (by rfl) ?_) ?_; rotate_left; (focus (intro w' _; go_simp <;> with_reducible rfl)); (simp only [Act.put, List.setIfInBounds_toArray, List.set_cons_zero, List.set_cons_succ]))
                  (refine plan3_take (o := ?_) (v := ?_) (by simp only [List.getElem?_toArray, List.getElem?_cons_succ, List.getElem?_cons_zero]; rfl) (yields_run (by rfl) ?_) ?_; rotate_left; (focus (intro w' _; go_simp <;> with_reducible rfl)); (simp only [Act.put, List.setIfInBounds_toArray, List.set_cons_zero, List.set_cons_succ]))
                  refine plan3_run (o := ?_) (by simp only [List.getElem?_toArray, List.getElem?_cons_succ, List.getElem?_cons_zero]; rfl) ?_
                  intro R HR
                  go_wp2_with fail
                  refine HR.out _ _ (show Hid (Below Wr.heap.size Wr (Wz31.alloc (.cells (List.replicate 32 (.int .u8 0)).toArray 26))) from hide (below_one HS.out.out (below_new _ _))) ?_
                  clear HR
                  refine plan3_named ?_
                  intro Wz32 HWn
                  have HS' : Hid (Hid (Below Wr.heap.size Wr Wz32)) := by
                    have e : Wz32 = Wz31.alloc (.cells (List.replicate 32 (.int .u8 0)).toArray 26) := HWn.out
                    subst e
                    exact hide (hide (below_one HS.out.out (below_new _ _)))
                  have K11' : Hid (Blk Wz32 Wz31.heap.size 26 (List.replicate 32 (.int .u8 0))) := by
                    have e : Wz32 = Wz31.alloc (.cells (List.replicate 32 (.int .u8 0)).toArray 26) := HWn.out
                    subst e
                    exact hide (Blk.new _ _ _)
                  have HG11' : Hid (Wr.heap.size ≤ Wz31.heap.size) := by
                    have e : Wz32 = Wz31.alloc (.cells (List.replicate 32 (.int .u8 0)).toArray 26) := HWn.out
                    subst e
                    exact hide HS.out.out.size
                  clear HS
                  have HS := HS'
                  have K11 := K11'
                  have HG11 := HG11'
                  clear HS' K11' HG11' HWn
                  refine plan3_run (o := ?_) (by simp only [List.getElem?_toArray, List.getElem?_cons_succ, List.getElem?_cons_zero]; rfl) ?_
                  intro R HR
                  refine wpList_store_mid rfl 26 (.tmp 11) (.tmp 53) rfl Wz31.heap.size 0 (bc zd).toArray rfl rfl (by rw [dv_size zd zd_len]; exact K11.out.there (by simp)) (by rw [dv_size zd zd_len]; exact Tryd.size26) (all_oneCell_toArray (bc_one _)) ?_
                  have HS' : Hid (Hid (Below Wr.heap.size Wr (Wz32.setCells Wz31.heap.size 0 (bc zd).toArray.toList))) := hide (hide (below_setCells HS.out.out HG11.out _ _))
                  refine HR.out _ _ HS'.out ?_
                  clear HR HS K11
                  have HS := HS'
                  clear HS'
                  (simp only [Act.put])
                  (refine plan3_take (o := ?_) (v := ?_) (by simp only [List.getElem?_toArray, List.getElem?_cons_succ, List.getElem?_cons_zero]; rfl) (yields_run (by rfl) ?_) ?_; rotate_left; (focus (intro w' _; go_simp <;> with_reducible rfl)); (simp only [Act.put, List.setIfInBounds_toArray, List.set_cons_zero, List.set_cons_succ]))
                  refine plan3_done ?_
                  exact ⟨_, _, _, _, _, rfl, hide HS.out.out⟩
                · intro R HR
                  go_wp2_with fail
                  refine HR.out _ _ (show Hid (Below Wr.heap.size Wr (Wz28.alloc (.cells (List.replicate 32 (.int .u8 0)).toArray 26))) from hide (below_one HS.out.out (below_new _ _))) ?_
                  clear HR
                  refine plan3_named ?_
                  intro Wz33 HWn
                  have HS' : Hid (Hid (Below Wr.heap.size Wr Wz33)) := by
                    have e : Wz33 = Wz28.alloc (.cells (List.replicate 32 (.int .u8 0)).toArray 26) := HWn.out
                    subst e
                    exact hide (hide (below_one HS.out.out (below_new _ _)))
                  have HQ9' : Hid (DSrc Wz33 (some ⟨g29, 0, none⟩) (p.length + 1) cp30 (p ++ [d])) := by
                    have e : Wz33 = Wz28.alloc (.cells (List.replicate 32 (.int .u8 0)).toArray 26) := HWn.out
                    subst e
                    exact hide (HQ9.out.below (below_new _ _))
                  have K11' : Hid (Blk Wz33 Wz28.heap.size 26 (List.replicate 32 (.int .u8 0))) := by
                    have e : Wz33 = Wz28.alloc (.cells (List.replicate 32 (.int .u8 0)).toArray 26) := HWn.out
                    subst e
                    exact hide (Blk.new _ _ _)
                  have HG11' : Hid (Wr.heap.size ≤ Wz28.heap.size) := by
                    have e : Wz33 = Wz28.alloc (.cells (List.replicate 32 (.int .u8 0)).toArray 26) := HWn.out
                    subst e
                    exact hide HS.out.out.size
                  clear HS HQ9
                  have HS := HS'
                  have HQ9 := HQ9'
                  have K11 := K11'
                  have HG11 := HG11'
                  clear HS' HQ9' K11' HG11' HWn
                  refine plan3_run (o := ?_) (by simp only [List.getElem?_toArray, List.getElem?_cons_succ, List.getElem?_cons_zero]; rfl) ?_
                  intro R HR
                  go_wp2_with fail
                  refine (Climb_no5 d (p.length + 1) cp30 k N (some ⟨g29, 0, none⟩) Wz33 k N rfl rfl (by omega) (by omega) hlt (by have := HPS.out; omega)).mono ?_
                  rintro e Wz34 ⟨rfl, hb⟩
                  have HS' : Hid (Hid (Below Wr.heap.size Wr Wz34)) := hide (hide (below_one HS.out.out hb))
                  have K11' : Hid (Blk Wz34 Wz28.heap.size 26 (List.replicate 32 (.int .u8 0))) := hide (K11.out.below hb K11.out.lt)
                  clear HS K11
                  have HS := HS'
                  have K11 := K11'
                  clear HS' K11'
                  clear hb
                  go_wp2_with fail
                  refine HR.out _ _ HS.out ?_
                  clear HR
                  (refine plan3_take (o := ?_) (v := ?_) (by simp only [List.getElem?_toArray, List.getElem?_cons_succ, List.getElem?_cons_zero]; rfl) (yields_run (by rfl) ?_) ?_; rotate_left; (focus (intro w' _; go_simp <;> with_reducible rfl)); (simp only [Act.put, List.setIfInBounds_toArray, List.set_cons_zero, List.set_cons_succ]))
                  (refine plan3_take (o := ?_) (v := ?_) (by simp only [List.getElem?_toArray, List.getElem?_cons_succ, List.getElem?_cons_zero]; rfl) (yields_run (by rfl) ?_) ?_; rotate_left; (focus (intro w' _; go_simp <;> with_reducible rfl)); (simp only [Act.put, List.setIfInBounds_toArray, List.set_cons_zero, List.set_cons_succ]))
                  (refine plan3_take (o := ?_) (v := ?_) (by simp only [List.getElem?_toArray, List.getElem?_cons_succ, List.getElem?_cons_zero]; rfl) (yields_run (by rfl) ?_) ?_; rotate_left; (focus (intro w' _; go_simp <;> with_reducible rfl)); (simp only [Act.put, List.setIfInBounds_toArray, List.set_cons_zero, List.set_cons_succ]))
                  refine plan3_run (o := ?_) (by simp only [List.getElem?_toArray, List.getElem?_cons_succ, List.getElem?_cons_zero]; rfl) ?_
                  intro R HR
                  refine wpList_store_mid rfl 26 (.tmp 11) (.tmp 53) rfl Wz28.heap.size 0 (bc zd).toArray rfl rfl (by rw [dv_size zd zd_len]; exact K11.out.there (by simp)) (by rw [dv_size zd zd_len]; exact Tryd.size26) (all_oneCell_toArray (bc_one _)) ?_
                  have HS' : Hid (Hid (Below Wr.heap.size Wr (Wz34.setCells Wz28.heap.size 0 (bc zd).toArray.toList))) := hide (hide (below_setCells HS.out.out HG11.out _ _))
                  refine HR.out _ _ HS'.out ?_
                  clear HR HS K11
                  have HS := HS'
                  clear HS'
                  (simp only [Act.put])
                  (refine plan3_take (o := ?_) (v := ?_) (by simp only [List.getElem?_toArray, List.getElem?_cons_succ, List.getElem?_cons_zero]; rfl) (yields_run (by rfl) ?_) ?_; rotate_left; (focus (intro w' _; go_simp <;> with_reducible rfl)); (simp only [Act.put, List.setIfInBounds_toArray, List.set_cons_zero, List.set_cons_succ]))
                  refine plan3_done ?_
                  exact ⟨_, _, _, _, _, rfl, hide HS.out.out⟩
              · intro R HR
                go_wp2_with fail
                refine HR.out _ _ (show Hid (Below Wr.heap.size Wr (Wz25.alloc (.cells (List.replicate 32 (.int .u8 0)).toArray 26))) from hide (below_one HS.out.out (below_new _ _))) ?_
                clear HR
                refine plan3_named ?_
                intro Wz35 HWn
                have HS' : Hid (Hid (Below Wr.heap.size Wr Wz35)) := by
                  have e : Wz35 = Wz25.alloc (.cells (List.replicate 32 (.int .u8 0)).toArray 26) := HWn.out
                  subst e
                  exact hide (hide (below_one HS.out.out (below_new _ _)))
                have HO' : Hid (Wz35.ownsRow Wr.heap.size 26 32 (.slice (some ⟨g26, 0, none⟩) p.length cp27) p.length (bc p.flatten)) := by
                  have e : Wz35 = Wz25.alloc (.cells (List.replicate 32 (.int .u8 0)).toArray 26) := HWn.out
                  subst e
                  exact hide (HO.out.alloc _)
                have K8' : Hid (Blk Wz35 Wz1.heap.size 26 (bc d)) := by
                  have e : Wz35 = Wz25.alloc (.cells (List.replicate 32 (.int .u8 0)).toArray 26) := HWn.out
                  subst e
                  exact hide (K8.out.alloc _)
                have K11' : Hid (Blk Wz35 Wz25.heap.size 26 (List.replicate 32 (.int .u8 0))) := by
                  have e : Wz35 = Wz25.alloc (.cells (List.replicate 32 (.int .u8 0)).toArray 26) := HWn.out
                  subst e
                  exact hide (Blk.new _ _ _)
                have HG11' : Hid (Wr.heap.size ≤ Wz25.heap.size) := by
                  have e : Wz35 = Wz25.alloc (.cells (List.replicate 32 (.int .u8 0)).toArray 26) := HWn.out
                  subst e
                  exact hide HS.out.out.size
                have N11' : Hid (¬ Wz25.heap.size = g26) := by
                  have e : Wz35 = Wz25.alloc (.cells (List.replicate 32 (.int .u8 0)).toArray 26) := HWn.out
                  subst e
                  exact hide (by have h2 : g26 < Wz25.heap.size := (HO.out.lt _ rfl).2; omega)
                clear HS HO K8
                have HS := HS'
                have HO := HO'
                have K8 := K8'
                have K11 := K11'
                have HG11 := HG11'
                have N11 := N11'
                clear HS' HO' K8' K11' HG11' N11' HWn
                refine plan3_run (o := ?_) (by simp only [List.getElem?_toArray, List.getElem?_cons_succ, List.getElem?_cons_zero]; rfl) ?_
                intro R HR
                refine wpList_of_wp (by rfl) (wp_app26f (.tmp 48) (.tmp 50) rfl Wr.heap.size g26 p.length cp27 p rfl HO.out (some ⟨Wz1.heap.size, 0, none⟩) 1 1 [d] rfl (DSrc.one_of K8.out HDk.out) (by have := HFP.out; omega) HS.out.out.size (p.length + 1) (p ++ [d]) rfl rfl ?_)
                intro g37 cp38 Wz36 ho hg hor
                obtain ⟨A9, c9, e9, hQ⟩ := own_dsrc ho (HPD.out.append (D32.one HDk.out)) (by simp)
                cases e9
                have HS' : Hid (Hid (Below Wr.heap.size Wr Wz36)) := hide (hide (HS.out.out.grown hg HS.out.out.size (fun k hk => (HO.out.lt k hk).1)))
                have K11' : Hid (Blk Wz36 Wz25.heap.size 26 (List.replicate 32 (.int .u8 0))) := hide ((hg.block _ K11.out.lt (fun e => N11.out (Option.some.inj e))).trans K11.out)
                have HQ9' : Hid (DSrc Wz36 (some ⟨g37, 0, none⟩) (p.length + 1) cp38 (p ++ [d])) := hide hQ
                clear HS K11
                have HS := HS'
                have K11 := K11'
                have HQ9 := HQ9'
                clear HS' K11' HQ9'
                clear ho hg hor hQ HO
                refine HR.out _ _ HS.out ?_
                clear HR
                (simp only [Act.put, List.setIfInBounds_toArray, List.set_cons_zero, List.set_cons_succ])
                refine plan3_run (o := ?_) (by simp only [List.getElem?_toArray, List.getElem?_cons_succ, List.getElem?_cons_zero]; rfl) ?_
                intro R HR
                go_wp2_with fail
                refine (Climb_no5 d (p.length + 1) cp38 k N (some ⟨g37, 0, none⟩) Wz36 k N rfl rfl (by omega) (by omega) hlt (by have := HPS.out; omega)).mono ?_
                rintro e Wz39 ⟨rfl, hb⟩
                have HS' : Hid (Hid (Below Wr.heap.size Wr Wz39)) := hide (hide (below_one HS.out.out hb))
                have K11' : Hid (Blk Wz39 Wz25.heap.size 26 (List.replicate 32 (.int .u8 0))) := hide (K11.out.below hb K11.out.lt)
                clear HS K11
                have HS := HS'
                have K11 := K11'
                clear HS' K11'
                clear hb
                go_wp2_with fail
                refine HR.out _ _ HS.out ?_
                clear HR
                (refine plan3_take (o := ?_) (v := ?_) (by simp only [List.getElem?_toArray, List.getElem?_cons_succ, List.getElem?_cons_zero]; rfl) (yields_run (by rfl) ?_) ?_; rotate_left; (focus (intro w' _; go_simp <;> with_reducible rfl)); (simp only [Act.put, List.setIfInBounds_toArray, List.set_cons_zero, List.set_cons_succ]))
                (refine plan3_take (o := ?_) (v := ?_) (by simp only [List.getElem?_toArray, List.getElem?_cons_succ, List.getElem?_cons_zero]; rfl) (yields_run (by rfl) ?_) ?_; rotate_left; (focus (intro w' _; go_simp <;> with_reducible rfl)); (simp only [Act.put, List.setIfInBounds_toArray, List.set_cons_zero, List.set_cons_succ]))
                (refine plan3_take (o := ?_) (v := ?_) (by simp only [List.getElem?_toArray, List.getElem?_cons_succ, List.getElem?_cons_zero]; rfl) (yields_run (by rfl) ?_) ?_; rotate_left; (focus (intro w' _; go_simp <;> with_reducible rfl)); (simp only [Act.put, List.setIfInBounds_toArray, List.set_cons_zero, List.set_cons_succ]))
                refine plan3_run (o := ?_) (by simp only [List.getElem?_toArray, List.getElem?_cons_succ, List.getElem?_cons_zero]; rfl) ?_
                intro R HR
                refine wpList_store_mid rfl 26 (.tmp 11) (.tmp 53) rfl Wz25.heap.size 0 (bc zd).toArray rfl rfl (by rw [dv_size zd zd_len]; exact K11.out.there (by simp)) (by rw [dv_size zd zd_len]; exact Tryd.size26) (all_oneCell_toArray (bc_one _)) ?_
                have HS' : Hid (Hid (Below Wr.heap.size Wr (Wz39.setCells Wz25.heap.size 0 (bc zd).toArray.toList))) := hide (hide (below_setCells HS.out.out HG11.out _ _))
                refine HR.out _ _ HS'.out ?_
                clear HR HS K11
                have HS := HS'
                clear HS'
                (simp only [Act.put])
                (refine plan3_take (o := ?_) (v := ?_) (by simp only [List.getElem?_toArray, List.getElem?_cons_succ, List.getElem?_cons_zero]; rfl) (yields_run (by rfl) ?_) ?_; rotate_left; (focus (intro w' _; go_simp <;> with_reducible rfl)); (simp only [Act.put, List.setIfInBounds_toArray, List.set_cons_zero, List.set_cons_succ]))
                refine plan3_done ?_
                exact ⟨_, _, _, _, _, rfl, hide HS.out.out⟩
            · intro R HR
              go_wp2_with fail
              refine HR.out _ _ (show Hid (Below Wr.heap.size Wr (Wz24.alloc (.cells (List.replicate 32 (.int .u8 0)).toArray 26))) from hide (below_one HS.out.out (below_new _ _))) ?_
              clear HR
              refine plan3_named ?_
              intro Wz40 HWn
              have HS' : Hid (Hid (Below Wr.heap.size Wr Wz40)) := by
                have e : Wz40 = Wz24.alloc (.cells (List.replicate 32 (.int .u8 0)).toArray 26) := HWn.out
                subst e
                exact hide (hide (below_one HS.out.out (below_new _ _)))
              have HO' : Hid (Wz40.ownsRow Wr.heap.size 26 32 (.slice (some ⟨Wd.heap.size, 0, none⟩) 0 0) 0 (bc ([] : List (List UInt8)).flatten)) := by
                have e : Wz40 = Wz24.alloc (.cells (List.replicate 32 (.int .u8 0)).toArray 26) := HWn.out
                subst e
                exact hide (HO.out.alloc _)
              have K8' : Hid (Blk Wz40 Wz1.heap.size 26 (bc d)) := by
                have e : Wz40 = Wz24.alloc (.cells (List.replicate 32 (.int .u8 0)).toArray 26) := HWn.out
                subst e
                exact hide (K8.out.alloc _)
              have K11' : Hid (Blk Wz40 Wz24.heap.size 26 (List.replicate 32 (.int .u8 0))) := by
                have e : Wz40 = Wz24.alloc (.cells (List.replicate 32 (.int .u8 0)).toArray 26) := HWn.out
                subst e
                exact hide (Blk.new _ _ _)
              have HG11' : Hid (Wr.heap.size ≤ Wz24.heap.size) := by
                have e : Wz40 = Wz24.alloc (.cells (List.replicate 32 (.int .u8 0)).toArray 26) := HWn.out
                subst e
                exact hide HS.out.out.size
              have N11' : Hid (¬ Wz24.heap.size = Wd.heap.size) := by
                have e : Wz40 = Wz24.alloc (.cells (List.replicate 32 (.int .u8 0)).toArray 26) := HWn.out
                subst e
                exact hide (by have h2 : Wd.heap.size < Wz24.heap.size := (HO.out.lt _ rfl).2; omega)
              clear HS HO K8
              have HS := HS'
              have HO := HO'
              have K8 := K8'
              have K11 := K11'
              have HG11 := HG11'
              have N11 := N11'
              clear HS' HO' K8' K11' HG11' N11' HWn
              refine plan3_run (o := ?_) (by simp only [List.getElem?_toArray, List.getElem?_cons_succ, List.getElem?_cons_zero]; rfl) ?_
              intro R HR
              refine wpList_of_wp (by rfl) (wp_app26f (.tmp 46) (.tmp 47) rfl Wr.heap.size Wd.heap.size 0 0 [] rfl HO.out A2 p.length c2 p rfl (HC5.out.2.2.1.below HS.out.out) (by have := HFP.out; omega) HS.out.out.size p.length p (by omega) rfl ?_)
              intro g42 cp43 Wz41 ho hg hor
              have HS' : Hid (Hid (Below Wr.heap.size Wr Wz41)) := hide (hide (HS.out.out.grown hg HS.out.out.size (fun k hk => (HO.out.lt k hk).1)))
              have K8' : Hid (Blk Wz41 Wz1.heap.size 26 (bc d)) := hide ((hg.block _ K8.out.lt (fun e => N8.out (Option.some.inj e))).trans K8.out)
              have K11' : Hid (Blk Wz41 Wz24.heap.size 26 (List.replicate 32 (.int .u8 0))) := hide ((hg.block _ K11.out.lt (fun e => N11.out (Option.some.inj e))).trans K11.out)
              have N11' : Hid (¬ Wz24.heap.size = g42) := hide (by have h1 := N11.out; have h2 := K11.out.lt; rcases hor with e | e <;> rw [e] <;> omega)
              have HO' : Hid (Wz41.ownsRow Wr.heap.size 26 32 (.slice (some ⟨g42, 0, none⟩) p.length cp43) p.length (bc p.flatten)) := hide ho
              clear HS K8 K11 N11 HO
              have HS := HS'
              have K8 := K8'
              have K11 := K11'
              have N11 := N11'
              have HO := HO'
              clear HS' K8' K11' N11' HO'
              clear ho hg hor
              refine HR.out _ _ HS.out ?_
              clear HR
              (simp only [Act.put, List.setIfInBounds_toArray, List.set_cons_zero, List.set_cons_succ])
              refine plan3_run (o := ?_) (by simp only [List.getElem?_toArray, List.getElem?_cons_succ, List.getElem?_cons_zero]; rfl) ?_
              intro R HR
              refine wpList_of_wp (by rfl) (wp_app26f (.tmp 48) (.tmp 50) rfl Wr.heap.size g42 p.length cp43 p rfl HO.out (some ⟨Wz1.heap.size, 0, none⟩) 1 1 [d] rfl (DSrc.one_of K8.out HDk.out) (by have := HFP.out; omega) HS.out.out.size (p.length + 1) (p ++ [d]) rfl rfl ?_)
              intro g45 cp46 Wz44 ho hg hor
              obtain ⟨A9, c9, e9, hQ⟩ := own_dsrc ho (HPD.out.append (D32.one HDk.out)) (by simp)
              cases e9
              have HS' : Hid (Hid (Below Wr.heap.size Wr Wz44)) := hide (hide (HS.out.out.grown hg HS.out.out.size (fun k hk => (HO.out.lt k hk).1)))
              have K11' : Hid (Blk Wz44 Wz24.heap.size 26 (List.replicate 32 (.int .u8 0))) := hide ((hg.block _ K11.out.lt (fun e => N11.out (Option.some.inj e))).trans K11.out)
              have HQ9' : Hid (DSrc Wz44 (some ⟨g45, 0, none⟩) (p.length + 1) cp46 (p ++ [d])) := hide hQ
              clear HS K11
              have HS := HS'
              have K11 := K11'
              have HQ9 := HQ9'
              clear HS' K11' HQ9'
              clear ho hg hor hQ HO
              refine HR.out _ _ HS.out ?_
              clear HR
              (simp only [Act.put, List.setIfInBounds_toArray, List.set_cons_zero, List.set_cons_succ])
              refine plan3_run (o := ?_) (by simp only [List.getElem?_toArray, List.getElem?_cons_succ, List.getElem?_cons_zero]; rfl) ?_
              intro R HR
              go_wp2_with fail
              refine (Climb_no5 d (p.length + 1) cp46 k N (some ⟨g45, 0, none⟩) Wz44 k N rfl rfl (by omega) (by omega) hlt (by have := HPS.out; omega)).mono ?_
              rintro e Wz47 ⟨rfl, hb⟩
              have HS' : Hid (Hid (Below Wr.heap.size Wr Wz47)) := hide (hide (below_one HS.out.out hb))
              have K11' : Hid (Blk Wz47 Wz24.heap.size 26 (List.replicate 32 (.int .u8 0))) := hide (K11.out.below hb K11.out.lt)
              clear HS K11
              have HS := HS'
              have K11 := K11'
              clear HS' K11'
              clear hb
              go_wp2_with fail
              refine HR.out _ _ HS.out ?_
              clear HR
              (refine plan3_take (o := ?_) (v := ?_) (by simp only [List.getElem?_toArray, List.getElem?_cons_succ, List.getElem?_cons_zero]; rfl) (yields_run (by rfl) ?_) ?_; rotate_left; (focus (intro w' _; go_simp <;> with_reducible rfl)); (simp only [Act.put, List.setIfInBounds_toArray, List.set_cons_zero, List.set_cons_succ]))
              (refine plan3_take (o := ?_) (v := ?_) (by simp only [List.getElem?_toArray, List.getElem?_cons_succ, List.getElem?_cons_zero]; rfl) (yields_run (by rfl) ?_) ?_; rotate_left; (focus (intro w' _; go_simp <;> with_reducible rfl)); (simp only [Act.put, List.setIfInBounds_toArray, List.set_cons_zero, List.set_cons_succ]))
              (refine plan3_take (o := ?_) (v := ?_) (by simp only [List.getElem?_toArray, List.getElem?_cons_succ, List.getElem?_cons_zero]; rfl) (yields_run (by rfl) ?_) ?_; rotate_left; (focus (intro w' _; go_simp <;> with_reducible rfl)); (simp only [Act.put, List.setIfInBounds_toArray, List.set_cons_zero, List.set_cons_succ]))
              refine plan3_run (o := ?_) (by simp only [List.getElem?_toArray, List.getElem?_cons_succ, List.getElem?_cons_zero]; rfl) ?_
              intro R HR
              refine wpList_store_mid rfl 26 (.tmp 11) (.tmp 53) rfl Wz24.heap.size 0 (bc zd).toArray rfl rfl (by rw [dv_size zd zd_len]; exact K11.out.there (by simp)) (by rw [dv_size zd zd_len]; exact Tryd.size26) (all_oneCell_toArray (bc_one _)) ?_
              have HS' : Hid (Hid (Below Wr.heap.size Wr (Wz47.setCells Wz24.heap.size 0 (bc zd).toArray.toList))) := hide (hide (below_setCells HS.out.out HG11.out _ _))
              refine HR.out _ _ HS'.out ?_
              clear HR HS K11
              have HS := HS'
              clear HS'
              (simp only [Act.put])
              (refine plan3_take (o := ?_) (v := ?_) (by simp only [List.getElem?_toArray, List.getElem?_cons_succ, List.getElem?_cons_zero]; rfl) (yields_run (by rfl) ?_) ?_; rotate_left; (focus (intro w' _; go_simp <;> with_reducible rfl)); (simp only [Act.put, List.setIfInBounds_toArray, List.set_cons_zero, List.set_cons_succ]))
              refine plan3_done ?_
              exact ⟨_, _, _, _, _, rfl, hide HS.out.out⟩
          · intro R HR
            go_wp2_with fail
            refine HR.out _ _ (show Hid (Below Wr.heap.size Wr (Wz1.alloc (.cells (List.replicate 32 (.int .u8 0)).toArray 26))) from hide (below_one HS.out.out (below_new _ _))) ?_
            clear HR
            refine plan3_named ?_
            intro Wz48 HWn
            have HS' : Hid (Hid (Below Wr.heap.size Wr Wz48)) := by
              have e : Wz48 = Wz1.alloc (.cells (List.replicate 32 (.int .u8 0)).toArray 26) := HWn.out
              subst e
              exact hide (hide (below_one HS.out.out (below_new _ _)))
            have HO' : Hid (Wz48.ownsRow Wr.heap.size 26 32 (.slice (some ⟨Wd.heap.size, 0, none⟩) 0 0) 0 (bc ([] : List (List UInt8)).flatten)) := by
              have e : Wz48 = Wz1.alloc (.cells (List.replicate 32 (.int .u8 0)).toArray 26) := HWn.out
              subst e
              exact hide (HO.out.alloc _)
            have K11' : Hid (Blk Wz48 Wz1.heap.size 26 (List.replicate 32 (.int .u8 0))) := by
              have e : Wz48 = Wz1.alloc (.cells (List.replicate 32 (.int .u8 0)).toArray 26) := HWn.out
              subst e
              exact hide (Blk.new _ _ _)
            have HG11' : Hid (Wr.heap.size ≤ Wz1.heap.size) := by
              have e : Wz48 = Wz1.alloc (.cells (List.replicate 32 (.int .u8 0)).toArray 26) := HWn.out
              subst e
              exact hide HS.out.out.size
            have N11' : Hid (¬ Wz1.heap.size = Wd.heap.size) := by
              have e : Wz48 = Wz1.alloc (.cells (List.replicate 32 (.int .u8 0)).toArray 26) := HWn.out
              subst e
              exact hide (by have h2 : Wd.heap.size < Wz1.heap.size := (HO.out.lt _ rfl).2; omega)
            clear HS HO
            have HS := HS'
            have HO := HO'
            have K11 := K11'
            have HG11 := HG11'
            have N11 := N11'
            clear HS' HO' K11' HG11' N11' HWn
            refine plan3_both (o1 := ?_) (o2 := ?_) (by simp only [List.getElem?_toArray, List.getElem?_cons_succ, List.getElem?_cons_zero]; rfl) (by simp only [List.getElem?_toArray, List.getElem?_cons_succ, List.getElem?_cons_zero]; rfl) ?_ ?_
            · intro R HR
              refine wpList_of_wp (by rfl) (wp_app26f (.tmp 46) (.tmp 47) rfl Wr.heap.size Wd.heap.size 0 0 [] rfl HO.out A2 p.length c2 p rfl (HC5.out.2.2.1.below HS.out.out) (by have := HFP.out; omega) HS.out.out.size p.length p (by omega) rfl ?_)
              intro g50 cp51 Wz49 ho hg hor
              have HS' : Hid (Hid (Below Wr.heap.size Wr Wz49)) := hide (hide (HS.out.out.grown hg HS.out.out.size (fun k hk => (HO.out.lt k hk).1)))
              have K11' : Hid (Blk Wz49 Wz1.heap.size 26 (List.replicate 32 (.int .u8 0))) := hide ((hg.block _ K11.out.lt (fun e => N11.out (Option.some.inj e))).trans K11.out)
              have N11' : Hid (¬ Wz1.heap.size = g50) := hide (by have h1 := N11.out; have h2 := K11.out.lt; rcases hor with e | e <;> rw [e] <;> omega)
              have HO' : Hid (Wz49.ownsRow Wr.heap.size 26 32 (.slice (some ⟨g50, 0, none⟩) p.length cp51) p.length (bc p.flatten)) := hide ho
              clear HS K11 N11 HO
              have HS := HS'
              have K11 := K11'
              have N11 := N11'
              have HO := HO'
              clear HS' K11' N11' HO'
              clear ho hg hor
              refine HR.out _ _ HS.out ?_
              clear HR
              (simp only [Act.put, List.setIfInBounds_toArray, List.set_cons_zero, List.set_cons_succ])
              refine plan3_run (o := ?_) (by simp only [List.getElem?_toArray, List.getElem?_cons_succ, List.getElem?_cons_zero]; rfl) ?_
              intro R HR
              go_wp2_with fail
              rw [fold_dv d HDk.out]
              refine HR.out _ _ (show Hid (Below Wr.heap.size Wr (Wz49.alloc (.cells (bc d).toArray 26))) from hide (below_one HS.out.out (below_new _ _))) ?_
              clear HR
              refine plan3_named ?_
              intro Wz52 HWn
              have HS' : Hid (Hid (Below Wr.heap.size Wr Wz52)) := by
                have e : Wz52 = Wz49.alloc (.cells (bc d).toArray 26) := HWn.out
                subst e
                exact hide (hide (below_one HS.out.out (below_new _ _)))
              have HO' : Hid (Wz52.ownsRow Wr.heap.size 26 32 (.slice (some ⟨g50, 0, none⟩) p.length cp51) p.length (bc p.flatten)) := by
                have e : Wz52 = Wz49.alloc (.cells (bc d).toArray 26) := HWn.out
                subst e
                exact hide (HO.out.alloc _)
              have K11' : Hid (Blk Wz52 Wz1.heap.size 26 (List.replicate 32 (.int .u8 0))) := by
                have e : Wz52 = Wz49.alloc (.cells (bc d).toArray 26) := HWn.out
                subst e
                exact hide (K11.out.alloc _)
              have K8' : Hid (Blk Wz52 Wz49.heap.size 26 (bc d)) := by
                have e : Wz52 = Wz49.alloc (.cells (bc d).toArray 26) := HWn.out
                subst e
                exact hide (Blk.new _ _ _)
              clear HS HO K11
              have HS := HS'
              have HO := HO'
              have K11 := K11'
              have K8 := K8'
              clear HS' HO' K11' K8' HWn
              refine plan3_run (o := ?_) (by simp only [List.getElem?_toArray, List.getElem?_cons_succ, List.getElem?_cons_zero]; rfl) ?_
              intro R HR
              refine wpList_of_wp (by rfl) (wp_app26f (.tmp 48) (.tmp 50) rfl Wr.heap.size g50 p.length cp51 p rfl HO.out (some ⟨Wz49.heap.size, 0, none⟩) 1 1 [d] rfl (DSrc.one_of K8.out HDk.out) (by have := HFP.out; omega) HS.out.out.size (p.length + 1) (p ++ [d]) rfl rfl ?_)
              intro g54 cp55 Wz53 ho hg hor
              obtain ⟨A9, c9, e9, hQ⟩ := own_dsrc ho (HPD.out.append (D32.one HDk.out)) (by simp)
              cases e9
              have HS' : Hid (Hid (Below Wr.heap.size Wr Wz53)) := hide (hide (HS.out.out.grown hg HS.out.out.size (fun k hk => (HO.out.lt k hk).1)))
              have K11' : Hid (Blk Wz53 Wz1.heap.size 26 (List.replicate 32 (.int .u8 0))) := hide ((hg.block _ K11.out.lt (fun e => N11.out (Option.some.inj e))).trans K11.out)
              have HQ9' : Hid (DSrc Wz53 (some ⟨g54, 0, none⟩) (p.length + 1) cp55 (p ++ [d])) := hide hQ
              clear HS K11
              have HS := HS'
              have K11 := K11'
              have HQ9 := HQ9'
              clear HS' K11' HQ9'
              clear ho hg hor hQ HO
              refine HR.out _ _ HS.out ?_
              clear HR
              (simp only [Act.put, List.setIfInBounds_toArray, List.set_cons_zero, List.set_cons_succ])
              refine plan3_run (o := ?_) (by simp only [List.getElem?_toArray, List.getElem?_cons_succ, List.getElem?_cons_zero]; rfl) ?_
              intro R HR
              go_wp2_with fail
              refine (Climb_no5 d (p.length + 1) cp55 k N (some ⟨g54, 0, none⟩) Wz53 k N rfl rfl (by omega) (by omega) hlt (by have := HPS.out; omega)).mono ?_
              rintro e Wz56 ⟨rfl, hb⟩
              have HS' : Hid (Hid (Below Wr.heap.size Wr Wz56)) := hide (hide (below_one HS.out.out hb))
              have K11' : Hid (Blk Wz56 Wz1.heap.size 26 (List.replicate 32 (.int .u8 0))) := hide (K11.out.below hb K11.out.lt)
              clear HS K11
              have HS := HS'
              have K11 := K11'
              clear HS' K11'
              clear hb
              go_wp2_with fail
              refine HR.out _ _ HS.out ?_
              clear HR
              (refine plan3_take (o := ?_) (v := ?_) (by simp only [List.getElem?_toArray, List.getElem?_cons_succ, List.getElem?_cons_zero]; rfl) (yields_run (by rfl) ?_) ?_; rotate_left; (focus (intro w' _; go_simp <;> with_reducible rfl)); (simp only [Act.put, List.setIfInBounds_toArray, List.set_cons_zero, List.set_cons_succ]))
              (refine plan3_take (o := ?_) (v := ?_) (by simp only [List.getElem?_toArray, List.getElem?_cons_succ, List.getElem?_cons_zero]; rfl) (yields_run (by rfl) ?_) ?_; rotate_left; (focus (intro w' _; go_simp <;> with_reducible rfl)); (simp only [Act.put, List.setIfInBounds_toArray, List.set_cons_zero, List.set_cons_succ]))
              (refine plan3_take (o := ?_) (v := ?_) (by simp only [List.getElem?_toArray, List.getElem?_cons_succ, List.getElem?_cons_zero]; rfl) (yields_run (by rfl) ?_) ?_; rotate_left; (focus (intro w' _; go_simp <;> with_reducible rfl)); (simp only [Act.put, List.setIfInBounds_toArray, List.set_cons_zero, List.set_cons_succ]))
              refine plan3_run (o := ?_) (by simp only [List.getElem?_toArray, List.getElem?_cons_succ, List.getElem?_cons_zero]; rfl) ?_
              intro R HR
              refine wpList_store_mid rfl 26 (.tmp 11) (.tmp 53) rfl Wz1.heap.size 0 (bc zd).toArray rfl rfl (by rw [dv_size zd zd_len]; exact K11.out.there (by simp)) (by rw [dv_size zd zd_len]; exact Tryd.size26) (all_oneCell_toArray (bc_one _)) ?_
              have HS' : Hid (Hid (Below Wr.heap.size Wr (Wz56.setCells Wz1.heap.size 0 (bc zd).toArray.toList))) := hide (hide (below_setCells HS.out.out HG11.out _ _))
              refine HR.out _ _ HS'.out ?_
              clear HR HS K11
              have HS := HS'
              clear HS'
              (simp only [Act.put])
              (refine plan3_take (o := ?_) (v := ?_) (by simp only [List.getElem?_toArray, List.getElem?_cons_succ, List.getElem?_cons_zero]; rfl) (yields_run (by rfl) ?_) ?_; rotate_left; (focus (intro w' _; go_simp <;> with_reducible rfl)); (simp only [Act.put, List.setIfInBounds_toArray, List.set_cons_zero, List.set_cons_succ]))
              refine plan3_done ?_
              exact ⟨_, _, _, _, _, rfl, hide HS.out.out⟩
            · intro R HR
              go_wp2_with fail
              rw [fold_dv d HDk.out]
              refine HR.out _ _ (show Hid (Below Wr.heap.size Wr (Wz48.alloc (.cells (bc d).toArray 26))) from hide (below_one HS.out.out (below_new _ _))) ?_
              clear HR
              refine plan3_named ?_
              intro Wz57 HWn
              have HS' : Hid (Hid (Below Wr.heap.size Wr Wz57)) := by
                have e : Wz57 = Wz48.alloc (.cells (bc d).toArray 26) := HWn.out
                subst e
                exact hide (hide (below_one HS.out.out (below_new _ _)))
              have HO' : Hid (Wz57.ownsRow Wr.heap.size 26 32 (.slice (some ⟨Wd.heap.size, 0, none⟩) 0 0) 0 (bc ([] : List (List UInt8)).flatten)) := by
                have e : Wz57 = Wz48.alloc (.cells (bc d).toArray 26) := HWn.out
                subst e
                exact hide (HO.out.alloc _)
              have K11' : Hid (Blk Wz57 Wz1.heap.size 26 (List.replicate 32 (.int .u8 0))) := by
                have e : Wz57 = Wz48.alloc (.cells (bc d).toArray 26) := HWn.out
                subst e
                exact hide (K11.out.alloc _)
              have K8' : Hid (Blk Wz57 Wz48.heap.size 26 (bc d)) := by
                have e : Wz57 = Wz48.alloc (.cells (bc d).toArray 26) := HWn.out
                subst e
                exact hide (Blk.new _ _ _)
              have N8' : Hid (¬ Wz48.heap.size = Wd.heap.size) := by
                have e : Wz57 = Wz48.alloc (.cells (bc d).toArray 26) := HWn.out
                subst e
                exact hide (by have h2 : Wd.heap.size < Wz48.heap.size := (HO.out.lt _ rfl).2; omega)
              clear HS HO K11
              have HS := HS'
              have HO := HO'
              have K11 := K11'
              have K8 := K8'
              have N8 := N8'
              clear HS' HO' K11' K8' N8' HWn
              refine plan3_run (o := ?_) (by simp only [List.getElem?_toArray, List.getElem?_cons_succ, List.getElem?_cons_zero]; rfl) ?_
              intro R HR
              refine wpList_of_wp (by rfl) (wp_app26f (.tmp 46) (.tmp 47) rfl Wr.heap.size Wd.heap.size 0 0 [] rfl HO.out A2 p.length c2 p rfl (HC5.out.2.2.1.below HS.out.out) (by have := HFP.out; omega) HS.out.out.size p.length p (by omega) rfl ?_)
              intro g59 cp60 Wz58 ho hg hor
              have HS' : Hid (Hid (Below Wr.heap.size Wr Wz58)) := hide (hide (HS.out.out.grown hg HS.out.out.size (fun k hk => (HO.out.lt k hk).1)))
              have K8' : Hid (Blk Wz58 Wz48.heap.size 26 (bc d)) := hide ((hg.block _ K8.out.lt (fun e => N8.out (Option.some.inj e))).trans K8.out)
              have K11' : Hid (Blk Wz58 Wz1.heap.size 26 (List.replicate 32 (.int .u8 0))) := hide ((hg.block _ K11.out.lt (fun e => N11.out (Option.some.inj e))).trans K11.out)
              have N11' : Hid (¬ Wz1.heap.size = g59) := hide (by have h1 := N11.out; have h2 := K11.out.lt; rcases hor with e | e <;> rw [e] <;> omega)
              have HO' : Hid (Wz58.ownsRow Wr.heap.size 26 32 (.slice (some ⟨g59, 0, none⟩) p.length cp60) p.length (bc p.flatten)) := hide ho
              clear HS K8 K11 N11 HO
              have HS := HS'
              have K8 := K8'
              have K11 := K11'
              have N11 := N11'
              have HO := HO'
              clear HS' K8' K11' N11' HO'
              clear ho hg hor
              refine HR.out _ _ HS.out ?_
              clear HR
              (simp only [Act.put, List.setIfInBounds_toArray, List.set_cons_zero, List.set_cons_succ])
              refine plan3_run (o := ?_) (by simp only [List.getElem?_toArray, List.getElem?_cons_succ, List.getElem?_cons_zero]; rfl) ?_
              intro R HR
              refine wpList_of_wp (by rfl) (wp_app26f (.tmp 48) (.tmp 50) rfl Wr.heap.size g59 p.length cp60 p rfl HO.out (some ⟨Wz48.heap.size, 0, none⟩) 1 1 [d] rfl (DSrc.one_of K8.out HDk.out) (by have := HFP.out; omega) HS.out.out.size (p.length + 1) (p ++ [d]) rfl rfl ?_)
              intro g62 cp63 Wz61 ho hg hor
              obtain ⟨A9, c9, e9, hQ⟩ := own_dsrc ho (HPD.out.append (D32.one HDk.out)) (by simp)
              cases e9
              have HS' : Hid (Hid (Below Wr.heap.size Wr Wz61)) := hide (hide (HS.out.out.grown hg HS.out.out.size (fun k hk => (HO.out.lt k hk).1)))
              have K11' : Hid (Blk Wz61 Wz1.heap.size 26 (List.replicate 32 (.int .u8 0))) := hide ((hg.block _ K11.out.lt (fun e => N11.out (Option.some.inj e))).trans K11.out)
              have HQ9' : Hid (DSrc Wz61 (some ⟨g62, 0, none⟩) (p.length + 1) cp63 (p ++ [d])) := hide hQ
              clear HS K11
              have HS := HS'
              have K11 := K11'
              have HQ9 := HQ9'
              clear HS' K11' HQ9'
              clear ho hg hor hQ HO
              refine HR.out _ _ HS.out ?_
              clear HR
              (simp only [Act.put, List.setIfInBounds_toArray, List.set_cons_zero, List.set_cons_succ])
              refine plan3_run (o := ?_) (by simp only [List.getElem?_toArray, List.getElem?_cons_succ, List.getElem?_cons_zero]; rfl) ?_
              intro R HR
              go_wp2_with fail
              refine (Climb_no5 d (p.length + 1) cp63 k N (some ⟨g62, 0, none⟩) Wz61 k N rfl rfl (by omega) (by omega) hlt (by have := HPS.out; omega)).mono ?_
              rintro e Wz64 ⟨rfl, hb⟩
              have HS' : Hid (Hid (Below Wr.heap.size Wr Wz64)) := hide (hide (below_one HS.out.out hb))
              have K11' : Hid (Blk Wz64 Wz1.heap.size 26 (List.replicate 32 (.int .u8 0))) := hide (K11.out.below hb K11.out.lt)
              clear HS K11
              have HS := HS'
              have K11 := K11'
              clear HS' K11'
              clear hb
              go_wp2_with fail
              refine HR.out _ _ HS.out ?_
              clear HR
              (refine plan3_take (o := ?_) (v := ?_) (by simp only [List.getElem?_toArray, List.getElem?_cons_succ, List.getElem?_cons_zero]; rfl) (yields_run (by rfl) ?_) ?_; rotate_left; (focus (intro w' _; go_simp <;> with_reducible rfl)); (simp only [Act.put, List.setIfInBounds_toArray, List.set_cons_zero, List.set_cons_succ]))
              (refine plan3_take (o := ?_) (v := ?_) (by simp only [List.getElem?_toArray, List.getElem?_cons_succ, List.getElem?_cons_zero]; rfl) (yields_run (by rfl) ?_) ?_; rotate_left; (focus (intro w' _; go_simp <;> with_reducible rfl)); (simp only [Act.put, List.setIfInBounds_toArray, List.set_cons_zero, List.set_cons_succ]))
              (refine plan3_take (o := ?_) (v := ?_) (by simp only [List.getElem?_toArray, List.getElem?_cons_succ, List.getElem?_cons_zero]; rfl) (yields_run (by rfl) ?_) ?_; rotate_left; (focus (intro w' _; go_simp <;> with_reducible rfl)); (simp only [Act.put, List.setIfInBounds_toArray, List.set_cons_zero, List.set_cons_succ]))
              refine plan3_run (o := ?_) (by simp only [List.getElem?_toArray, List.getElem?_cons_succ, List.getElem?_cons_zero]; rfl) ?_
              intro R HR
              refine wpList_store_mid rfl 26 (.tmp 11) (.tmp 53) rfl Wz1.heap.size 0 (bc zd).toArray rfl rfl (by rw [dv_size zd zd_len]; exact K11.out.there (by simp)) (by rw [dv_size zd zd_len]; exact Tryd.size26) (all_oneCell_toArray (bc_one _)) ?_
              have HS' : Hid (Hid (Below Wr.heap.size Wr (Wz64.setCells Wz1.heap.size 0 (bc zd).toArray.toList))) := hide (hide (below_setCells HS.out.out HG11.out _ _))
              refine HR.out _ _ HS'.out ?_
              clear HR HS K11
              have HS := HS'
              clear HS'
              (simp only [Act.put])
              (refine plan3_take (o := ?_) (v := ?_) (by simp only [List.getElem?_toArray, List.getElem?_cons_succ, List.getElem?_cons_zero]; rfl) (yields_run (by rfl) ?_) ?_; rotate_left; (focus (intro w' _; go_simp <;> with_reducible rfl)); (simp only [Act.put, List.setIfInBounds_toArray, List.set_cons_zero, List.set_cons_succ]))
              refine plan3_done ?_
              exact ⟨_, _, _, _, _, rfl, hide HS.out.out⟩
        · intro R HR
          go_wp2_with fail
          rw [fold_dv d HDk.out]
          refine HR.out _ _ (show Hid (Below Wr.heap.size Wr (Wd.alloc (.cells (bc d).toArray 26))) from hide (below_one HS.out.out (below_new _ _))) ?_
          clear HR
          refine plan3_named ?_
          intro Wz65 HWn
          have HS' : Hid (Hid (Below Wr.heap.size Wr Wz65)) := by
            have e : Wz65 = Wd.alloc (.cells (bc d).toArray 26) := HWn.out
            subst e
            exact hide (hide (below_one HS.out.out (below_new _ _)))
          have K8' : Hid (Blk Wz65 Wd.heap.size 26 (bc d)) := by
            have e : Wz65 = Wd.alloc (.cells (bc d).toArray 26) := HWn.out
            subst e
            exact hide (Blk.new _ _ _)
          clear HS
          have HS := HS'
          have K8 := K8'
          clear HS' K8' HWn
          refine plan3_both (o1 := ?_) (o2 := ?_) (by simp only [List.getElem?_toArray, List.getElem?_cons_succ, List.getElem?_cons_zero]; rfl) (by simp only [List.getElem?_toArray, List.getElem?_cons_succ, List.getElem?_cons_zero]; rfl) ?_ ?_
          · intro R HR
            go_wp2_with fail
            refine HR.out _ _ (show Hid (Below Wr.heap.size Wr (Wz65.alloc (.cells #[] 26))) from hide (below_one HS.out.out (below_new _ _))) ?_
            clear HR
            refine plan3_named ?_
            intro Wz66 HWn
            have HS' : Hid (Hid (Below Wr.heap.size Wr Wz66)) := by
              have e : Wz66 = Wz65.alloc (.cells #[] 26) := HWn.out
              subst e
              exact hide (hide (below_one HS.out.out (below_new _ _)))
            have K8' : Hid (Blk Wz66 Wd.heap.size 26 (bc d)) := by
              have e : Wz66 = Wz65.alloc (.cells #[] 26) := HWn.out
              subst e
              exact hide (K8.out.alloc _)
            have HO' : Hid (Wz66.ownsRow Wr.heap.size 26 32 (.slice (some ⟨Wz65.heap.size, 0, none⟩) 0 0) 0 (bc ([] : List (List UInt8)).flatten)) := by
              have e : Wz66 = Wz65.alloc (.cells #[] 26) := HWn.out
              subst e
              exact hide (own_empty _ _ 26 26 32 rfl HS.out.out.size)
            have N8' : Hid (¬ Wd.heap.size = Wz65.heap.size) := by
              have e : Wz66 = Wz65.alloc (.cells #[] 26) := HWn.out
              subst e
              exact hide (by have := K8.out.lt; omega)
            clear HS K8
            have HS := HS'
            have K8 := K8'
            have HO := HO'
            have N8 := N8'
            clear HS' K8' HO' N8' HWn
            refine plan3_both (o1 := ?_) (o2 := ?_) (by simp only [List.getElem?_toArray, List.getElem?_cons_succ, List.getElem?_cons_zero]; rfl) (by simp only [List.getElem?_toArray, List.getElem?_cons_succ, List.getElem?_cons_zero]; rfl) ?_ ?_
            · intro R HR
              refine wpList_of_wp (by rfl) (wp_app26f (.tmp 46) (.tmp 47) rfl Wr.heap.size Wz65.heap.size 0 0 [] rfl HO.out A2 p.length c2 p rfl (HC5.out.2.2.1.below HS.out.out) (by have := HFP.out; omega) HS.out.out.size p.length p (by omega) rfl ?_)
              intro g68 cp69 Wz67 ho hg hor
              have HS' : Hid (Hid (Below Wr.heap.size Wr Wz67)) := hide (hide (HS.out.out.grown hg HS.out.out.size (fun k hk => (HO.out.lt k hk).1)))
              have K8' : Hid (Blk Wz67 Wd.heap.size 26 (bc d)) := hide ((hg.block _ K8.out.lt (fun e => N8.out (Option.some.inj e))).trans K8.out)
              have HO' : Hid (Wz67.ownsRow Wr.heap.size 26 32 (.slice (some ⟨g68, 0, none⟩) p.length cp69) p.length (bc p.flatten)) := hide ho
              clear HS K8 HO
              have HS := HS'
              have K8 := K8'
              have HO := HO'
              clear HS' K8' HO'
              clear ho hg hor
              refine HR.out _ _ HS.out ?_
              clear HR
              (simp only [Act.put, List.setIfInBounds_toArray, List.set_cons_zero, List.set_cons_succ])
              refine plan3_both (o1 := ?_) (o2 := ?_) (by simp only [List.getElem?_toArray, List.getElem?_cons_succ, List.getElem?_cons_zero]; rfl) (by simp only [List.getElem?_toArray, List.getElem?_cons_succ, List.getElem?_cons_zero]; rfl) ?_ ?_
              · intro R HR
                refine wpList_of_wp (by rfl) (wp_app26f (.tmp 48) (.tmp 50) rfl Wr.heap.size g68 p.length cp69 p rfl HO.out (some ⟨Wd.heap.size, 0, none⟩) 1 1 [d] rfl (DSrc.one_of K8.out HDk.out) (by have := HFP.out; omega) HS.out.out.size (p.length + 1) (p ++ [d]) rfl rfl ?_)
                intro g71 cp72 Wz70 ho hg hor
                obtain ⟨A9, c9, e9, hQ⟩ := own_dsrc ho (HPD.out.append (D32.one HDk.out)) (by simp)
                cases e9
                have HS' : Hid (Hid (Below Wr.heap.size Wr Wz70)) := hide (hide (HS.out.out.grown hg HS.out.out.size (fun k hk => (HO.out.lt k hk).1)))
                have HQ9' : Hid (DSrc Wz70 (some ⟨g71, 0, none⟩) (p.length + 1) cp72 (p ++ [d])) := hide hQ
                clear HS
                have HS := HS'
                have HQ9 := HQ9'
                clear HS' HQ9'
                clear ho hg hor hQ HO
                refine HR.out _ _ HS.out ?_
                clear HR
                (simp only [Act.put, List.setIfInBounds_toArray, List.set_cons_zero, List.set_cons_succ])
                refine plan3_both (o1 := ?_) (o2 := ?_) (by simp only [List.getElem?_toArray, List.getElem?_cons_succ, List.getElem?_cons_zero]; rfl) (by simp only [List.getElem?_toArray, List.getElem?_cons_succ, List.getElem?_cons_zero]; rfl) ?_ ?_
                · intro R HR
                  go_wp2_with fail
                  refine (Climb_no5 d (p.length + 1) cp72 k N (some ⟨g71, 0, none⟩) Wz70 k N rfl rfl (by omega) (by omega) hlt (by have := HPS.out; omega)).mono ?_
                  rintro e Wz73 ⟨rfl, hb⟩
                  have HS' : Hid (Hid (Below Wr.heap.size Wr Wz73)) := hide (hide (below_one HS.out.out hb))
                  clear HS
                  have HS := HS'
                  clear HS'
                  clear hb
                  go_wp2_with fail
                  refine HR.out _ _ HS.out ?_
                  clear HR
                  (refine plan3_take (o := ?_) (v := ?_) (by simp only [List.getElem?_toArray, List.getElem?_cons_succ, List.getElem?_cons_zero]; rfl) (yields_run (by rfl) ?_) ?_; rotate_left; (focus (intro w' _; go_simp <;> with_reducible rfl)); (simp only [Act.put, List.setIfInBounds_toArray, List.set_cons_zero, List.set_cons_succ]))
                  (refine plan3_take (o := ?_) (v := ?_) (by simp only [List.getElem?_toArray, List.getElem?_cons_succ, List.getElem?_cons_zero]; rfl) (yields_run (by rfl) ?_) ?_; rotate_left; (focus (intro w' _; go_simp <;> with_reducible rfl)); (simp only [Act.put, List.setIfInBounds_toArray, List.set_cons_zero, List.set_cons_succ]))
                  (refine plan3_take (o := ?_) (v := ?_) (by simp only [List.getElem?_toArray, List.getElem?_cons_succ, List.getElem?_cons_zero]; rfl) (yields_run (by rfl) ?_) ?_; rotate_left; (focus (intro w' _; go_simp <;> with_reducible rfl)); (simp only [Act.put, List.setIfInBounds_toArray, List.set_cons_zero, List.set_cons_succ]))
                  refine plan3_run (o := ?_) (by simp only [List.getElem?_toArray, List.getElem?_cons_succ, List.getElem?_cons_zero]; rfl) ?_
                  intro R HR
                  go_wp2_with fail
                  refine HR.out _ _ (show Hid (Below Wr.heap.size Wr (Wz73.alloc (.cells (List.replicate 32 (.int .u8 0)).toArray 26))) from hide (below_one HS.out.out (below_new _ _))) ?_
                  clear HR
                  refine plan3_named ?_
                  intro Wz74 HWn
                  have HS' : Hid (Hid (Below Wr.heap.size Wr Wz74)) := by
                    have e : Wz74 = Wz73.alloc (.cells (List.replicate 32 (.int .u8 0)).toArray 26) := HWn.out
                    subst e
                    exact hide (hide (below_one HS.out.out (below_new _ _)))
                  have K11' : Hid (Blk Wz74 Wz73.heap.size 26 (List.replicate 32 (.int .u8 0))) := by
                    have e : Wz74 = Wz73.alloc (.cells (List.replicate 32 (.int .u8 0)).toArray 26) := HWn.out
                    subst e
                    exact hide (Blk.new _ _ _)
                  have HG11' : Hid (Wr.heap.size ≤ Wz73.heap.size) := by
                    have e : Wz74 = Wz73.alloc (.cells (List.replicate 32 (.int .u8 0)).toArray 26) := HWn.out
                    subst e
                    exact hide HS.out.out.size
                  clear HS
                  have HS := HS'
                  have K11 := K11'
                  have HG11 := HG11'
                  clear HS' K11' HG11' HWn
                  refine plan3_run (o := ?_) (by simp only [List.getElem?_toArray, List.getElem?_cons_succ, List.getElem?_cons_zero]; rfl) ?_
                  intro R HR
                  refine wpList_store_mid rfl 26 (.tmp 11) (.tmp 53) rfl Wz73.heap.size 0 (bc zd).toArray rfl rfl (by rw [dv_size zd zd_len]; exact K11.out.there (by simp)) (by rw [dv_size zd zd_len]; exact Tryd.size26) (all_oneCell_toArray (bc_one _)) ?_
                  have HS' : Hid (Hid (Below Wr.heap.size Wr (Wz74.setCells Wz73.heap.size 0 (bc zd).toArray.toList))) := hide (hide (below_setCells HS.out.out HG11.out _ _))
                  refine HR.out _ _ HS'.out ?_
                  clear HR HS K11
                  have HS := HS'
                  clear HS'
                  (simp only [Act.put])
                  (refine plan3_take (o := ?_) (v := ?_) (by simp only [List.getElem?_toArray, List.getElem?_cons_succ, List.getElem?_cons_zero]; rfl) (yields_run (by rfl) ?_) ?_; rotate_left; (focus (intro w' _; go_simp <;> with_reducible rfl)); (simp only [Act.put, List.setIfInBounds_toArray, List.set_cons_zero, List.set_cons_succ]))
                  refine plan3_done ?_
                  exact ⟨_, _, _, _, _, rfl, hide HS.out.out⟩
                · intro R HR
                  go_wp2_with fail
                  refine HR.out _ _ (show Hid (Below Wr.heap.size Wr (Wz70.alloc (.cells (List.replicate 32 (.int .u8 0)).toArray 26))) from hide (below_one HS.out.out (below_new _ _))) ?_
                  clear HR
                  refine plan3_named ?_
                  intro Wz75 HWn
                  have HS' : Hid (Hid (Below Wr.heap.size Wr Wz75)) := by
                    have e : Wz75 = Wz70.alloc (.cells (List.replicate 32 (.int .u8 0)).toArray 26) := HWn.out
                    subst e
                    exact hide (hide (below_one HS.out.out (below_new _ _)))
                  have HQ9' : Hid (DSrc Wz75 (some ⟨g71, 0, none⟩) (p.length + 1) cp72 (p ++ [d])) := by
                    have e : Wz75 = Wz70.alloc (.cells (List.replicate 32 (.int .u8 0)).toArray 26) := HWn.out
                    subst e
                    exact hide (HQ9.out.below (below_new _ _))
                  have K11' : Hid (Blk Wz75 Wz70.heap.size 26 (List.replicate 32 (.int .u8 0))) := by
                    have e : Wz75 = Wz70.alloc (.cells (List.replicate 32 (.int .u8 0)).toArray 26) := HWn.out
                    subst e
                    exact hide (Blk.new _ _ _)
                  have HG11' : Hid (Wr.heap.size ≤ Wz70.heap.size) := by
                    have e : Wz75 = Wz70.alloc (.cells (List.replicate 32 (.int .u8 0)).toArray 26) := HWn.out
                    subst e
                    exact hide HS.out.out.size
                  clear HS HQ9
                  have HS := HS'
                  have HQ9 := HQ9'
                  have K11 := K11'
                  have HG11 := HG11'
                  clear HS' HQ9' K11' HG11' HWn
                  refine plan3_run (o := ?_) (by simp only [List.getElem?_toArray, List.getElem?_cons_succ, List.getElem?_cons_zero]; rfl) ?_
                  intro R HR
                  go_wp2_with fail
                  refine (Climb_no5 d (p.length + 1) cp72 k N (some ⟨g71, 0, none⟩) Wz75 k N rfl rfl (by omega) (by omega) hlt (by have := HPS.out; omega)).mono ?_
                  rintro e Wz76 ⟨rfl, hb⟩
                  have HS' : Hid (Hid (Below Wr.heap.size Wr Wz76)) := hide (hide (below_one HS.out.out hb))
                  have K11' : Hid (Blk Wz76 Wz70.heap.size 26 (List.replicate 32 (.int .u8 0))) := hide (K11.out.below hb K11.out.lt)
                  clear HS K11
                  have HS := HS'
                  have K11 := K11'
                  clear HS' K11'
                  clear hb
                  go_wp2_with fail
                  refine HR.out _ _ HS.out ?_
                  clear HR
                  (refine plan3_take (o := ?_) (v := ?_) (by simp only [List.getElem?_toArray, List.getElem?_cons_succ, List.getElem?_cons_zero]; rfl) (yields_run (by rfl) ?_) ?_; rotate_left; (focus (intro w' _; go_simp <;> with_reducible rfl)); (simp only [Act.put, List.setIfInBounds_toArray, List.set_cons_zero, List.set_cons_succ]))
                  (refine plan3_take (o := ?_) (v := ?_) (by simp only [List.getElem?_toArray, List.getElem?_cons_succ, List.getElem?_cons_zero]; rfl) (yields_run (by rfl) ?_) ?_; rotate_left; (focus (intro w' _; go_simp <;> with_reducible rfl)); (simp only [Act.put, List.setIfInBounds_toArray, List.set_cons_zero, List.set_cons_succ]))
                  (refine plan3_take (o := ?_) (v := ?_) (by simp only [List.getElem?_toArray, List.getElem?_cons_succ, List.getElem?_cons_zero]; rfl) (yields_run (by rfl) ?_) ?_; rotate_left; (focus (intro w' _; go_simp <;> with_reducible rfl)); (simp only [Act.put, List.setIfInBounds_toArray, List.set_cons_zero, List.set_cons_succ]))
                  refine plan3_run (o := ?_) (by simp only [List.getElem?_toArray, List.getElem?_cons_succ, List.getElem?_cons_zero]; rfl) ?_
                  intro R HR
                  refine wpList_store_mid rfl 26 (.tmp 11) (.tmp 53) rfl Wz70.heap.size 0 (bc zd).toArray rfl rfl (by rw [dv_size zd zd_len]; exact K11.out.there (by simp)) (by rw [dv_size zd zd_len]; exact Tryd.size26) (all_oneCell_toArray (bc_one _)) ?_
                  have HS' : Hid (Hid (Below Wr.heap.size Wr (Wz76.setCells Wz70.heap.size 0 (bc zd).toArray.toList))) := hide (hide (below_setCells HS.out.out HG11.out _ _))
                  refine HR.out _ _ HS'.out ?_
                  clear HR HS K11
                  have HS := HS'
                  clear HS'
                  (simp only [Act.put])
                  (refine plan3_take (o := ?_) (v := ?_) (by simp only [List.getElem?_toArray, List.getElem?_cons_succ, List.getElem?_cons_zero]; rfl) (yields_run (by rfl) ?_) ?_; rotate_left; (focus (intro w' _; go_simp <;> with_reducible rfl)); (simp only [Act.put, List.setIfInBounds_toArray, List.set_cons_zero, List.set_cons_succ]))
                  refine plan3_done ?_
                  exact ⟨_, _, _, _, _, rfl, hide HS.out.out⟩
              · intro R HR
                go_wp2_with fail
                refine HR.out _ _ (show Hid (Below Wr.heap.size Wr (Wz67.alloc (.cells (List.replicate 32 (.int .u8 0)).toArray 26))) from hide (below_one HS.out.out (below_new _ _))) ?_
                clear HR
                refine plan3_named ?_
                intro Wz77 HWn
                have HS' : Hid (Hid (Below Wr.heap.size Wr Wz77)) := by
                  have e : Wz77 = Wz67.alloc (.cells (List.replicate 32 (.int .u8 0)).toArray 26) := HWn.out
                  subst e
                  exact hide (hide (below_one HS.out.out (below_new _ _)))
                have HO' : Hid (Wz77.ownsRow Wr.heap.size 26 32 (.slice (some ⟨g68, 0, none⟩) p.length cp69) p.length (bc p.flatten)) := by
                  have e : Wz77 = Wz67.alloc (.cells (List.replicate 32 (.int .u8 0)).toArray 26) := HWn.out
                  subst e
                  exact hide (HO.out.alloc _)
                have K8' : Hid (Blk Wz77 Wd.heap.size 26 (bc d)) := by
                  have e : Wz77 = Wz67.alloc (.cells (List.replicate 32 (.int .u8 0)).toArray 26) := HWn.out
                  subst e
                  exact hide (K8.out.alloc _)
                have K11' : Hid (Blk Wz77 Wz67.heap.size 26 (List.replicate 32 (.int .u8 0))) := by
                  have e : Wz77 = Wz67.alloc (.cells (List.replicate 32 (.int .u8 0)).toArray 26) := HWn.out
                  subst e
                  exact hide (Blk.new _ _ _)
                have HG11' : Hid (Wr.heap.size ≤ Wz67.heap.size) := by
                  have e : Wz77 = Wz67.alloc (.cells (List.replicate 32 (.int .u8 0)).toArray 26) := HWn.out
                  subst e
                  exact hide HS.out.out.size
                have N11' : Hid (¬ Wz67.heap.size = g68) := by
                  have e : Wz77 = Wz67.alloc (.cells (List.replicate 32 (.int .u8 0)).toArray 26) := HWn.out
                  subst e
                  exact hide (by have h2 : g68 < Wz67.heap.size := (HO.out.lt _ rfl).2; omega)
                clear HS HO K8
                have HS := HS'
                have HO := HO'
                have K8 := K8'
                have K11 := K11'
                have HG11 := HG11'
                have N11 := N11'
                clear HS' HO' K8' K11' HG11' N11' HWn
                refine plan3_run (o := ?_) (by simp only [List.getElem?_toArray, List.getElem?_cons_succ, List.getElem?_cons_zero]; rfl) ?_
                intro R HR
                refine wpList_of_wp (by rfl) (wp_app26f (.tmp 48) (.tmp 50) rfl Wr.heap.size g68 p.length cp69 p rfl HO.out (some ⟨Wd.heap.size, 0, none⟩) 1 1 [d] rfl (DSrc.one_of K8.out HDk.out) (by have := HFP.out; omega) HS.out.out.size (p.length + 1) (p ++ [d]) rfl rfl ?_)
                intro g79 cp80 Wz78 ho hg hor
                obtain ⟨A9, c9, e9, hQ⟩ := own_dsrc ho (HPD.out.append (D32.one HDk.out)) (by simp)
                cases e9
                have HS' : Hid (Hid (Below Wr.heap.size Wr Wz78)) := hide (hide (HS.out.out.grown hg HS.out.out.size (fun k hk => (HO.out.lt k hk).1)))
                have K11' : Hid (Blk Wz78 Wz67.heap.size 26 (List.replicate 32 (.int .u8 0))) := hide ((hg.block _ K11.out.lt (fun e => N11.out (Option.some.inj e))).trans K11.out)
                have HQ9' : Hid (DSrc Wz78 (some ⟨g79, 0, none⟩) (p.length + 1) cp80 (p ++ [d])) := hide hQ
                clear HS K11
                have HS := HS'
                have K11 := K11'
                have HQ9 := HQ9'
                clear HS' K11' HQ9'
                clear ho hg hor hQ HO
                refine HR.out _ _ HS.out ?_
                clear HR
                (simp only [Act.put, List.setIfInBounds_toArray, List.set_cons_zero, List.set_cons_succ])
                refine plan3_run (o := ?_) (by simp only [List.getElem?_toArray, List.getElem?_cons_succ, List.getElem?_cons_zero]; rfl) ?_
                intro R HR
                go_wp2_with fail
                refine (Climb_no5 d (p.length + 1) cp80 k N (some ⟨g79, 0, none⟩) Wz78 k N rfl rfl (by omega) (by omega) hlt (by have := HPS.out; omega)).mono ?_
                rintro e Wz81 ⟨rfl, hb⟩
                have HS' : Hid (Hid (Below Wr.heap.size Wr Wz81)) := hide (hide (below_one HS.out.out hb))
                have K11' : Hid (Blk Wz81 Wz67.heap.size 26 (List.replicate 32 (.int .u8 0))) := hide (K11.out.below hb K11.out.lt)
                clear HS K11
                have HS := HS'
                have K11 := K11'
                clear HS' K11'
                clear hb
                go_wp2_with fail
                refine HR.out _ _ HS.out ?_
                clear HR
                (refine plan3_take (o := ?_) (v := ?_) (by simp only [List.getElem?_toArray, List.getElem?_cons_succ, List.getElem?_cons_zero]; rfl) (yields_run (by rfl) ?_) ?_; rotate_left; (focus (intro w' _; go_simp <;> with_reducible rfl)); (simp only [Act.put, List.setIfInBounds_toArray, List.set_cons_zero, List.set_cons_succ]))
                (refine plan3_take (o := ?_) (v := ?_) (by simp only [List.getElem?_toArray, List.getElem?_cons_succ, List.getElem?_cons_zero]; rfl) (yields_run (by rfl) ?_) ?_; rotate_left; (focus (intro w' _; go_simp <;> with_reducible rfl)); (simp only [Act.put, List.setIfInBounds_toArray, List.set_cons_zero, List.set_cons_succ]))
                (refine plan3_take (o := ?_) (v := ?_) (by simp only [List.getElem?_toArray, List.getElem?_cons_succ, List.getElem?_cons_zero]; rfl) (yields_run (by rfl) ?_) ?_; rotate_left; (focus (intro w' _; go_simp <;> with_reducible rfl)); (simp only [Act.put, List.setIfInBounds_toArray, List.set_cons_zero, List.set_cons_succ]))
                refine plan3_run (o := ?_) (by simp only [List.getElem?_toArray, List.getElem?_cons_succ, List.getElem?_cons_zero]; rfl) ?_
                intro R HR
                refine wpList_store_mid rfl 26 (.tmp 11) (.tmp 53) rfl Wz67.heap.size 0 (bc zd).toArray rfl rfl (by rw [dv_size zd zd_len]; exact K11.out.there (by simp)) (by rw [dv_size zd zd_len]; exact Tryd.size26) (all_oneCell_toArray (bc_one _)) ?_
                have HS' : Hid (Hid (Below Wr.heap.size Wr (Wz81.setCells Wz67.heap.size 0 (bc zd).toArray.toList))) := hide (hide (below_setCells HS.out.out HG11.out _ _))
                refine HR.out _ _ HS'.out ?_
                clear HR HS K11
                have HS := HS'
                clear HS'
                (simp only [Act.put])
                (refine plan3_take (o := ?_) (v := ?_) (by simp only [List.getElem?_toArray, List.getElem?_cons_succ, List.getElem?_cons_zero]; rfl) (yields_run (by rfl) ?_) ?_; rotate_left; (focus (intro w' _; go_simp <;> with_reducible rfl)); (simp only [Act.put, List.setIfInBounds_toArray, List.set_cons_zero, List.set_cons_succ]))
                refine plan3_done ?_
                exact ⟨_, _, _, _, _, rfl, hide HS.out.out⟩
            · intro R HR
              go_wp2_with fail
              refine HR.out _ _ (show Hid (Below Wr.heap.size Wr (Wz66.alloc (.cells (List.replicate 32 (.int .u8 0)).toArray 26))) from hide (below_one HS.out.out (below_new _ _))) ?_
              clear HR
              refine plan3_named ?_
              intro Wz82 HWn
              have HS' : Hid (Hid (Below Wr.heap.size Wr Wz82)) := by
                have e : Wz82 = Wz66.alloc (.cells (List.replicate 32 (.int .u8 0)).toArray 26) := HWn.out
                subst e
                exact hide (hide (below_one HS.out.out (below_new _ _)))
              have HO' : Hid (Wz82.ownsRow Wr.heap.size 26 32 (.slice (some ⟨Wz65.heap.size, 0, none⟩) 0 0) 0 (bc ([] : List (List UInt8)).flatten)) := by
                have e : Wz82 = Wz66.alloc (.cells (List.replicate 32 (.int .u8 0)).toArray 26) := HWn.out
                subst e
                exact hide (HO.out.alloc _)
              have K8' : Hid (Blk Wz82 Wd.heap.size 26 (bc d)) := by
                have e : Wz82 = Wz66.alloc (.cells (List.replicate 32 (.int .u8 0)).toArray 26) := HWn.out
                subst e
                exact hide (K8.out.alloc _)
              have K11' : Hid (Blk Wz82 Wz66.heap.size 26 (List.replicate 32 (.int .u8 0))) := by
                have e : Wz82 = Wz66.alloc (.cells (List.replicate 32 (.int .u8 0)).toArray 26) := HWn.out
                subst e
                exact hide (Blk.new _ _ _)
              have HG11' : Hid (Wr.heap.size ≤ Wz66.heap.size) := by
                have e : Wz82 = Wz66.alloc (.cells (List.replicate 32 (.int .u8 0)).toArray 26) := HWn.out
                subst e
                exact hide HS.out.out.size
              have N11' : Hid (¬ Wz66.heap.size = Wz65.heap.size) := by
                have e : Wz82 = Wz66.alloc (.cells (List.replicate 32 (.int .u8 0)).toArray 26) := HWn.out
                subst e
                exact hide (by have h2 : Wz65.heap.size < Wz66.heap.size := (HO.out.lt _ rfl).2; omega)
              clear HS HO K8
              have HS := HS'
              have HO := HO'
              have K8 := K8'
              have K11 := K11'
              have HG11 := HG11'
              have N11 := N11'
              clear HS' HO' K8' K11' HG11' N11' HWn
              refine plan3_run (o := ?_) (by simp only [List.getElem?_toArray, List.getElem?_cons_succ, List.getElem?_cons_zero]; rfl) ?_
              intro R HR
              refine wpList_of_wp (by rfl) (wp_app26f (.tmp 46) (.tmp 47) rfl Wr.heap.size Wz65.heap.size 0 0 [] rfl HO.out A2 p.length c2 p rfl (HC5.out.2.2.1.below HS.out.out) (by have := HFP.out; omega) HS.out.out.size p.length p (by omega) rfl ?_)
              intro g84 cp85 Wz83 ho hg hor
              have HS' : Hid (Hid (Below Wr.heap.size Wr Wz83)) := hide (hide (HS.out.out.grown hg HS.out.out.size (fun k hk => (HO.out.lt k hk).1)))
              have K8' : Hid (Blk Wz83 Wd.heap.size 26 (bc d)) := hide ((hg.block _ K8.out.lt (fun e => N8.out (Option.some.inj e))).trans K8.out)
              have K11' : Hid (Blk Wz83 Wz66.heap.size 26 (List.replicate 32 (.int .u8 0))) := hide ((hg.block _ K11.out.lt (fun e => N11.out (Option.some.inj e))).trans K11.out)
              have N11' : Hid (¬ Wz66.heap.size = g84) := hide (by have h1 := N11.out; have h2 := K11.out.lt; rcases hor with e | e <;> rw [e] <;> omega)
              have HO' : Hid (Wz83.ownsRow Wr.heap.size 26 32 (.slice (some ⟨g84, 0, none⟩) p.length cp85) p.length (bc p.flatten)) := hide ho
              clear HS K8 K11 N11 HO
              have HS := HS'
              have K8 := K8'
              have K11 := K11'
              have N11 := N11'
              have HO := HO'
              clear HS' K8' K11' N11' HO'
              clear ho hg hor
              refine HR.out _ _ HS.out ?_
              clear HR
              (simp only [Act.put, List.setIfInBounds_toArray, List.set_cons_zero, List.set_cons_succ])
              refine plan3_run (o := ?_) (by simp only [List.getElem?_toArray, List.getElem?_cons_succ, List.getElem?_cons_zero]; rfl) ?_
              intro R HR
              refine wpList_of_wp (by rfl) (wp_app26f (.tmp 48) (.tmp 50) rfl Wr.heap.size g84 p.length cp85 p rfl HO.out (some ⟨Wd.heap.size, 0, none⟩) 1 1 [d] rfl (DSrc.one_of K8.out HDk.out) (by have := HFP.out; omega) HS.out.out.size (p.length + 1) (p ++ [d]) rfl rfl ?_)
              intro g87 cp88 Wz86 ho hg hor
              obtain ⟨A9, c9, e9, hQ⟩ := own_dsrc ho (HPD.out.append (D32.one HDk.out)) (by simp)
              cases e9
              have HS' : Hid (Hid (Below Wr.heap.size Wr Wz86)) := hide (hide (HS.out.out.grown hg HS.out.out.size (fun k hk => (HO.out.lt k hk).1)))
              have K11' : Hid (Blk Wz86 Wz66.heap.size 26 (List.replicate 32 (.int .u8 0))) := hide ((hg.block _ K11.out.lt (fun e => N11.out (Option.some.inj e))).trans K11.out)
              have HQ9' : Hid (DSrc Wz86 (some ⟨g87, 0, none⟩) (p.length + 1) cp88 (p ++ [d])) := hide hQ
              clear HS K11
              have HS := HS'
              have K11 := K11'
              have HQ9 := HQ9'
              clear HS' K11' HQ9'
              clear ho hg hor hQ HO
              refine HR.out _ _ HS.out ?_
              clear HR
              (simp only [Act.put, List.setIfInBounds_toArray, List.set_cons_zero, List.set_cons_succ])
              refine plan3_run (o := ?_) (by simp only [List.getElem?_toArray, List.getElem?_cons_succ, List.getElem?_cons_zero]; rfl) ?_
              intro R HR
              go_wp2_with fail
              refine (Climb_no5 d (p.length + 1) cp88 k N (some ⟨g87, 0, none⟩) Wz86 k N rfl rfl (by omega) (by omega) hlt (by have := HPS.out; omega)).mono ?_
              rintro e Wz89 ⟨rfl, hb⟩
              have HS' : Hid (Hid (Below Wr.heap.size Wr Wz89)) := hide (hide (below_one HS.out.out hb))
              have K11' : Hid (Blk Wz89 Wz66.heap.size 26 (List.replicate 32 (.int .u8 0))) := hide (K11.out.below hb K11.out.lt)
              clear HS K11
              have HS := HS'
              have K11 := K11'
              clear HS' K11'
              clear hb
              go_wp2_with fail
              refine HR.out _ _ HS.out ?_
              clear HR
              (refine plan3_take (o := ?_) (v := ?_) (by simp only [List.getElem?_toArray, List.getElem?_cons_succ, List.getElem?_cons_zero]; rfl) (yields_run (by rfl) ?_) ?_; rotate_left; (focus (intro w' _; go_simp <;> with_reducible rfl)); (simp only [Act.put, List.setIfInBounds_toArray, List.set_cons_zero, List.set_cons_succ]))
              (refine plan3_take (o := ?_) (v := ?_) (by simp only [List.getElem?_toArray, List.getElem?_cons_succ, List.getElem?_cons_zero]; rfl) (yields_run (by rfl) ?_) ?_; rotate_left; (focus (intro w' _; go_simp <;> with_reducible rfl)); (simp only [Act.put, List.setIfInBounds_toArray, List.set_cons_zero, List.set_cons_succ]))
              (refine plan3_take (o := ?_) (v := ?_) (by simp only [List.getElem?_toArray, List.getElem?_cons_succ, List.getElem?_cons_zero]; rfl) (yields_run (by rfl) ?_) ?_; rotate_left; (focus (intro w' _; go_simp <;> with_reducible rfl)); (simp only [Act.put, List.setIfInBounds_toArray, List.set_cons_zero, List.set_cons_succ]))
              refine plan3_run (o := ?_) (by simp only [List.getElem?_toArray, List.getElem?_cons_succ, List.getElem?_cons_zero]; rfl) ?_
              intro R HR
              refine wpList_store_mid rfl 26 (.tmp 11) (.tmp 53) rfl Wz66.heap.size 0 (bc zd).toArray rfl rfl (by rw [dv_size zd zd_len]; exact K11.out.there (by simp)) (by rw [dv_size zd zd_len]; exact Tryd.size26) (all_oneCell_toArray (bc_one _)) ?_
              have HS' : Hid (Hid (Below Wr.heap.size Wr (Wz89.setCells Wz66.heap.size 0 (bc zd).toArray.toList))) := hide (hide (below_setCells HS.out.out HG11.out _ _))
              refine HR.out _ _ HS'.out ?_
              clear HR HS K11
              have HS := HS'
              clear HS'
              (simp only [Act.put])
              (refine plan3_take (o := ?_) (v := ?_) (by simp only [List.getElem?_toArray, List.getElem?_cons_succ, List.getElem?_cons_zero]; rfl) (yields_run (by rfl) ?_) ?_; rotate_left; (focus (intro w' _; go_simp <;> with_reducible rfl)); (simp only [Act.put, List.setIfInBounds_toArray, List.set_cons_zero, List.set_cons_succ]))
              refine plan3_done ?_
              exact ⟨_, _, _, _, _, rfl, hide HS.out.out⟩
          · intro R HR
            go_wp2_with fail
            refine HR.out _ _ (show Hid (Below Wr.heap.size Wr (Wz65.alloc (.cells (List.replicate 32 (.int .u8 0)).toArray 26))) from hide (below_one HS.out.out (below_new _ _))) ?_
            clear HR
            refine plan3_named ?_
            intro Wz90 HWn
            have HS' : Hid (Hid (Below Wr.heap.size Wr Wz90)) := by
              have e : Wz90 = Wz65.alloc (.cells (List.replicate 32 (.int .u8 0)).toArray 26) := HWn.out
              subst e
              exact hide (hide (below_one HS.out.out (below_new _ _)))
            have K8' : Hid (Blk Wz90 Wd.heap.size 26 (bc d)) := by
              have e : Wz90 = Wz65.alloc (.cells (List.replicate 32 (.int .u8 0)).toArray 26) := HWn.out
              subst e
              exact hide (K8.out.alloc _)
            have K11' : Hid (Blk Wz90 Wz65.heap.size 26 (List.replicate 32 (.int .u8 0))) := by
              have e : Wz90 = Wz65.alloc (.cells (List.replicate 32 (.int .u8 0)).toArray 26) := HWn.out
              subst e
              exact hide (Blk.new _ _ _)
            have HG11' : Hid (Wr.heap.size ≤ Wz65.heap.size) := by
              have e : Wz90 = Wz65.alloc (.cells (List.replicate 32 (.int .u8 0)).toArray 26) := HWn.out
              subst e
              exact hide HS.out.out.size
            clear HS K8
            have HS := HS'
            have K8 := K8'
            have K11 := K11'
            have HG11 := HG11'
            clear HS' K8' K11' HG11' HWn
            refine plan3_run (o := ?_) (by simp only [List.getElem?_toArray, List.getElem?_cons_succ, List.getElem?_cons_zero]; rfl) ?_
            intro R HR
            go_wp2_with fail
            refine HR.out _ _ (show Hid (Below Wr.heap.size Wr (Wz90.alloc (.cells #[] 26))) from hide (below_one HS.out.out (below_new _ _))) ?_
            clear HR
            refine plan3_named ?_
            intro Wz91 HWn
            have HS' : Hid (Hid (Below Wr.heap.size Wr Wz91)) := by
              have e : Wz91 = Wz90.alloc (.cells #[] 26) := HWn.out
              subst e
              exact hide (hide (below_one HS.out.out (below_new _ _)))
            have K8' : Hid (Blk Wz91 Wd.heap.size 26 (bc d)) := by
              have e : Wz91 = Wz90.alloc (.cells #[] 26) := HWn.out
              subst e
              exact hide (K8.out.alloc _)
            have K11' : Hid (Blk Wz91 Wz65.heap.size 26 (List.replicate 32 (.int .u8 0))) := by
              have e : Wz91 = Wz90.alloc (.cells #[] 26) := HWn.out
              subst e
              exact hide (K11.out.alloc _)
            have HO' : Hid (Wz91.ownsRow Wr.heap.size 26 32 (.slice (some ⟨Wz90.heap.size, 0, none⟩) 0 0) 0 (bc ([] : List (List UInt8)).flatten)) := by
              have e : Wz91 = Wz90.alloc (.cells #[] 26) := HWn.out
              subst e
              exact hide (own_empty _ _ 26 26 32 rfl HS.out.out.size)
            have N8' : Hid (¬ Wd.heap.size = Wz90.heap.size) := by
              have e : Wz91 = Wz90.alloc (.cells #[] 26) := HWn.out
              subst e
              exact hide (by have := K8.out.lt; omega)
            have N11' : Hid (¬ Wz65.heap.size = Wz90.heap.size) := by
              have e : Wz91 = Wz90.alloc (.cells #[] 26) := HWn.out
              subst e
              exact hide (by have := K11.out.lt; omega)
            clear HS K8 K11
            have HS := HS'
            have K8 := K8'
            have K11 := K11'
            have HO := HO'
            have N8 := N8'
            have N11 := N11'
            clear HS' K8' K11' HO' N8' N11' HWn
            refine plan3_run (o := ?_) (by simp only [List.getElem?_toArray, List.getElem?_cons_succ, List.getElem?_cons_zero]; rfl) ?_
            intro R HR
            refine wpList_of_wp (by rfl) (wp_app26f (.tmp 46) (.tmp 47) rfl Wr.heap.size Wz90.heap.size 0 0 [] rfl HO.out A2 p.length c2 p rfl (HC5.out.2.2.1.below HS.out.out) (by have := HFP.out; omega) HS.out.out.size p.length p (by omega) rfl ?_)
            intro g93 cp94 Wz92 ho hg hor
            have HS' : Hid (Hid (Below Wr.heap.size Wr Wz92)) := hide (hide (HS.out.out.grown hg HS.out.out.size (fun k hk => (HO.out.lt k hk).1)))
            have K8' : Hid (Blk Wz92 Wd.heap.size 26 (bc d)) := hide ((hg.block _ K8.out.lt (fun e => N8.out (Option.some.inj e))).trans K8.out)
            have K11' : Hid (Blk Wz92 Wz65.heap.size 26 (List.replicate 32 (.int .u8 0))) := hide ((hg.block _ K11.out.lt (fun e => N11.out (Option.some.inj e))).trans K11.out)
            have N11' : Hid (¬ Wz65.heap.size = g93) := hide (by have h1 := N11.out; have h2 := K11.out.lt; rcases hor with e | e <;> rw [e] <;> omega)
            have HO' : Hid (Wz92.ownsRow Wr.heap.size 26 32 (.slice (some ⟨g93, 0, none⟩) p.length cp94) p.length (bc p.flatten)) := hide ho
            clear HS K8 K11 N11 HO
            have HS := HS'
            have K8 := K8'
            have K11 := K11'
            have N11 := N11'
            have HO := HO'
            clear HS' K8' K11' N11' HO'
            clear ho hg hor
            refine HR.out _ _ HS.out ?_
            clear HR
            (simp only [Act.put, List.setIfInBounds_toArray, List.set_cons_zero, List.set_cons_succ])
            refine plan3_run (o := ?_) (by simp only [List.getElem?_toArray, List.getElem?_cons_succ, List.getElem?_cons_zero]; rfl) ?_
            intro R HR
            refine wpList_of_wp (by rfl) (wp_app26f (.tmp 48) (.tmp 50) rfl Wr.heap.size g93 p.length cp94 p rfl HO.out (some ⟨Wd.heap.size, 0, none⟩) 1 1 [d] rfl (DSrc.one_of K8.out HDk.out) (by have := HFP.out; omega) HS.out.out.size (p.length + 1) (p ++ [d]) rfl rfl ?_)
            intro g96 cp97 Wz95 ho hg hor
            obtain ⟨A9, c9, e9, hQ⟩ := own_dsrc ho (HPD.out.append (D32.one HDk.out)) (by simp)
            cases e9
            have HS' : Hid (Hid (Below Wr.heap.size Wr Wz95)) := hide (hide (HS.out.out.grown hg HS.out.out.size (fun k hk => (HO.out.lt k hk).1)))
            have K11' : Hid (Blk Wz95 Wz65.heap.size 26 (List.replicate 32 (.int .u8 0))) := hide ((hg.block _ K11.out.lt (fun e => N11.out (Option.some.inj e))).trans K11.out)
            have HQ9' : Hid (DSrc Wz95 (some ⟨g96, 0, none⟩) (p.length + 1) cp97 (p ++ [d])) := hide hQ
            clear HS K11
            have HS := HS'
            have K11 := K11'
            have HQ9 := HQ9'
            clear HS' K11' HQ9'
            clear ho hg hor hQ HO
            refine HR.out _ _ HS.out ?_
            clear HR
            (simp only [Act.put, List.setIfInBounds_toArray, List.set_cons_zero, List.set_cons_succ])
            refine plan3_run (o := ?_) (by simp only [List.getElem?_toArray, List.getElem?_cons_succ, List.getElem?_cons_zero]; rfl) ?_
            intro R HR
            go_wp2_with fail
            refine (Climb_no5 d (p.length + 1) cp97 k N (some ⟨g96, 0, none⟩) Wz95 k N rfl rfl (by omega) (by omega) hlt (by have := HPS.out; omega)).mono ?_
            rintro e Wz98 ⟨rfl, hb⟩
            have HS' : Hid (Hid (Below Wr.heap.size Wr Wz98)) := hide (hide (below_one HS.out.out hb))
            have K11' : Hid (Blk Wz98 Wz65.heap.size 26 (List.replicate 32 (.int .u8 0))) := hide (K11.out.below hb K11.out.lt)
            clear HS K11
            have HS := HS'
            have K11 := K11'
            clear HS' K11'
            clear hb
            go_wp2_with fail
            refine HR.out _ _ HS.out ?_
            clear HR
            (refine plan3_take (o := ?_) (v := ?_) (by simp only [List.getElem?_toArray, List.getElem?_cons_succ, List.getElem?_cons_zero]; rfl) (yields_run (by rfl) ?_) ?_; rotate_left; (focus (intro w' _; go_simp <;> with_reducible rfl)); (simp only [Act.put, List.setIfInBounds_toArray, List.set_cons_zero, List.set_cons_succ]))
            (refine plan3_take (o := ?_) (v := ?_) (by simp only [List.getElem?_toArray, List.getElem?_cons_succ, List.getElem?_cons_zero]; rfl) (yields_run (by rfl) ?_) ?_; rotate_left; (focus (intro w' _; go_simp <;> with_reducible rfl)); (simp only [Act.put, List.setIfInBounds_toArray, List.set_cons_zero, List.set_cons_succ]))
            (refine plan3_take (o := ?_) (v := ?_) (by simp only [List.getElem?_toArray, List.getElem?_cons_succ, List.getElem?_cons_zero]; rfl) (yields_run (by rfl) ?_) ?_; rotate_left; (focus (intro w' _; go_simp <;> with_reducible rfl)); (simp only [Act.put, List.setIfInBounds_toArray, List.set_cons_zero, List.set_cons_succ]))
            refine plan3_run (o := ?_) (by simp only [List.getElem?_toArray, List.getElem?_cons_succ, List.getElem?_cons_zero]; rfl) ?_
            intro R HR
            refine wpList_store_mid rfl 26 (.tmp 11) (.tmp 53) rfl Wz65.heap.size 0 (bc zd).toArray rfl rfl (by rw [dv_size zd zd_len]; exact K11.out.there (by simp)) (by rw [dv_size zd zd_len]; exact Tryd.size26) (all_oneCell_toArray (bc_one _)) ?_
            have HS' : Hid (Hid (Below Wr.heap.size Wr (Wz98.setCells Wz65.heap.size 0 (bc zd).toArray.toList))) := hide (hide (below_setCells HS.out.out HG11.out _ _))
            refine HR.out _ _ HS'.out ?_
            clear HR HS K11
            have HS := HS'
            clear HS'
            (simp only [Act.put])
            (refine plan3_take (o := ?_) (v := ?_) (by simp only [List.getElem?_toArray, List.getElem?_cons_succ, List.getElem?_cons_zero]; rfl) (yields_run (by rfl) ?_) ?_; rotate_left; (focus (intro w' _; go_simp <;> with_reducible rfl)); (simp only [Act.put, List.setIfInBounds_toArray, List.set_cons_zero, List.set_cons_succ]))
            refine plan3_done ?_
            exact ⟨_, _, _, _, _, rfl, hide HS.out.out⟩
        · intro R HR
          go_wp2_with fail
          refine HR.out _ _ (show Hid (Below Wr.heap.size Wr (Wd.alloc (.cells (List.replicate 32 (.int .u8 0)).toArray 26))) from hide (below_one HS.out.out (below_new _ _))) ?_
          clear HR
          refine plan3_named ?_
          intro Wz99 HWn
          have HS' : Hid (Hid (Below Wr.heap.size Wr Wz99)) := by
            have e : Wz99 = Wd.alloc (.cells (List.replicate 32 (.int .u8 0)).toArray 26) := HWn.out
            subst e
            exact hide (hide (below_one HS.out.out (below_new _ _)))
          have K11' : Hid (Blk Wz99 Wd.heap.size 26 (List.replicate 32 (.int .u8 0))) := by
            have e : Wz99 = Wd.alloc (.cells (List.replicate 32 (.int .u8 0)).toArray 26) := HWn.out
            subst e
            exact hide (Blk.new _ _ _)
          have HG11' : Hid (Wr.heap.size ≤ Wd.heap.size) := by
            have e : Wz99 = Wd.alloc (.cells (List.replicate 32 (.int .u8 0)).toArray 26) := HWn.out
            subst e
            exact hide HS.out.out.size
          clear HS
          have HS := HS'
          have K11 := K11'
          have HG11 := HG11'
          clear HS' K11' HG11' HWn
          refine plan3_both (o1 := ?_) (o2 := ?_) (by simp only [List.getElem?_toArray, List.getElem?_cons_succ, List.getElem?_cons_zero]; rfl) (by simp only [List.getElem?_toArray, List.getElem?_cons_succ, List.getElem?_cons_zero]; rfl) ?_ ?_
          · intro R HR
            go_wp2_with fail
            refine HR.out _ _ (show Hid (Below Wr.heap.size Wr (Wz99.alloc (.cells #[] 26))) from hide (below_one HS.out.out (below_new _ _))) ?_
            clear HR
            refine plan3_named ?_
            intro Wz100 HWn
            have HS' : Hid (Hid (Below Wr.heap.size Wr Wz100)) := by
              have e : Wz100 = Wz99.alloc (.cells #[] 26) := HWn.out
              subst e
              exact hide (hide (below_one HS.out.out (below_new _ _)))
            have K11' : Hid (Blk Wz100 Wd.heap.size 26 (List.replicate 32 (.int .u8 0))) := by
              have e : Wz100 = Wz99.alloc (.cells #[] 26) := HWn.out
              subst e
              exact hide (K11.out.alloc _)
            have HO' : Hid (Wz100.ownsRow Wr.heap.size 26 32 (.slice (some ⟨Wz99.heap.size, 0, none⟩) 0 0) 0 (bc ([] : List (List UInt8)).flatten)) := by
              have e : Wz100 = Wz99.alloc (.cells #[] 26) := HWn.out
              subst e
              exact hide (own_empty _ _ 26 26 32 rfl HS.out.out.size)
            have N11' : Hid (¬ Wd.heap.size = Wz99.heap.size) := by
              have e : Wz100 = Wz99.alloc (.cells #[] 26) := HWn.out
              subst e
              exact hide (by have := K11.out.lt; omega)
            clear HS K11
            have HS := HS'
            have K11 := K11'
            have HO := HO'
            have N11 := N11'
            clear HS' K11' HO' N11' HWn
            refine plan3_both (o1 := ?_) (o2 := ?_) (by simp only [List.getElem?_toArray, List.getElem?_cons_succ, List.getElem?_cons_zero]; rfl) (by simp only [List.getElem?_toArray, List.getElem?_cons_succ, List.getElem?_cons_zero]; rfl) ?_ ?_
            · intro R HR
              refine wpList_of_wp (by rfl) (wp_app26f (.tmp 46) (.tmp 47) rfl Wr.heap.size Wz99.heap.size 0 0 [] rfl HO.out A2 p.length c2 p rfl (HC5.out.2.2.1.below HS.out.out) (by have := HFP.out; omega) HS.out.out.size p.length p (by omega) rfl ?_)
              intro g102 cp103 Wz101 ho hg hor
              have HS' : Hid (Hid (Below Wr.heap.size Wr Wz101)) := hide (hide (HS.out.out.grown hg HS.out.out.size (fun k hk => (HO.out.lt k hk).1)))
              have K11' : Hid (Blk Wz101 Wd.heap.size 26 (List.replicate 32 (.int .u8 0))) := hide ((hg.block _ K11.out.lt (fun e => N11.out (Option.some.inj e))).trans K11.out)
              have N11' : Hid (¬ Wd.heap.size = g102) := hide (by have h1 := N11.out; have h2 := K11.out.lt; rcases hor with e | e <;> rw [e] <;> omega)
              have HO' : Hid (Wz101.ownsRow Wr.heap.size 26 32 (.slice (some ⟨g102, 0, none⟩) p.length cp103) p.length (bc p.flatten)) := hide ho
              clear HS K11 N11 HO
              have HS := HS'
              have K11 := K11'
              have N11 := N11'
              have HO := HO'
              clear HS' K11' N11' HO'
              clear ho hg hor
              refine HR.out _ _ HS.out ?_
              clear HR
              (simp only [Act.put, List.setIfInBounds_toArray, List.set_cons_zero, List.set_cons_succ])
              refine plan3_run (o := ?_) (by simp only [List.getElem?_toArray, List.getElem?_cons_succ, List.getElem?_cons_zero]; rfl) ?_
              intro R HR
              go_wp2_with fail
              rw [fold_dv d HDk.out]
              refine HR.out _ _ (show Hid (Below Wr.heap.size Wr (Wz101.alloc (.cells (bc d).toArray 26))) from hide (below_one HS.out.out (below_new _ _))) ?_
              clear HR
              refine plan3_named ?_
              intro Wz104 HWn
              have HS' : Hid (Hid (Below Wr.heap.size Wr Wz104)) := by
                have e : Wz104 = Wz101.alloc (.cells (bc d).toArray 26) := HWn.out
                subst e
                exact hide (hide (below_one HS.out.out (below_new _ _)))
              have HO' : Hid (Wz104.ownsRow Wr.heap.size 26 32 (.slice (some ⟨g102, 0, none⟩) p.length cp103) p.length (bc p.flatten)) := by
                have e : Wz104 = Wz101.alloc (.cells (bc d).toArray 26) := HWn.out
                subst e
                exact hide (HO.out.alloc _)
              have K11' : Hid (Blk Wz104 Wd.heap.size 26 (List.replicate 32 (.int .u8 0))) := by
                have e : Wz104 = Wz101.alloc (.cells (bc d).toArray 26) := HWn.out
                subst e
                exact hide (K11.out.alloc _)
              have K8' : Hid (Blk Wz104 Wz101.heap.size 26 (bc d)) := by
                have e : Wz104 = Wz101.alloc (.cells (bc d).toArray 26) := HWn.out
                subst e
                exact hide (Blk.new _ _ _)
              clear HS HO K11
              have HS := HS'
              have HO := HO'
              have K11 := K11'
              have K8 := K8'
              clear HS' HO' K11' K8' HWn
              refine plan3_run (o := ?_) (by simp only [List.getElem?_toArray, List.getElem?_cons_succ, List.getElem?_cons_zero]; rfl) ?_
              intro R HR
              refine wpList_of_wp (by rfl) (wp_app26f (.tmp 48) (.tmp 50) rfl Wr.heap.size g102 p.length cp103 p rfl HO.out (some ⟨Wz101.heap.size, 0, none⟩) 1 1 [d] rfl (DSrc.one_of K8.out HDk.out) (by have := HFP.out; omega) HS.out.out.size (p.length + 1) (p ++ [d]) rfl rfl ?_)
              intro g106 cp107 Wz105 ho hg hor
              obtain ⟨A9, c9, e9, hQ⟩ := own_dsrc ho (HPD.out.append (D32.one HDk.out)) (by simp)
              cases e9
              have HS' : Hid (Hid (Below Wr.heap.size Wr Wz105)) := hide (hide (HS.out.out.grown hg HS.out.out.size (fun k hk => (HO.out.lt k hk).1)))
              have K11' : Hid (Blk Wz105 Wd.heap.size 26 (List.replicate 32 (.int .u8 0))) := hide ((hg.block _ K11.out.lt (fun e => N11.out (Option.some.inj e))).trans K11.out)
              have HQ9' : Hid (DSrc Wz105 (some ⟨g106, 0, none⟩) (p.length + 1) cp107 (p ++ [d])) := hide hQ
              clear HS K11
              have HS := HS'
              have K11 := K11'
              have HQ9 := HQ9'
              clear HS' K11' HQ9'
              clear ho hg hor hQ HO
              refine HR.out _ _ HS.out ?_
              clear HR
              (simp only [Act.put, List.setIfInBounds_toArray, List.set_cons_zero, List.set_cons_succ])
              refine plan3_run (o := ?_) (by simp only [List.getElem?_toArray, List.getElem?_cons_succ, List.getElem?_cons_zero]; rfl) ?_
              intro R HR
              go_wp2_with fail
              refine (Climb_no5 d (p.length + 1) cp107 k N (some ⟨g106, 0, none⟩) Wz105 k N rfl rfl (by omega) (by omega) hlt (by have := HPS.out; omega)).mono ?_
              rintro e Wz108 ⟨rfl, hb⟩
              have HS' : Hid (Hid (Below Wr.heap.size Wr Wz108)) := hide (hide (below_one HS.out.out hb))
              have K11' : Hid (Blk Wz108 Wd.heap.size 26 (List.replicate 32 (.int .u8 0))) := hide (K11.out.below hb K11.out.lt)
              clear HS K11
              have HS := HS'
              have K11 := K11'
              clear HS' K11'
              clear hb
              go_wp2_with fail
              refine HR.out _ _ HS.out ?_
              clear HR
              (refine plan3_take (o := ?_) (v := ?_) (by simp only [List.getElem?_toArray, List.getElem?_cons_succ, List.getElem?_cons_zero]; rfl) (yields_run (by rfl) ?_) ?_; rotate_left; (focus (intro w' _; go_simp <;> with_reducible rfl)); (simp only [Act.put, List.setIfInBounds_toArray, List.set_cons_zero, List.set_cons_succ]))
              (refine plan3_take (o := ?_) (v := ?_) (by simp only [List.getElem?_toArray, List.getElem?_cons_succ, List.getElem?_cons_zero]; rfl) (yields_run (by rfl) ?_) ?_; rotate_left; (focus (intro w' _; go_simp <;> with_reducible rfl)); (simp only [Act.put, List.setIfInBounds_toArray, List.set_cons_zero, List.set_cons_succ]))
              (refine plan3_take (o := ?_) (v := ?_) (by simp only [List.getElem?_toArray, List.getElem?_cons_succ, List.getElem?_cons_zero]; rfl) (yields_run (by rfl) ?_) ?_; rotate_left; (focus (intro w' _; go_simp <;> with_reducible rfl)); (simp only [Act.put, List.setIfInBounds_toArray, List.set_cons_zero, List.set_cons_succ]))
              refine plan3_run (o := ?_) (by simp only [List.getElem?_toArray, List.getElem?_cons_succ, List.getElem?_cons_zero]; rfl) ?_
              intro R HR
              refine wpList_store_mid rfl 26 (.tmp 11) (.tmp 53) rfl Wd.heap.size 0 (bc zd).toArray rfl rfl (by rw [dv_size zd zd_len]; exact K11.out.there (by simp)) (by rw [dv_size zd zd_len]; exact Tryd.size26) (all_oneCell_toArray (bc_one _)) ?_
              have HS' : Hid (Hid (Below Wr.heap.size Wr (Wz108.setCells Wd.heap.size 0 (bc zd).toArray.toList))) := hide (hide (below_setCells HS.out.out HG11.out _ _))
              refine HR.out _ _ HS'.out ?_
              clear HR HS K11
              have HS := HS'
              clear HS'
              (simp only [Act.put])
              (refine plan3_take (o := ?_) (v := ?_) (by simp only [List.getElem?_toArray, List.getElem?_cons_succ, List.getElem?_cons_zero]; rfl) (yields_run (by rfl) ?_) ?_; rotate_left; (focus (intro w' _; go_simp <;> with_reducible rfl)); (simp only [Act.put, List.setIfInBounds_toArray, List.set_cons_zero, List.set_cons_succ]))
              refine plan3_done ?_
              exact ⟨_, _, _, _, _, rfl, hide HS.out.out⟩
            · intro R HR
              go_wp2_with fail
              rw [fold_dv d HDk.out]
              refine HR.out _ _ (show Hid (Below Wr.heap.size Wr (Wz100.alloc (.cells (bc d).toArray 26))) from hide (below_one HS.out.out (below_new _ _))) ?_
              clear HR
              refine plan3_named ?_
              intro Wz109 HWn
              have HS' : Hid (Hid (Below Wr.heap.size Wr Wz109)) := by
                have e : Wz109 = Wz100.alloc (.cells (bc d).toArray 26) := HWn.out
                subst e
                exact hide (hide (below_one HS.out.out (below_new _ _)))
              have HO' : Hid (Wz109.ownsRow Wr.heap.size 26 32 (.slice (some ⟨Wz99.heap.size, 0, none⟩) 0 0) 0 (bc ([] : List (List UInt8)).flatten)) := by
                have e : Wz109 = Wz100.alloc (.cells (bc d).toArray 26) := HWn.out
                subst e
                exact hide (HO.out.alloc _)
              have K11' : Hid (Blk Wz109 Wd.heap.size 26 (List.replicate 32 (.int .u8 0))) := by
                have e : Wz109 = Wz100.alloc (.cells (bc d).toArray 26) := HWn.out
                subst e
                exact hide (K11.out.alloc _)
              have K8' : Hid (Blk Wz109 Wz100.heap.size 26 (bc d)) := by
                have e : Wz109 = Wz100.alloc (.cells (bc d).toArray 26) := HWn.out
                subst e
                exact hide (Blk.new _ _ _)
              have N8' : Hid (¬ Wz100.heap.size = Wz99.heap.size) := by
                have e : Wz109 = Wz100.alloc (.cells (bc d).toArray 26) := HWn.out
                subst e
                exact hide (by have h2 : Wz99.heap.size < Wz100.heap.size := (HO.out.lt _ rfl).2; omega)
              clear HS HO K11
              have HS := HS'
              have HO := HO'
              have K11 := K11'
              have K8 := K8'
              have N8 := N8'
              clear HS' HO' K11' K8' N8' HWn
              refine plan3_run (o := ?_) (by simp only [List.getElem?_toArray, List.getElem?_cons_succ, List.getElem?_cons_zero]; rfl) ?_
              intro R HR
              refine wpList_of_wp (by rfl) (wp_app26f (.tmp 46) (.tmp 47) rfl Wr.heap.size Wz99.heap.size 0 0 [] rfl HO.out A2 p.length c2 p rfl (HC5.out.2.2.1.below HS.out.out) (by have := HFP.out; omega) HS.out.out.size p.length p (by omega) rfl ?_)
              intro g111 cp112 Wz110 ho hg hor
              have HS' : Hid (Hid (Below Wr.heap.size Wr Wz110)) := hide (hide (HS.out.out.grown hg HS.out.out.size (fun k hk => (HO.out.lt k hk).1)))
              have K8' : Hid (Blk Wz110 Wz100.heap.size 26 (bc d)) := hide ((hg.block _ K8.out.lt (fun e => N8.out (Option.some.inj e))).trans K8.out)
              have K11' : Hid (Blk Wz110 Wd.heap.size 26 (List.replicate 32 (.int .u8 0))) := hide ((hg.block _ K11.out.lt (fun e => N11.out (Option.some.inj e))).trans K11.out)
              have N11' : Hid (¬ Wd.heap.size = g111) := hide (by have h1 := N11.out; have h2 := K11.out.lt; rcases hor with e | e <;> rw [e] <;> omega)
              have HO' : Hid (Wz110.ownsRow Wr.heap.size 26 32 (.slice (some ⟨g111, 0, none⟩) p.length cp112) p.length (bc p.flatten)) := hide ho
              clear HS K8 K11 N11 HO
              have HS := HS'
              have K8 := K8'
              have K11 := K11'
              have N11 := N11'
              have HO := HO'
              clear HS' K8' K11' N11' HO'
              clear ho hg hor
              refine HR.out _ _ HS.out ?_
              clear HR
              (simp only [Act.put, List.setIfInBounds_toArray, List.set_cons_zero, List.set_cons_succ])
              refine plan3_run (o := ?_) (by simp only [List.getElem?_toArray, List.getElem?_cons_succ, List.getElem?_cons_zero]; rfl) ?_
              intro R HR
              refine wpList_of_wp (by rfl) (wp_app26f (.tmp 48) (.tmp 50) rfl Wr.heap.size g111 p.length cp112 p rfl HO.out (some ⟨Wz100.heap.size, 0, none⟩) 1 1 [d] rfl (DSrc.one_of K8.out HDk.out) (by have := HFP.out; omega) HS.out.out.size (p.length + 1) (p ++ [d]) rfl rfl ?_)
              intro g114 cp115 Wz113 ho hg hor
              obtain ⟨A9, c9, e9, hQ⟩ := own_dsrc ho (HPD.out.append (D32.one HDk.out)) (by simp)
              cases e9
              have HS' : Hid (Hid (Below Wr.heap.size Wr Wz113)) := hide (hide (HS.out.out.grown hg HS.out.out.size (fun k hk => (HO.out.lt k hk).1)))
              have K11' : Hid (Blk Wz113 Wd.heap.size 26 (List.replicate 32 (.int .u8 0))) := hide ((hg.block _ K11.out.lt (fun e => N11.out (Option.some.inj e))).trans K11.out)
              have HQ9' : Hid (DSrc Wz113 (some ⟨g114, 0, none⟩) (p.length + 1) cp115 (p ++ [d])) := hide hQ
              clear HS K11
              have HS := HS'
              have K11 := K11'
              have HQ9 := HQ9'
              clear HS' K11' HQ9'
              clear ho hg hor hQ HO
              refine HR.out _ _ HS.out ?_
              clear HR
              (simp only [Act.put, List.setIfInBounds_toArray, List.set_cons_zero, List.set_cons_succ])
              refine plan3_run (o := ?_) (by simp only [List.getElem?_toArray, List.getElem?_cons_succ, List.getElem?_cons_zero]; rfl) ?_
              intro R HR
              go_wp2_with fail
              refine (Climb_no5 d (p.length + 1) cp115 k N (some ⟨g114, 0, none⟩) Wz113 k N rfl rfl (by omega) (by omega) hlt (by have := HPS.out; omega)).mono ?_
              rintro e Wz116 ⟨rfl, hb⟩
              have HS' : Hid (Hid (Below Wr.heap.size Wr Wz116)) := hide (hide (below_one HS.out.out hb))
              have K11' : Hid (Blk Wz116 Wd.heap.size 26 (List.replicate 32 (.int .u8 0))) := hide (K11.out.below hb K11.out.lt)
              clear HS K11
              have HS := HS'
              have K11 := K11'
              clear HS' K11'
              clear hb
              go_wp2_with fail
              refine HR.out _ _ HS.out ?_
              clear HR
              (refine plan3_take (o := ?_) (v := ?_) (by simp only [List.getElem?_toArray, List.getElem?_cons_succ, List.getElem?_cons_zero]; rfl) (yields_run (by rfl) ?_) ?_; rotate_left; (focus (intro w' _; go_simp <;> with_reducible rfl)); (simp only [Act.put, List.setIfInBounds_toArray, List.set_cons_zero, List.set_cons_succ]))
              (refine plan3_take (o := ?_) (v := ?_) (by simp only [List.getElem?_toArray, List.getElem?_cons_succ, List.getElem?_cons_zero]; rfl) (yields_run (by rfl) ?_) ?_; rotate_left; (focus (intro w' _; go_simp <;> with_reducible rfl)); (simp only [Act.put, List.setIfInBounds_toArray, List.set_cons_zero, List.set_cons_succ]))
              (refine plan3_take (o := ?_) (v := ?_) (by simp only [List.getElem?_toArray, List.getElem?_cons_succ, List.getElem?_cons_zero]; rfl) (yields_run (by rfl) ?_) ?_; rotate_left; (focus (intro w' _; go_simp <;> with_reducible rfl)); (simp only [Act.put, List.setIfInBounds_toArray, List.set_cons_zero, List.set_cons_succ]))
              refine plan3_run (o := ?_) (by simp only [List.getElem?_toArray, List.getElem?_cons_succ, List.getElem?_cons_zero]; rfl) ?_
              intro R HR
              refine wpList_store_mid rfl 26 (.tmp 11) (.tmp 53) rfl Wd.heap.size 0 (bc zd).toArray rfl rfl (by rw [dv_size zd zd_len]; exact K11.out.there (by simp)) (by rw [dv_size zd zd_len]; exact Tryd.size26) (all_oneCell_toArray (bc_one _)) ?_
              have HS' : Hid (Hid (Below Wr.heap.size Wr (Wz116.setCells Wd.heap.size 0 (bc zd).toArray.toList))) := hide (hide (below_setCells HS.out.out HG11.out _ _))
              refine HR.out _ _ HS'.out ?_
              clear HR HS K11
              have HS := HS'
              clear HS'
              (simp only [Act.put])
              (refine plan3_take (o := ?_) (v := ?_) (by simp only [List.getElem?_toArray, List.getElem?_cons_succ, List.getElem?_cons_zero]; rfl) (yields_run (by rfl) ?_) ?_; rotate_left; (focus (intro w' _; go_simp <;> with_reducible rfl)); (simp only [Act.put, List.setIfInBounds_toArray, List.set_cons_zero, List.set_cons_succ]))
              refine plan3_done ?_
              exact ⟨_, _, _, _, _, rfl, hide HS.out.out⟩
          · intro R HR
            go_wp2_with fail
            rw [fold_dv d HDk.out]
            refine HR.out _ _ (show Hid (Below Wr.heap.size Wr (Wz99.alloc (.cells (bc d).toArray 26))) from hide (below_one HS.out.out (below_new _ _))) ?_
            clear HR
            refine plan3_named ?_
            intro Wz117 HWn
            have HS' : Hid (Hid (Below Wr.heap.size Wr Wz117)) := by
              have e : Wz117 = Wz99.alloc (.cells (bc d).toArray 26) := HWn.out
              subst e
              exact hide (hide (below_one HS.out.out (below_new _ _)))
            have K11' : Hid (Blk Wz117 Wd.heap.size 26 (List.replicate 32 (.int .u8 0))) := by
              have e : Wz117 = Wz99.alloc (.cells (bc d).toArray 26) := HWn.out
              subst e
              exact hide (K11.out.alloc _)
            have K8' : Hid (Blk Wz117 Wz99.heap.size 26 (bc d)) := by
              have e : Wz117 = Wz99.alloc (.cells (bc d).toArray 26) := HWn.out
              subst e
              exact hide (Blk.new _ _ _)
            clear HS K11
            have HS := HS'
            have K11 := K11'
            have K8 := K8'
            clear HS' K11' K8' HWn
            refine plan3_run (o := ?_) (by simp only [List.getElem?_toArray, List.getElem?_cons_succ, List.getElem?_cons_zero]; rfl) ?_
            intro R HR
            go_wp2_with fail
            refine HR.out _ _ (show Hid (Below Wr.heap.size Wr (Wz117.alloc (.cells #[] 26))) from hide (below_one HS.out.out (below_new _ _))) ?_
            clear HR
            refine plan3_named ?_
            intro Wz118 HWn
            have HS' : Hid (Hid (Below Wr.heap.size Wr Wz118)) := by
              have e : Wz118 = Wz117.alloc (.cells #[] 26) := HWn.out
              subst e
              exact hide (hide (below_one HS.out.out (below_new _ _)))
            have K8' : Hid (Blk Wz118 Wz99.heap.size 26 (bc d)) := by
              have e : Wz118 = Wz117.alloc (.cells #[] 26) := HWn.out
              subst e
              exact hide (K8.out.alloc _)
            have K11' : Hid (Blk Wz118 Wd.heap.size 26 (List.replicate 32 (.int .u8 0))) := by
              have e : Wz118 = Wz117.alloc (.cells #[] 26) := HWn.out
              subst e
              exact hide (K11.out.alloc _)
            have HO' : Hid (Wz118.ownsRow Wr.heap.size 26 32 (.slice (some ⟨Wz117.heap.size, 0, none⟩) 0 0) 0 (bc ([] : List (List UInt8)).flatten)) := by
              have e : Wz118 = Wz117.alloc (.cells #[] 26) := HWn.out
              subst e
              exact hide (own_empty _ _ 26 26 32 rfl HS.out.out.size)
            have N8' : Hid (¬ Wz99.heap.size = Wz117.heap.size) := by
              have e : Wz118 = Wz117.alloc (.cells #[] 26) := HWn.out
              subst e
              exact hide (by have := K8.out.lt; omega)
            have N11' : Hid (¬ Wd.heap.size = Wz117.heap.size) := by
              have e : Wz118 = Wz117.alloc (.cells #[] 26) := HWn.out
              subst e
              exact hide (by have := K11.out.lt; omega)
            clear HS K8 K11
            have HS := HS'
            have K8 := K8'
            have K11 := K11'
            have HO := HO'
            have N8 := N8'
            have N11 := N11'
            clear HS' K8' K11' HO' N8' N11' HWn
            refine plan3_run (o := ?_) (by simp only [List.getElem?_toArray, List.getElem?_cons_succ, List.getElem?_cons_zero]; rfl) ?_
            intro R HR
            refine wpList_of_wp (by rfl) (wp_app26f (.tmp 46) (.tmp 47) rfl Wr.heap.size Wz117.heap.size 0 0 [] rfl HO.out A2 p.length c2 p rfl (HC5.out.2.2.1.below HS.out.out) (by have := HFP.out; omega) HS.out.out.size p.length p (by omega) rfl ?_)
            intro g120 cp121 Wz119 ho hg hor
            have HS' : Hid (Hid (Below Wr.heap.size Wr Wz119)) := hide (hide (HS.out.out.grown hg HS.out.out.size (fun k hk => (HO.out.lt k hk).1)))
            have K8' : Hid (Blk Wz119 Wz99.heap.size 26 (bc d)) := hide ((hg.block _ K8.out.lt (fun e => N8.out (Option.some.inj e))).trans K8.out)
            have K11' : Hid (Blk Wz119 Wd.heap.size 26 (List.replicate 32 (.int .u8 0))) := hide ((hg.block _ K11.out.lt (fun e => N11.out (Option.some.inj e))).trans K11.out)
            have N11' : Hid (¬ Wd.heap.size = g120) := hide (by have h1 := N11.out; have h2 := K11.out.lt; rcases hor with e | e <;> rw [e] <;> omega)
            have HO' : Hid (Wz119.ownsRow Wr.heap.size 26 32 (.slice (some ⟨g120, 0, none⟩) p.length cp121) p.length (bc p.flatten)) := hide ho
            clear HS K8 K11 N11 HO
            have HS := HS'
            have K8 := K8'
            have K11 := K11'
            have N11 := N11'
            have HO := HO'
            clear HS' K8' K11' N11' HO'
            clear ho hg hor
            refine HR.out _ _ HS.out ?_
            clear HR
            (simp only [Act.put, List.setIfInBounds_toArray, List.set_cons_zero, List.set_cons_succ])
            refine plan3_run (o := ?_) (by simp only [List.getElem?_toArray, List.getElem?_cons_succ, List.getElem?_cons_zero]; rfl) ?_
            intro R HR
            refine wpList_of_wp (by rfl) (wp_app26f (.tmp 48) (.tmp 50) rfl Wr.heap.size g120 p.length cp121 p rfl HO.out (some ⟨Wz99.heap.size, 0, none⟩) 1 1 [d] rfl (DSrc.one_of K8.out HDk.out) (by have := HFP.out; omega) HS.out.out.size (p.length + 1) (p ++ [d]) rfl rfl ?_)
            intro g123 cp124 Wz122 ho hg hor
            obtain ⟨A9, c9, e9, hQ⟩ := own_dsrc ho (HPD.out.append (D32.one HDk.out)) (by simp)
            cases e9
            have HS' : Hid (Hid (Below Wr.heap.size Wr Wz122)) := hide (hide (HS.out.out.grown hg HS.out.out.size (fun k hk => (HO.out.lt k hk).1)))
            have K11' : Hid (Blk Wz122 Wd.heap.size 26 (List.replicate 32 (.int .u8 0))) := hide ((hg.block _ K11.out.lt (fun e => N11.out (Option.some.inj e))).trans K11.out)
            have HQ9' : Hid (DSrc Wz122 (some ⟨g123, 0, none⟩) (p.length + 1) cp124 (p ++ [d])) := hide hQ
            clear HS K11
            have HS := HS'
            have K11 := K11'
            have HQ9 := HQ9'
            clear HS' K11' HQ9'
            clear ho hg hor hQ HO
            refine HR.out _ _ HS.out ?_
            clear HR
            (simp only [Act.put, List.setIfInBounds_toArray, List.set_cons_zero, List.set_cons_succ])
            refine plan3_run (o := ?_) (by simp only [List.getElem?_toArray, List.getElem?_cons_succ, List.getElem?_cons_zero]; rfl) ?_
            intro R HR
            go_wp2_with fail
            refine (Climb_no5 d (p.length + 1) cp124 k N (some ⟨g123, 0, none⟩) Wz122 k N rfl rfl (by omega) (by omega) hlt (by have := HPS.out; omega)).mono ?_
            rintro e Wz125 ⟨rfl, hb⟩
            have HS' : Hid (Hid (Below Wr.heap.size Wr Wz125)) := hide (hide (below_one HS.out.out hb))
            have K11' : Hid (Blk Wz125 Wd.heap.size 26 (List.replicate 32 (.int .u8 0))) := hide (K11.out.below hb K11.out.lt)
            clear HS K11
            have HS := HS'
            have K11 := K11'
            clear HS' K11'
            clear hb
            go_wp2_with fail
            refine HR.out _ _ HS.out ?_
            clear HR
            (refine plan3_take (o := ?_) (v := ?_) (by simp only [List.getElem?_toArray, List.getElem?_cons_succ, List.getElem?_cons_zero]; rfl) (yields_run (by rfl) ?_) ?_; rotate_left; (focus (intro w' _; go_simp <;> with_reducible rfl)); (simp only [Act.put, List.setIfInBounds_toArray, List.set_cons_zero, List.set_cons_succ]))
            (refine plan3_take (o := ?_) (v := ?_) (by simp only [List.getElem?_toArray, List.getElem?_cons_succ, List.getElem?_cons_zero]; rfl) (yields_run (by rfl) ?_) ?_; rotate_left; (focus (intro w' _; go_simp <;> with_reducible rfl)); (simp only [Act.put, List.setIfInBounds_toArray, List.set_cons_zero, List.set_cons_succ]))
            (refine plan3_take (o := ?_) (v := ?_) (by simp only [List.getElem?_toArray, List.getElem?_cons_succ, List.getElem?_cons_zero]; rfl) (yields_run (by rfl) ?_) ?_; rotate_left; (focus (intro w' _; go_simp <;> with_reducible rfl)); (simp only [Act.put, List.setIfInBounds_toArray, List.set_cons_zero, List.set_cons_succ]))
            refine plan3_run (o := ?_) (by simp only [List.getElem?_toArray, List.getElem?_cons_succ, List.getElem?_cons_zero]; rfl) ?_
            intro R HR
            refine wpList_store_mid rfl 26 (.tmp 11) (.tmp 53) rfl Wd.heap.size 0 (bc zd).toArray rfl rfl (by rw [dv_size zd zd_len]; exact K11.out.there (by simp)) (by rw [dv_size zd zd_len]; exact Tryd.size26) (all_oneCell_toArray (bc_one _)) ?_
            have HS' : Hid (Hid (Below Wr.heap.size Wr (Wz125.setCells Wd.heap.size 0 (bc zd).toArray.toList))) := hide (hide (below_setCells HS.out.out HG11.out _ _))
            refine HR.out _ _ HS'.out ?_
            clear HR HS K11
            have HS := HS'
            clear HS'
            (simp only [Act.put])
            (refine plan3_take (o := ?_) (v := ?_) (by simp only [List.getElem?_toArray, List.getElem?_cons_succ, List.getElem?_cons_zero]; rfl) (yields_run (by rfl) ?_) ?_; rotate_left; (focus (intro w' _; go_simp <;> with_reducible rfl)); (simp only [Act.put, List.setIfInBounds_toArray, List.set_cons_zero, List.set_cons_succ]))
            refine plan3_done ?_
            exact ⟨_, _, _, _, _, rfl, hide HS.out.out⟩
      rintro ac W6 ⟨x11, x46, x48, x50, x51, rfl, HQ⟩
      have HK9 := hide (HC5.out.1.below HQ.out HC5.out.1.lt)
      have HK4 := hide (HC5.out.2.2.2.below HQ.out)
      have hg5 : decide ((5 : Int) < (p.length : Int)) = false := by have := HFP.out; simp; omega
      clear HC5 hd32
      go_wp2_with (first | (refine wpList_of_wp (by rfl) (wp_load_mid 26 (.tmp 9) rfl w5.heap.size 0 rfl (bc T) _ (bs_range HK9.out.bs) Tryd.underlying26 rfl HSt.out ?_)) | (refine wpList_of_wp (by rfl) (wp_load_mid 26 (.tmp 4) rfl w3.heap.size 0 rfl (bc T) _ (bs_range HK4.out.k4.bs) Tryd.underlying26 rfl HSt.out ?_)) | (refine wpList_neqD (by rfl) (.tmp 62) (.tmp 63) 26 rfl T rfl rfl HTL.out ?_))
      go_roundw
      case rel => exact ⟨k + 1, by omega, by go_num, HK4⟩
      case measure => simp [intOf]; omega
    · have hge : ¬ (k : Int) < (N : Int) := by omega
      go_wp2_with fail
      go_ret
      exact ⟨rfl, HJ.out.bel⟩

end Go.Proofs.YtnopibpakchejaaDoor
