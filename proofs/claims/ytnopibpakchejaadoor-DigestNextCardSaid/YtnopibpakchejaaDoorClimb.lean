/- climb. -/
import Derived.Test.YtnopibpakchejaaDoorLen
import Derived.Test.YtnopibpakchejaaDoorHoist
namespace Go.Proofs.YtnopibpakchejaaDoor
open Go.RowKit

/-- What climb promises of lists of n elements. -/
def ClimbAt (n : Nat) : Prop := ∀ (d : List UInt8) (p : List (List UInt8)) (m cap k : Nat) (kk nn : Int) (a : Option Addr) (w : World), d.length = 32 → m = p.length → m = stepsL k n → kk = k → nn = n → k < n → Tab w → D32 p → Ds w a p → m ≤ cap → cap ≤ 9223372036854775807 →
  Calls Tryd.prog 43 #[dv d, .int .i64 kk, .int .i64 nn, .slice a m cap] w fun e w' => e = .returned (dv (climbL d k n p)) ∧ Below w.heap.size w w'

theorem two_new (w : World) (A B : Nat) (a b : List Value) :
    Blk ((w.alloc (.cells a.toArray A)).alloc (.cells b.toArray B)) w.heap.size A a ∧ Blk ((w.alloc (.cells a.toArray A)).alloc (.cells b.toArray B)) (w.heap.size + 1) B b ∧ Below w.heap.size w ((w.alloc (.cells a.toArray A)).alloc (.cells b.toArray B)) := by
  have h1 := Blk.new w A a
  have h2 := Blk.new (w.alloc (.cells a.toArray A)) B b
  rw [World.size_alloc] at h2
  exact ⟨h1.alloc _, h2, (below_new w _).alloc (by simp) _⟩
theorem Blk.range {w : World} {X T : Nat} {cs : List Value} (h : Blk w X T cs) : w.rangeAt X 0 cs := fun j v hv => by
  rw [Nat.zero_add, h.cell]; exact hv

/-- What the region of climb keeps. -/
abbrev CS (w : World) (b off : Nat) (d x : List UInt8) (W : World) : Prop := W.rangeAt w.heap.size 0 (bc d) ∧ W.rangeAt b off (bc x) ∧ W.there (w.heap.size + 1) 0 32 ∧ Hid (Blk W w.heap.size 26 (bc d) ∧ (∃ cs, Blk W (w.heap.size + 1) 26 cs ∧ cs.length = 32) ∧ Below w.heap.size w W)
theorem CS.mk {w W : World} {b off : Nat} {d x : List UInt8} {cs : List Value} (hx : ∀ W, Below w.heap.size w W → W.rangeAt b off (bc x)) (h1 : Blk W w.heap.size 26 (bc d)) (h2 : Blk W (w.heap.size + 1) 26 cs) (hl : cs.length = 32) (hb : Below w.heap.size w W) : CS w b off d x W :=
  ⟨h1.range, hx W hb, h2.there hl, hide ⟨h1, ⟨cs, h2, hl⟩, hb⟩⟩
theorem CS.bel {w W : World} {b off : Nat} {d x : List UInt8} (h : CS w b off d x W) : Below w.heap.size w W := h.2.2.2.2.2
theorem CS.keep {w W W' : World} {b off : Nat} {d x : List UInt8} (hx : ∀ W, Below w.heap.size w W → W.rangeAt b off (bc x)) (hb : Below W.heap.size W W') (h : CS w b off d x W) : CS w b off d x W' := by
  obtain ⟨_, _, _, h1, ⟨cs, h2, hl⟩, h3⟩ := h
  exact CS.mk hx (h1.below hb h1.lt) (h2.below hb h2.lt) hl (below_one h3 hb)
theorem Blk.setCellsOther {w : World} {X T b : Nat} {cs : List Value} (h : Blk w X T cs) (hne : X ≠ b) (vs : List Value) (o : Nat) : Blk (w.setCells b o vs) X T cs := (setCells_other w b vs o X hne).trans h
theorem CS.put {w W : World} {b off : Nat} {d x : List UInt8} {vs : List Value} (hx : ∀ W, Below w.heap.size w W → W.rangeAt b off (bc x)) (hv : vs.length = 32) (h : CS w b off d x W) : CS w b off d x (W.setCells (w.heap.size + 1) 0 vs) := by
  obtain ⟨_, _, _, h1, ⟨cs, h2, hl⟩, h3⟩ := h
  exact CS.mk hx (h1.setCellsOther (by omega) _ _) (h2.setAll (by rw [hl, hv])) hv (below_setCells h3 (by omega) _ _)
theorem CS.stored {w W : World} {b off : Nat} {d x : List UInt8} {vs : List Value} (hv : vs.length = 32) (h : CS w b off d x (W.setCells (w.heap.size + 1) 0 vs)) : Blk (W.setCells (w.heap.size + 1) 0 vs) (w.heap.size + 1) 26 vs ∧ Below w.heap.size w (W.setCells (w.heap.size + 1) 0 vs) := by
  refine ⟨?_, h.bel⟩
  obtain ⟨_, _, _, _, ⟨cs, hc, hl⟩, _⟩ := h
  obtain ⟨old, ho, hlo⟩ := blk_before _ _ _ hc
  exact ho.setAll (by rw [hlo, hl, hv])

set_option maxRecDepth 10000 in
set_option maxHeartbeats 800000 in
theorem climb_one (n : Nat) (hn : n = 1) : ClimbAt n := by
  subst hn
  intro d p m cap k kk nn a w hd hm hs hkk hnn hk hT hD hL hcap hcap'
  subst hkk hnn
  have HT := hide hT
  have HD := hide hd
  have HC := hide (climbL_one (n := 1) (by omega) d k p)
  clear hT hd hm hs hD hL
  have HR1 := hide (two_new w 26 26 (bc d) z32)
  rw [← z32_eq] at HR1
  have HRG := hide (HR1.out.1.range)
  have HSZ := hide (show (Tryd.prog.info? 26).map (·.size) = some (bc d).length by rw [bc_len, HD.out]; exact Tryd.size26)
  go_enter Tryd.func43, Tryd.ntmps43
  go_wp2_with (refine wpList_load_mid rfl 26 (.tmp 4) rfl w.heap.size 0 rfl (bc d) _ HRG.out Tryd.underlying26 rfl HSZ.out ?_)
  refine name_world ?_
  intro W1 HW1
  have HA : Hid (Blk W1 (w.heap.size + 1) 26 z32 ∧ Below w.heap.size w W1) := by
    have e : W1 = (w.alloc (.cells (bc d).toArray 26)).alloc (.cells (List.replicate 32 (.int .u8 0)).toArray 26) := HW1.out
    rw [e]
    rw [z32_eq] at HR1 ⊢
    exact hide HR1.out.2
  clear HW1 HR1 HRG HSZ
  with_reducible refine (leaf_any d W1 (HT.out.below HA.out.2) HD.out).mono ?_
  rintro e w2 ⟨rfl, hb2⟩
  have HR := hide (HA.out.1.below hb2 HA.out.1.lt)
  have HB := hide (below_one HA.out.2 hb2)
  clear HA hb2
  have HS := hide (dv_size _ (tagd_len tLeaf d))
  have HZ := hide (show (Tryd.prog.info? 26).map (·.size) = some ((bc (tagd tLeaf d)).toArray).size by rw [HS.out]; exact Tryd.size26)
  have HO := hide (all_oneCell_toArray (bc_one (tagd tLeaf d)))
  go_wp2_with (refine wpList_store_row rfl 26 (.tmp 8) (.tmp 14) rfl (w.heap.size + 1) _ rfl rfl 26 _ HR.out HZ.out (by rw [HS.out, List.size_toArray, z32_len]) HO.out ?_)
  rw [HC.out]
  refine bodyPost_ret (v := dv (tagd tLeaf d)) (results_cell_row rfl _ _ (w.heap.size + 1) 26 _ (0, 0) _ rfl (setRow_heap _ _ _ _ _ _ HR.out) Tryd.underlying26 rfl HZ.out) rfl ⟨rfl, below_setRow HB.out (by omega) _⟩

set_option maxRecDepth 10000 in
set_option maxHeartbeats 800000 in
theorem climb_left (n : Nat) (h2 : 2 ≤ n) (hn : n ≤ 1099511627776) (ih : ∀ k, k < n → ClimbAt k) (d : List UInt8) (q : List (List UInt8)) (x : List UInt8) (j cap k : Nat) (a : Option Addr) (w : World) (hd : d.length = 32) (hj : j = q.length) (hs : j + 1 = stepsL k n) (hk : k < hp n)
    (hT : Tab w) (hD : D32 (q ++ [x])) (hL : Ds w a (q ++ [x])) (hcap : j + 1 ≤ cap) (hcap' : cap ≤ 9223372036854775807) :
    Calls Tryd.prog 43 #[dv d, .int .i64 (k : Nat), .int .i64 (n : Nat), .slice a (j + 1) cap] w fun e w' => e = .returned (dv (climbL d k n (q ++ [x]))) ∧ Below w.heap.size w w' := by
  obtain ⟨b, o, rfl, hB⟩ := hL.at hD (by simp)
  have hp1 := hp_pos n
  have hp2 := hp_lt h2
  have blt : b < w.heap.size := hB.lt (by rw [hD.flat]; simp)
  have hx : x.length = 32 := hD x (by simp)
  have hq : D32 q := fun y hy => hD y (by simp [hy])
  have hsq : j = stepsL k (hp n) := by rw [stepsL_left h2 hk] at hs; omega
  have HCL := hide (fun (W : World) (hW : Below w.heap.size w W) => ih (hp n) hp2 d q j cap k (k : Nat) (hp n : Nat) (some ⟨b, o, none⟩) W hd hj hsq rfl rfl hk (hT.below hW) hq (Ds.of (by have := (bs_take hD (hB.below hW blt) j); rwa [hj, List.take_left] at this)) (by omega) hcap')
  have HND := hide (fun (W : World) (hW : Below w.heap.size w W) => node_any (climbL d k (hp n) q) x W (hT.below hW) (climbL_len _ _ _ _) hx)
  have HMO := hide (show climbL d k n (q ++ [x]) = tagd tNode (climbL d k (hp n) q ++ x) by rw [climbL_left h2 hk, List.dropLast_concat, List.getLastD_concat])
  have HFP := hide (fun (W : World) => firstPart_any n W h2 hn)
  have HXR := hide (fun (W : World) (hW : Below w.heap.size w W) => bs_range (by have := bs_one hD (hB.below hW blt) j (by simp; omega); rwa [List.getElem_concat_length hj, Nat.mul_comm] at this : Bs W b (o + j * 32) x))
  have HD := hide (And.intro hd hx)
  generalize hp n = h at *
  clear hT hL hB ih hD hq hd hx hj hs hsq
  generalize climbL d k h q = C at *
  have HR1 := hide (two_new w 26 26 (bc d) z32)
  rw [← z32_eq] at HR1
  go_enter Tryd.func43, Tryd.ntmps43
  go_wp2_with (go_at_call 36; ((with_reducible refine (HFP.out _).mono ?_); rintro e w' ⟨rfl, rfl⟩))
  refine name_code ?_
  intro W0 HW0
  have HCS : Hid (CS w b (o + j * 32) d x W0.drew) := by
    have e : W0 = (w.alloc (.cells (bc d).toArray 26)).alloc (.cells (List.replicate 32 (.int .u8 0)).toArray 26) := HW0.out
    rw [e]
    exact hide (CS.mk HXR.out HR1.out.1.drew HR1.out.2.1.drew (by simp) HR1.out.2.2.drew)
  clear HW0 HR1
  have HV := hide (tagd_len tNode (C ++ x))
  have hVL : (bc (tagd tNode (C ++ x))).length = 32 := by rw [bc_len, HV.out]
  have hVS : (Tryd.prog.info? 26).map (·.size) = some (bc (tagd tNode (C ++ x))).length := by rw [hVL]; exact Tryd.size26
  have hVO := bc_one (tagd tNode (C ++ x))
  have hDS : (Tryd.prog.info? 26).map (·.size) = some (bc d).length := by rw [bc_len, HD.out.1]; exact Tryd.size26
  have hXS : (Tryd.prog.info? 26).map (·.size) = some (bc x).length := by rw [bc_len, HD.out.2]; exact Tryd.size26
  have hU := Tryd.underlying26
  have i1 : (0 : Int) ≤ (j : Int) := by omega
  have i2 : (j : Int) < (j : Int) + 1 := by omega
  have i3 : (j : Int) ≤ (cap : Int) := by omega
  have i4 : (j : Int) ≤ (j : Int) + 1 := by omega
  refine wp_region_hoist (CS w b (o + j * 32) d x) [true, true, true, true, true, true, false, true, true, true, true, false, false] (by kernel_rfl) (by kernel_rfl) HCS.out ?_
  refine head_take (yieldsIf_load_mid (by rfl) _ _ rfl w.heap.size 0 rfl (bc d) _ (fun w' hw => hw.1) hU rfl hDS) ?_
  simp only [Act.put, List.setIfInBounds_toArray, List.set_cons_zero, List.set_cons_succ]
  repeat (refine head_take (v := ?_) (yields_run (by rfl) ?_) ?_; rotate_left; (focus (intro w' _; go_simp <;> with_reducible rfl)); (simp only [Act.put, List.setIfInBounds_toArray, List.set_cons_zero, List.set_cons_succ]))
  refine head_take (yieldsIf_load_mid (by rfl) _ _ rfl b (o + j * 32) rfl (bc x) _ (fun w' hw => hw.2.1) hU rfl hXS) ?_
  simp only [Act.put, List.setIfInBounds_toArray, List.set_cons_zero, List.set_cons_succ]
  refine head_skip (head_skip (head_done ?_))
  repeat refine tail_skip ?_
  refine tail_step ?_
  intro R HR
  go_wp2_with fail
  with_reducible refine (HCL.out _ HCS.out.bel).mono ?_
  rintro e w1 ⟨rfl, hb⟩
  have HC1 := hide (CS.keep HXR.out hb HCS.out)
  clear hb HCS
  go_wp2_with fail
  refine HR.out _ _ HC1.out ?_
  clear HR
  repeat refine tail_skip ?_
  refine tail_step ?_
  intro R HR
  go_wp2_with fail
  with_reducible refine (HND.out _ HC1.out.bel).mono ?_
  rintro e w2 ⟨rfl, hb⟩
  have HC2 := hide (CS.keep HXR.out hb HC1.out)
  clear hb HC1
  go_wp2_with fail
  refine HR.out _ _ HC2.out ?_
  clear HR
  have HST := hide (CS.put HXR.out hVL HC2.out)
  refine tail_step ?_
  intro R HR
  have HVS := hide hVS
  have HVO := hide hVO
  have HVL := hide hVL
  clear hVS hVO hVL hDS hXS
  have HTH : Hid (w2.there (w.heap.size + 1) 0 (bc (tagd tNode (C ++ x))).toArray.size) := hide (by rw [dv_size _ HV.out]; exact HC2.out.2.2.1)
  have HVZ : Hid ((Tryd.prog.info? 26).map (·.size) = some (bc (tagd tNode (C ++ x))).toArray.size) := hide (by rw [dv_size _ HV.out]; exact Tryd.size26)
  refine wpList_store_mid rfl 26 (.tmp 8) (.tmp 34) rfl (w.heap.size + 1) 0 (bc (tagd tNode (C ++ x))).toArray rfl rfl HTH.out HVZ.out (all_oneCell_toArray HVO.out) ?_
  refine HR.out _ _ HST.out ?_
  have HF := hide (CS.stored HVL.out HST.out)
  clear HR HST HC2
  refine tail_done ?_
  go_wp2_with fail
  rw [HMO.out]
  refine bodyPost_ret (v := dv (tagd tNode (C ++ x))) (results_cell_row rfl _ _ (w.heap.size + 1) 26 _ (0, 0) _ rfl HF.out.1 Tryd.underlying26 rfl HVZ.out) rfl ⟨rfl, HF.out.2⟩
end Go.Proofs.YtnopibpakchejaaDoor
