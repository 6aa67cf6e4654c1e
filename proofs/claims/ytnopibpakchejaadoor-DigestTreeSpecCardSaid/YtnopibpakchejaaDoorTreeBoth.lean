/- The reference's climb. -/
import Derived.Test.YtnopibpakchejaaDoorRSame
import Derived.Test.YtnopibpakchejaaDoorClimbF
namespace Go.Proofs.YtnopibpakchejaaDoor
open Go.RowKit

/-- What the regions of climb keep. -/
structure Q3 (w : World) (d x : List UInt8) (W : World) : Prop where
  a : Blk W w.heap.size 26 (bc d)
  r : ∃ cs, Blk W (w.heap.size + 1) 26 cs ∧ cs.length = 32
  c : Blk W (w.heap.size + 2) 26 (bc x)
  bel : Below w.heap.size w W
theorem Q3.keep {w W W' : World} {d x : List UInt8} (h : Q3 w d x W) (hb : Below W.heap.size W W') : Q3 w d x W' := by
  obtain ⟨cs, hr, hl⟩ := h.r
  exact ⟨h.a.below hb h.a.lt, ⟨cs, hr.below hb hr.lt, hl⟩, h.c.below hb h.c.lt, below_one h.bel hb⟩
theorem Q3.drew {w W : World} {d x : List UInt8} (h : Q3 w d x W) : Q3 w d x W.drew := ⟨h.a.drew, h.r, h.c.drew, h.bel.drew⟩
theorem Q3.row {w W : World} {d x : List UInt8} (h : Q3 w d x W) (cs : List Value) (hl : cs.length = 32) : Q3 w d x (W.setRow (w.heap.size + 1) cs.toArray) := by
  obtain ⟨cs0, hr, _⟩ := h.r
  exact ⟨(setRow_other _ _ _ _ (by omega)).trans h.a, ⟨cs, hr.row cs, hl⟩, (setRow_other _ _ _ _ (by omega)).trans h.c, below_setRow h.bel (by omega) _⟩
theorem Q3.start (w : World) (d x : List UInt8) : Q3 w d x ((((w.alloc (.cells (bc d).toArray 26)).alloc (.cells (List.replicate 32 (.int .u8 0)).toArray 26)).alloc (.cells (List.replicate 32 (.int .u8 0)).toArray 26)).setRow (w.heap.size + 1 + 1) (bc x).toArray) := by
  have h1 := Blk.new w 26 (bc d)
  have h2 := Blk.new (w.alloc (.cells (bc d).toArray 26)) 26 (List.replicate 32 (.int .u8 0))
  have h3 := Blk.new ((w.alloc (.cells (bc d).toArray 26)).alloc (.cells (List.replicate 32 (.int .u8 0)).toArray 26)) 26 (List.replicate 32 (.int .u8 0))
  have hb := ((below_new w (.cells (bc d).toArray 26)).alloc (by simp) (.cells (List.replicate 32 (.int .u8 0)).toArray 26)).alloc (by simp; omega) (.cells (List.replicate 32 (.int .u8 0)).toArray 26)
  simp only [World.size_alloc] at h2 h3
  exact ⟨(setRow_other _ _ _ _ (by omega)).trans ((h1.alloc _).alloc _), ⟨_, (setRow_other _ _ _ _ (by omega)).trans (h2.alloc _), by simp⟩, h3.row _, below_setRow hb (by omega) _⟩

/-- What the reference's climb promises of lists of n elements. -/
def RClimbAt (n : Nat) : Prop := ∀ (d : List UInt8) (p : List (List UInt8)) (m cap k : Nat) (kk nn : Int) (a : Option Addr) (w : World), d.length = 32 → m = p.length → m = stepsL k n → kk = k → nn = n → k < n → D32 p → Ds w a p → m ≤ cap → cap ≤ 9223372036854775807 →
  Calls Tryd.prog 45 #[dv d, .int .i64 kk, .int .i64 nn, .slice a m cap] w fun e w' => e = .returned (dv (climbL d k n p)) ∧ Below w.heap.size w w'

set_option maxRecDepth 10000 in
set_option maxHeartbeats 800000 in
theorem rclimb_one (n : Nat) (hn : n = 1) : RClimbAt n := by
  subst hn
  intro d p m cap k kk nn a w hd hm hs hkk hnn hk hD hL hcap hcap'
  subst hkk hnn
  have HD := hide hd
  have HC := hide (climbL_one (n := 1) (by omega) d k p)
  clear hd hm hs hD hL
  have HR1 := hide (two_new w 26 26 (bc d) z32)
  rw [← z32_eq] at HR1
  go_enter Tryd.func45, Tryd.ntmps45
  go_wp2_with fail
  refine name_world ?_
  intro W1 HW1
  have HA : Hid (Blk W1 (w.heap.size + 1) 26 z32 ∧ Below w.heap.size w W1 ∧ Bs W1 w.heap.size 0 d) := by
    have e : W1 = (w.alloc (.cells (bc d).toArray 26)).alloc (.cells (List.replicate 32 (.int .u8 0)).toArray 26) := HW1.out
    rw [e]
    rw [z32_eq] at HR1 ⊢
    exact hide ⟨HR1.out.2.1, HR1.out.2.2, HR1.out.1.bs⟩
  clear HW1 HR1
  with_reducible refine (rtag_leaf w.heap.size 0 d W1 HA.out.2.2 HD.out.symm).mono ?_
  rintro e w2 ⟨rfl, hb2⟩
  have HR := hide (HA.out.1.below hb2 HA.out.1.lt)
  have HB := hide (below_one HA.out.2.1 hb2)
  clear HA hb2
  have HS := hide (dv_size _ (tagd_len tLeaf d))
  have HZ := hide (show (Tryd.prog.info? 26).map (·.size) = some ((bc (tagd tLeaf d)).toArray).size by rw [HS.out]; exact Tryd.size26)
  have HO := hide (all_oneCell_toArray (bc_one (tagd tLeaf d)))
  go_wp2_with (refine wpList_store_row rfl 26 (.tmp 8) (.tmp 14) rfl (w.heap.size + 1) _ rfl rfl 26 _ HR.out HZ.out (by rw [HS.out, List.size_toArray, z32_len]) HO.out ?_)
  rw [HC.out]
  refine bodyPost_ret (v := dv (tagd tLeaf d)) (results_cell_row rfl _ _ (w.heap.size + 1) 26 _ (0, 0) _ rfl (setRow_heap _ _ _ _ _ _ HR.out) Tryd.underlying26 rfl HZ.out) rfl ⟨rfl, below_setRow HB.out (by omega) _⟩

set_option maxRecDepth 10000 in
set_option maxHeartbeats 800000 in
theorem rclimb_left (n : Nat) (h2 : 2 ≤ n) (hn : n ≤ 1099511627776) (ih : ∀ k, k < n → RClimbAt k) (d : List UInt8) (q : List (List UInt8)) (x : List UInt8) (j cap k : Nat) (a : Option Addr) (w : World) (hd : d.length = 32) (hj : j = q.length) (hs : j + 1 = stepsL k n) (hk : k < hp n)
    (hD : D32 (q ++ [x])) (hL : Ds w a (q ++ [x])) (hcap : j + 1 ≤ cap) (hcap' : cap ≤ 9223372036854775807) :
    Calls Tryd.prog 45 #[dv d, .int .i64 (k : Nat), .int .i64 (n : Nat), .slice a (j + 1) cap] w fun e w' => e = .returned (dv (climbL d k n (q ++ [x]))) ∧ Below w.heap.size w w' := by
  obtain ⟨b, o, rfl, hB⟩ := hL.at hD (by simp)
  have hp1 := hp_pos n
  have hp2 := hp_lt h2
  have blt : b < w.heap.size := hB.lt (by rw [hD.flat]; simp)
  have hx : x.length = 32 := hD x (by simp)
  have hq : D32 q := fun y hy => hD y (by simp [hy])
  have hsq : j = stepsL k (hp n) := by rw [stepsL_left h2 hk] at hs; omega
  have HCL := hide (fun (W : World) (hW : Below w.heap.size w W) => ih (hp n) hp2 d q j cap k (k : Nat) (hp n : Nat) (some ⟨b, o, none⟩) W hd hj hsq rfl rfl hk hq (Ds.of (by have := (bs_take hD (hB.below hW blt) j); rwa [hj, List.take_left] at this)) (by omega) hcap')
  have HND := hide (fun (W : World) (hW : Below w.heap.size w W) => rnode_any (climbL d k (hp n) q) x W (climbL_len _ _ _ _) hx)
  have HMO := hide (show climbL d k n (q ++ [x]) = tagd tNode (climbL d k (hp n) q ++ x) by rw [climbL_left h2 hk, List.dropLast_concat, List.getLastD_concat])
  have HFP := hide (fun (W : World) => rhalf_is n W hn)
  have HXR := hide (fun (W : World) (hW : Below w.heap.size w W) => bs_range (by have := bs_one hD (hB.below hW blt) j (by simp; omega); rwa [List.getElem_concat_length hj, Nat.mul_comm] at this : Bs W b (o + j * 32) x))
  have HD := hide (And.intro hd hx)
  generalize hp n = h at *
  clear hL hB ih hD hq hd hx hj hs hsq
  generalize climbL d k h q = C at *
  have HST := hide (Q3.start w d x)
  have hXS := hide (show (Tryd.prog.info? 26).map (·.size) = some (bc x).length by rw [bc_len, HD.out.2]; exact Tryd.size26)
  have hXA := hide (show (Tryd.prog.info? 26).map (·.size) = some (bc x).toArray.size by rw [dv_size _ HD.out.2]; exact Tryd.size26)
  have hDS := hide (show (Tryd.prog.info? 26).map (·.size) = some (bc d).length by rw [bc_len, HD.out.1]; exact Tryd.size26)
  have HXO := hide (all_oneCell_toArray (bc_one x))
  have HXZ := hide (dv_size _ HD.out.2)
  have i1 : (0 : Int) ≤ (j : Int) := by omega
  have i2 : (j : Int) < (j : Int) + 1 := by omega
  have i3 : (j : Int) ≤ (cap : Int) := by omega
  have i4 : (j : Int) ≤ (j : Int) + 1 := by omega
  have i7 : IntKind.i64.wrap (j : Int) = (j : Int) := IntWalk.i64_in _ (by omega)
  have HNE : Hid (∀ W, Hid (Below w.heap.size w W) → W.rangeAt b (o + j * 32) (bc x)) := hide fun W h => HXR.out W h.out
  have HW2 : Hid (Below w.heap.size w ((w.alloc (.cells (bc d).toArray 26)).alloc (.cells (List.replicate 32 (.int .u8 0)).toArray 26))) := hide (two_new w 26 26 (bc d) (List.replicate 32 (.int .u8 0))).2.2
  have HN3 := hide (show (((w.alloc (.cells (bc d).toArray 26)).alloc (.cells (List.replicate 32 (.int .u8 0)).toArray 26)).alloc (.cells (List.replicate 32 (.int .u8 0)).toArray 26)).heap[w.heap.size + 1 + 1]? = some (.cells (List.replicate 32 (.int .u8 0)).toArray 26 (0, 0)) by
    have h3 := Blk.new ((w.alloc (.cells (bc d).toArray 26)).alloc (.cells (List.replicate 32 (.int .u8 0)).toArray 26)) 26 (List.replicate 32 (.int .u8 0))
    simp only [World.size_alloc] at h3
    exact h3)
  go_enter Tryd.func45, Tryd.ntmps45
  go_wp2_with (first | (go_at_call 38; ((with_reducible refine (HFP.out _).mono ?_); rintro e w' ⟨rfl, rfl⟩)) | (refine wpList_load_mid rfl 26 (.tmp 21) rfl b (o + j * 32) rfl (bc x) _ (HNE.out _ HW2) Tryd.underlying26 rfl hXS.out ?_) | (refine wpList_store_row rfl 26 (.tmp 10) (.tmp 22) rfl (w.heap.size + 1 + 1) (bc x).toArray rfl rfl 26 _ HN3.out hXA.out (by rw [HXZ.out]; rfl) HXO.out ?_))
  refine name_code ?_
  intro W0 HW0
  have HQ0 : Hid (Q3 w d x W0) := by
    have e := HW0.out
    subst e
    exact HST
  clear HW0 HST HN3 HW2 HNE HXR HXO HXZ hXA
  have HV := hide (tagd_len tNode (C ++ x))
  have HVS := hide (dv_size _ HV.out)
  have HZ := hide (show (Tryd.prog.info? 26).map (·.size) = some ((bc (tagd tNode (C ++ x))).toArray).size by rw [HVS.out]; exact Tryd.size26)
  have HO := hide (all_oneCell_toArray (bc_one (tagd tNode (C ++ x))))
  have HVL := hide (show (bc (tagd tNode (C ++ x))).length = 32 by rw [bc_len, HV.out])
  refine wp_region_plan (Q3 w d x) (.take 1 (.take 2 (.take 3 (.take 4 (.take 5 (.take 6 (.take 7 (.take 0 (.take 9 (.run 8 (.run 10 (.run 11 .done)))))))))))) (by kernel_rfl) (by kernel_rfl) HQ0.out.drew ?_
  (refine plan_take (o := ?_) (v := ?_) (by simp only [List.getElem?_toArray, List.getElem?_cons_succ, List.getElem?_cons_zero]; rfl) (yields_run (by rfl) ?_) ?_; rotate_left; (focus (intro w' _; go_simp <;> with_reducible rfl)); (simp only [Act.put, List.setIfInBounds_toArray, List.set_cons_zero, List.set_cons_succ]))
  (refine plan_take (o := ?_) (v := ?_) (by simp only [List.getElem?_toArray, List.getElem?_cons_succ, List.getElem?_cons_zero]; rfl) (yields_run (by rfl) ?_) ?_; rotate_left; (focus (intro w' _; go_simp <;> with_reducible rfl)); (simp only [Act.put, List.setIfInBounds_toArray, List.set_cons_zero, List.set_cons_succ]))
  (refine plan_take (o := ?_) (v := ?_) (by simp only [List.getElem?_toArray, List.getElem?_cons_succ, List.getElem?_cons_zero]; rfl) (yields_run (by rfl) ?_) ?_; rotate_left; (focus (intro w' _; go_simp <;> with_reducible rfl)); (simp only [Act.put, List.setIfInBounds_toArray, List.set_cons_zero, List.set_cons_succ]))
  (refine plan_take (o := ?_) (v := ?_) (by simp only [List.getElem?_toArray, List.getElem?_cons_succ, List.getElem?_cons_zero]; rfl) (yields_run (by rfl) ?_) ?_; rotate_left; (focus (intro w' _; go_simp <;> with_reducible rfl)); (simp only [Act.put, List.setIfInBounds_toArray, List.set_cons_zero, List.set_cons_succ]))
  (refine plan_take (o := ?_) (v := ?_) (by simp only [List.getElem?_toArray, List.getElem?_cons_succ, List.getElem?_cons_zero]; rfl) (yields_run (by rfl) ?_) ?_; rotate_left; (focus (intro w' _; go_simp <;> with_reducible rfl)); (simp only [Act.put, List.setIfInBounds_toArray, List.set_cons_zero, List.set_cons_succ]))
  (refine plan_take (o := ?_) (v := ?_) (by simp only [List.getElem?_toArray, List.getElem?_cons_succ, List.getElem?_cons_zero]; rfl) (yields_run (by rfl) ?_) ?_; rotate_left; (focus (intro w' _; go_simp <;> with_reducible rfl)); (simp only [Act.put, List.setIfInBounds_toArray, List.set_cons_zero, List.set_cons_succ]))
  (refine plan_take (o := ?_) (v := ?_) (by simp only [List.getElem?_toArray, List.getElem?_cons_succ, List.getElem?_cons_zero]; rfl) (yields_run (by rfl) ?_) ?_; rotate_left; (focus (intro w' _; go_simp <;> with_reducible rfl)); (simp only [Act.put, List.setIfInBounds_toArray, List.set_cons_zero, List.set_cons_succ]))
  (refine plan_take (o := ?_) (by simp only [List.getElem?_toArray, List.getElem?_cons_zero]; rfl) (yieldsIf_load_mid (by rfl) 26 (.tmp 4) rfl w.heap.size 0 rfl (bc d) _ (fun _ (h : Q3 w d x _) => h.a.range) Tryd.underlying26 rfl hDS.out) ?_; (simp only [Act.put, List.setIfInBounds_toArray, List.set_cons_zero, List.set_cons_succ]))
  (refine plan_take (o := ?_) (by simp only [List.getElem?_toArray, List.getElem?_cons_succ, List.getElem?_cons_zero]; rfl) (yieldsIf_load_mid (by rfl) 26 (.tmp 10) rfl (w.heap.size + 2) 0 rfl (bc x) _ (fun _ (h : Q3 w d x _) => h.c.range) Tryd.underlying26 rfl hXS.out) ?_; (simp only [Act.put, List.setIfInBounds_toArray, List.set_cons_zero, List.set_cons_succ]))
  refine plan_run (o := ?_) (by simp only [List.getElem?_toArray, List.getElem?_cons_succ, List.getElem?_cons_zero]; rfl) ?_
  intro R HR
  go_wp2_with fail
  with_reducible refine (HCL.out _ HQ0.out.drew.bel).mono ?_
  rintro e w1 ⟨rfl, hb⟩
  have HQ1 := hide (HQ0.out.drew.keep hb)
  clear hb HQ0
  go_wp2_with fail
  refine HR.out _ _ HQ1.out ?_
  clear HR
  refine plan_run (o := ?_) (by simp only [List.getElem?_toArray, List.getElem?_cons_succ, List.getElem?_cons_zero]; rfl) ?_
  intro R HR
  go_wp2_with fail
  with_reducible refine (HND.out _ HQ1.out.bel).mono ?_
  rintro e w2 ⟨rfl, hb⟩
  have HQ2 := hide (HQ1.out.keep hb)
  clear hb HQ1
  go_wp2_with fail
  refine HR.out _ _ HQ2.out ?_
  clear HR
  obtain ⟨cs, hr, hcl⟩ := HQ2.out.r
  have HRR := hide hr
  have HCC := hide (show cs.toArray.size = (bc (tagd tNode (C ++ x))).toArray.size by rw [HVS.out, List.size_toArray, hcl])
  clear hr hcl
  refine plan_run (o := ?_) (by simp only [List.getElem?_toArray, List.getElem?_cons_succ, List.getElem?_cons_zero]; rfl) ?_
  intro R HR
  go_wp2_with (refine wpList_store_row rfl 26 (.tmp 8) (.tmp 36) rfl (w.heap.size + 1) _ rfl rfl 26 _ HRR.out HZ.out HCC.out HO.out ?_)
  refine HR.out _ _ (HQ2.out.row _ HVL.out) ?_
  clear HR
  refine plan_done ?_
  go_wp2_with fail
  rw [HMO.out]
  refine bodyPost_ret (v := dv (tagd tNode (C ++ x))) (results_cell_row rfl _ _ (w.heap.size + 1) 26 _ (0, 0) _ rfl (setRow_heap _ _ _ _ _ _ HRR.out) Tryd.underlying26 rfl HZ.out) rfl ⟨rfl, below_setRow HQ2.out.bel (by omega) _⟩

set_option maxRecDepth 10000 in
set_option maxHeartbeats 800000 in
theorem rclimb_right (n : Nat) (h2 : 2 ≤ n) (hn : n ≤ 1099511627776) (ih : ∀ k, k < n → RClimbAt k) (d : List UInt8) (q : List (List UInt8)) (x : List UInt8) (j cap k : Nat) (a : Option Addr) (w : World) (hd : d.length = 32) (hj : j = q.length) (hs : j + 1 = stepsL k n) (hk : hp n ≤ k) (hkn : k < n)
    (hD : D32 (q ++ [x])) (hL : Ds w a (q ++ [x])) (hcap : j + 1 ≤ cap) (hcap' : cap ≤ 9223372036854775807) :
    Calls Tryd.prog 45 #[dv d, .int .i64 (k : Nat), .int .i64 (n : Nat), .slice a (j + 1) cap] w fun e w' => e = .returned (dv (climbL d k n (q ++ [x]))) ∧ Below w.heap.size w w' := by
  obtain ⟨b, o, rfl, hB⟩ := hL.at hD (by simp)
  have hp1 := hp_pos n
  have hp2 := hp_lt h2
  have blt : b < w.heap.size := hB.lt (by rw [hD.flat]; simp)
  have hx : x.length = 32 := hD x (by simp)
  have hq : D32 q := fun y hy => hD y (by simp [hy])
  have hsq : j = stepsL (k - hp n) (n - hp n) := by rw [stepsL_right h2 hk] at hs; omega
  have HCL := hide (fun (W : World) (hW : Below w.heap.size w W) => ih (n - hp n) (by omega) d q j cap (k - hp n) ((k : Int) - (hp n : Nat)) ((n : Int) - (hp n : Nat)) (some ⟨b, o, none⟩) W hd hj hsq (by omega) (by omega) (by omega) hq (Ds.of (by have := (bs_take hD (hB.below hW blt) j); rwa [hj, List.take_left] at this)) (by omega) hcap')
  have HND := hide (fun (W : World) (hW : Below w.heap.size w W) => rnode_any x (climbL d (k - hp n) (n - hp n) q) W hx (climbL_len _ _ _ _))
  have HMO := hide (show climbL d k n (q ++ [x]) = tagd tNode (x ++ climbL d (k - hp n) (n - hp n) q) by rw [climbL_right h2 hk, List.dropLast_concat, List.getLastD_concat])
  have HFP := hide (fun (W : World) => rhalf_is n W hn)
  have HXR := hide (fun (W : World) (hW : Below w.heap.size w W) => bs_range (by have := bs_one hD (hB.below hW blt) j (by simp; omega); rwa [List.getElem_concat_length hj, Nat.mul_comm] at this : Bs W b (o + j * 32) x))
  have HD := hide (And.intro hd hx)
  generalize hp n = h at *
  clear hL hB ih hD hq hd hx hj hs hsq
  generalize climbL d (k - h) (n - h) q = C at *
  have HST := hide (Q3.start w d x)
  have hXS := hide (show (Tryd.prog.info? 26).map (·.size) = some (bc x).length by rw [bc_len, HD.out.2]; exact Tryd.size26)
  have hXA := hide (show (Tryd.prog.info? 26).map (·.size) = some (bc x).toArray.size by rw [dv_size _ HD.out.2]; exact Tryd.size26)
  have hDS := hide (show (Tryd.prog.info? 26).map (·.size) = some (bc d).length by rw [bc_len, HD.out.1]; exact Tryd.size26)
  have HXO := hide (all_oneCell_toArray (bc_one x))
  have HXZ := hide (dv_size _ HD.out.2)
  have i1 : (0 : Int) ≤ (j : Int) := by omega
  have i2 : (j : Int) < (j : Int) + 1 := by omega
  have i3 : (j : Int) ≤ (cap : Int) := by omega
  have i4 : (j : Int) ≤ (j : Int) + 1 := by omega
  have i7 : IntKind.i64.wrap (j : Int) = (j : Int) := IntWalk.i64_in _ (by omega)
  have i5 : IntKind.i64.wrap ((k : Int) - (h : Int)) = (k : Int) - (h : Int) := IntWalk.i64_in _ (by omega)
  have i6 : IntKind.i64.wrap ((n : Int) - (h : Int)) = (n : Int) - (h : Int) := IntWalk.i64_in _ (by omega)
  have HNE : Hid (∀ W, Hid (Below w.heap.size w W) → W.rangeAt b (o + j * 32) (bc x)) := hide fun W h => HXR.out W h.out
  have HW2 : Hid (Below w.heap.size w ((w.alloc (.cells (bc d).toArray 26)).alloc (.cells (List.replicate 32 (.int .u8 0)).toArray 26))) := hide (two_new w 26 26 (bc d) (List.replicate 32 (.int .u8 0))).2.2
  have HN3 := hide (show (((w.alloc (.cells (bc d).toArray 26)).alloc (.cells (List.replicate 32 (.int .u8 0)).toArray 26)).alloc (.cells (List.replicate 32 (.int .u8 0)).toArray 26)).heap[w.heap.size + 1 + 1]? = some (.cells (List.replicate 32 (.int .u8 0)).toArray 26 (0, 0)) by
    have h3 := Blk.new ((w.alloc (.cells (bc d).toArray 26)).alloc (.cells (List.replicate 32 (.int .u8 0)).toArray 26)) 26 (List.replicate 32 (.int .u8 0))
    simp only [World.size_alloc] at h3
    exact h3)
  go_enter Tryd.func45, Tryd.ntmps45
  go_wp2_with (first | (go_at_call 38; ((with_reducible refine (HFP.out _).mono ?_); rintro e w' ⟨rfl, rfl⟩)) | (refine wpList_load_mid rfl 26 (.tmp 21) rfl b (o + j * 32) rfl (bc x) _ (HNE.out _ HW2) Tryd.underlying26 rfl hXS.out ?_) | (refine wpList_store_row rfl 26 (.tmp 10) (.tmp 22) rfl (w.heap.size + 1 + 1) (bc x).toArray rfl rfl 26 _ HN3.out hXA.out (by rw [HXZ.out]; rfl) HXO.out ?_))
  refine name_code ?_
  intro W0 HW0
  have HQ0 : Hid (Q3 w d x W0) := by
    have e := HW0.out
    subst e
    exact HST
  clear HW0 HST HN3 HW2 HNE HXR HXO HXZ hXA
  have HV := hide (tagd_len tNode (x ++ C))
  have HVS := hide (dv_size _ HV.out)
  have HZ := hide (show (Tryd.prog.info? 26).map (·.size) = some ((bc (tagd tNode (x ++ C))).toArray).size by rw [HVS.out]; exact Tryd.size26)
  have HO := hide (all_oneCell_toArray (bc_one (tagd tNode (x ++ C))))
  have HVL := hide (show (bc (tagd tNode (x ++ C))).length = 32 by rw [bc_len, HV.out])
  refine wp_region_plan (Q3 w d x) (.take 2 (.take 3 (.take 4 (.take 5 (.take 6 (.take 7 (.take 8 (.take 9 (.take 10 (.take 11 (.take 12 (.take 0 (.take 1 (.run 13 (.run 14 (.run 15 .done)))))))))))))))) (by kernel_rfl) (by kernel_rfl) HQ0.out.drew ?_
  (refine plan_take (o := ?_) (v := ?_) (by simp only [List.getElem?_toArray, List.getElem?_cons_succ, List.getElem?_cons_zero]; rfl) (yields_run (by rfl) ?_) ?_; rotate_left; (focus (intro w' _; go_simp <;> with_reducible rfl)); (simp only [Act.put, List.setIfInBounds_toArray, List.set_cons_zero, List.set_cons_succ]))
  (refine plan_take (o := ?_) (v := ?_) (by simp only [List.getElem?_toArray, List.getElem?_cons_succ, List.getElem?_cons_zero]; rfl) (yields_run (by rfl) ?_) ?_; rotate_left; (focus (intro w' _; go_simp <;> with_reducible rfl)); (simp only [Act.put, List.setIfInBounds_toArray, List.set_cons_zero, List.set_cons_succ]))
  (refine plan_take (o := ?_) (v := ?_) (by simp only [List.getElem?_toArray, List.getElem?_cons_succ, List.getElem?_cons_zero]; rfl) (yields_run (by rfl) ?_) ?_; rotate_left; (focus (intro w' _; go_simp <;> with_reducible rfl)); (simp only [Act.put, List.setIfInBounds_toArray, List.set_cons_zero, List.set_cons_succ]))
  (refine plan_take (o := ?_) (v := ?_) (by simp only [List.getElem?_toArray, List.getElem?_cons_succ, List.getElem?_cons_zero]; rfl) (yields_run (by rfl) ?_) ?_; rotate_left; (focus (intro w' _; go_simp <;> with_reducible rfl)); (simp only [Act.put, List.setIfInBounds_toArray, List.set_cons_zero, List.set_cons_succ]))
  (refine plan_take (o := ?_) (v := ?_) (by simp only [List.getElem?_toArray, List.getElem?_cons_succ, List.getElem?_cons_zero]; rfl) (yields_run (by rfl) ?_) ?_; rotate_left; (focus (intro w' _; go_simp <;> with_reducible rfl)); (simp only [Act.put, List.setIfInBounds_toArray, List.set_cons_zero, List.set_cons_succ]))
  (refine plan_take (o := ?_) (v := ?_) (by simp only [List.getElem?_toArray, List.getElem?_cons_succ, List.getElem?_cons_zero]; rfl) (yields_run (by rfl) ?_) ?_; rotate_left; (focus (intro w' _; go_simp <;> with_reducible rfl)); (simp only [Act.put, List.setIfInBounds_toArray, List.set_cons_zero, List.set_cons_succ]))
  (refine plan_take (o := ?_) (v := ?_) (by simp only [List.getElem?_toArray, List.getElem?_cons_succ, List.getElem?_cons_zero]; rfl) (yields_run (by rfl) ?_) ?_; rotate_left; (focus (intro w' _; go_simp <;> with_reducible rfl)); (simp only [Act.put, List.setIfInBounds_toArray, List.set_cons_zero, List.set_cons_succ]))
  (refine plan_take (o := ?_) (v := ?_) (by simp only [List.getElem?_toArray, List.getElem?_cons_succ, List.getElem?_cons_zero]; rfl) (yields_run (by rfl) ?_) ?_; rotate_left; (focus (intro w' _; go_simp <;> with_reducible rfl)); (simp only [Act.put, List.setIfInBounds_toArray, List.set_cons_zero, List.set_cons_succ]))
  (refine plan_take (o := ?_) (v := ?_) (by simp only [List.getElem?_toArray, List.getElem?_cons_succ, List.getElem?_cons_zero]; rfl) (yields_run (by rfl) ?_) ?_; rotate_left; (focus (intro w' _; go_simp <;> with_reducible rfl)); (simp only [Act.put, List.setIfInBounds_toArray, List.set_cons_zero, List.set_cons_succ]))
  (refine plan_take (o := ?_) (v := ?_) (by simp only [List.getElem?_toArray, List.getElem?_cons_succ, List.getElem?_cons_zero]; rfl) (yields_run (by rfl) ?_) ?_; rotate_left; (focus (intro w' _; go_simp <;> with_reducible rfl)); (simp only [Act.put, List.setIfInBounds_toArray, List.set_cons_zero, List.set_cons_succ]))
  (refine plan_take (o := ?_) (v := ?_) (by simp only [List.getElem?_toArray, List.getElem?_cons_succ, List.getElem?_cons_zero]; rfl) (yields_run (by rfl) ?_) ?_; rotate_left; (focus (intro w' _; go_simp <;> with_reducible rfl)); (simp only [Act.put, List.setIfInBounds_toArray, List.set_cons_zero, List.set_cons_succ]))
  (refine plan_take (o := ?_) (by simp only [List.getElem?_toArray, List.getElem?_cons_zero]; rfl) (yieldsIf_load_mid (by rfl) 26 (.tmp 10) rfl (w.heap.size + 2) 0 rfl (bc x) _ (fun _ (h : Q3 w d x _) => h.c.range) Tryd.underlying26 rfl hXS.out) ?_; (simp only [Act.put, List.setIfInBounds_toArray, List.set_cons_zero, List.set_cons_succ]))
  (refine plan_take (o := ?_) (by simp only [List.getElem?_toArray, List.getElem?_cons_succ, List.getElem?_cons_zero]; rfl) (yieldsIf_load_mid (by rfl) 26 (.tmp 4) rfl w.heap.size 0 rfl (bc d) _ (fun _ (h : Q3 w d x _) => h.a.range) Tryd.underlying26 rfl hDS.out) ?_; (simp only [Act.put, List.setIfInBounds_toArray, List.set_cons_zero, List.set_cons_succ]))
  refine plan_run (o := ?_) (by simp only [List.getElem?_toArray, List.getElem?_cons_succ, List.getElem?_cons_zero]; rfl) ?_
  intro R HR
  go_wp2_with fail
  with_reducible refine (HCL.out _ HQ0.out.drew.bel).mono ?_
  rintro e w1 ⟨rfl, hb⟩
  have HQ1 := hide (HQ0.out.drew.keep hb)
  clear hb HQ0
  go_wp2_with fail
  refine HR.out _ _ HQ1.out ?_
  clear HR
  refine plan_run (o := ?_) (by simp only [List.getElem?_toArray, List.getElem?_cons_succ, List.getElem?_cons_zero]; rfl) ?_
  intro R HR
  go_wp2_with fail
  with_reducible refine (HND.out _ HQ1.out.bel).mono ?_
  rintro e w2 ⟨rfl, hb⟩
  have HQ2 := hide (HQ1.out.keep hb)
  clear hb HQ1
  go_wp2_with fail
  refine HR.out _ _ HQ2.out ?_
  clear HR
  obtain ⟨cs, hr, hcl⟩ := HQ2.out.r
  have HRR := hide hr
  have HCC := hide (show cs.toArray.size = (bc (tagd tNode (x ++ C))).toArray.size by rw [HVS.out, List.size_toArray, hcl])
  clear hr hcl
  refine plan_run (o := ?_) (by simp only [List.getElem?_toArray, List.getElem?_cons_succ, List.getElem?_cons_zero]; rfl) ?_
  intro R HR
  go_wp2_with (refine wpList_store_row rfl 26 (.tmp 8) (.tmp 51) rfl (w.heap.size + 1) _ rfl rfl 26 _ HRR.out HZ.out HCC.out HO.out ?_)
  refine HR.out _ _ (HQ2.out.row _ HVL.out) ?_
  clear HR
  refine plan_done ?_
  go_wp2_with fail
  rw [HMO.out]
  refine bodyPost_ret (v := dv (tagd tNode (x ++ C))) (results_cell_row rfl _ _ (w.heap.size + 1) 26 _ (0, 0) _ rfl (setRow_heap _ _ _ _ _ _ HRR.out) Tryd.underlying26 rfl HZ.out) rfl ⟨rfl, below_setRow HQ2.out.bel (by omega) _⟩

theorem rclimb_all (n : Nat) : n ≤ 1099511627776 → RClimbAt n := by
  induction n using Nat.strongRecOn with
  | _ n ih =>
    intro hn
    by_cases h2 : 2 ≤ n
    · intro d p m cap k kk nn a w hd hm hs hkk hnn hk hD hL hcap hcap'
      subst hkk hnn
      have hne : p ≠ [] := by
        intro e
        subst e
        by_cases hkh : k < hp n
        · rw [stepsL_left h2 hkh] at hs; simp at hm; omega
        · rw [stepsL_right h2 (by omega)] at hs; simp at hm; omega
      have hp := List.dropLast_concat_getLast hne
      generalize p.dropLast = q at hp
      generalize p.getLast hne = x at hp
      subst hp
      obtain rfl : m = q.length + 1 := by simpa using hm
      by_cases hkh : k < hp n
      · exact rclimb_left n h2 hn (fun j hj => ih j hj (by omega)) d q x q.length cap k a w hd rfl hs hkh hD hL hcap hcap'
      · exact rclimb_right n h2 hn (fun j hj => ih j hj (by omega)) d q x q.length cap k a w hd rfl hs (by omega) hk hD hL hcap hcap'
    · by_cases h1 : n = 1
      · exact rclimb_one n h1
      · intro d p m cap k kk nn a w hd hm hs hkk hnn hk
        omega
theorem rclimb_any (d : List UInt8) (p : List (List UInt8)) (m cap k n : Nat) (a : Option Addr) (w : World) (hd : d.length = 32) (hm : m = p.length) (hs : m = stepsL k n) (hk : k < n) (hn : n ≤ 1099511627776) (hD : D32 p) (hL : Ds w a p) (hcap : m ≤ cap) (hcap' : cap ≤ 9223372036854775807) :
    Calls Tryd.prog 45 #[dv d, .int .i64 (k : Nat), .int .i64 (n : Nat), .slice a m cap] w fun e w' => e = .returned (dv (climbL d k n p)) ∧ Below w.heap.size w w' :=
  rclimb_all n hn d p m cap k k n a w hd hm hs rfl rfl hk hD hL hcap hcap'
end Go.Proofs.YtnopibpakchejaaDoor

/- The reference's Climb. -/
namespace Go.Proofs.YtnopibpakchejaaDoor
open Go.RowKit

theorem rsteps_is (k n : Nat) (kk nn : Int) (w : World) (h1 : kk = k) (h2 : nn = n) (hk : k < n) (hn : n ≤ 1099511627776) :
    Calls Tryd.prog 44 #[.int .i64 kk, .int .i64 nn] w fun e w' => e = .returned (.int .i64 (stepsL k n : Nat)) ∧ w = w' := by
  subst h1 h2
  exact (rlen_any n hn k w hk).mono fun _ _ ⟨e, f⟩ => ⟨e, f.symm⟩

set_option maxRecDepth 10000 in
set_option maxHeartbeats 800000 in
theorem RClimb_yes (d : List UInt8) (p : List (List UInt8)) (m cap k n : Nat) (a : Option Addr) (w : World) (hd : d.length = 32) (hm : m = p.length) (hs : m = stepsL k n) (hk : k < n) (hn : n ≤ 1099511627776) (hD : D32 p) (hL : Ds w a p) (hcap : m ≤ cap) (hcap' : cap ≤ 9223372036854775807) :
    Calls Tryd.prog 23 #[dv d, .int .i64 (k : Nat), .int .i64 (n : Nat), .slice a m cap] w fun e w' => e = .returned (.tuple #[dv (climbL d k n p), .int .i64 0]) ∧ Below w.heap.size w w' := by
  have HC := hide (fun (W : World) (hW : Below w.heap.size w W) => rclimb_any d p m cap k n a W hd hm hs hk hn hD (hL.below hW) hcap hcap')
  have HP := hide (fun (W : World) => rsteps_is k n k n W rfl rfl hk hn)
  have HD := hide hd
  have HM := hide hs
  clear hd hm hs hD hL
  have c1 : decide ((n : Int) < 1) = false := by simp; omega
  have c2 : decide ((1099511627776 : Int) < (n : Int)) = false := by simp; omega
  have c3 : decide ((k : Int) < 0) = false := by simp
  have c4 : decide ((n : Int) ≤ (k : Int)) = false := by simp; omega
  have c5 : ((m : Int) == ((stepsL k n : Nat) : Int)) = true := by rw [HM.out]; simp
  have c6 : ((m : Int) != ((stepsL k n : Nat) : Int)) = false := by rw [HM.out]; simp
  have hv := climbL_len d k n p
  have HV := hide hv
  clear hv
  have HR1 := hide (two_new w 26 26 (bc d) z32)
  rw [← z32_eq] at HR1
  have HRG := hide (HR1.out.1.range)
  have HSZ := hide (show (Tryd.prog.info? 26).map (·.size) = some (bc d).length by rw [bc_len, HD.out]; exact Tryd.size26)
  go_enter Tryd.func23, Tryd.ntmps23
  go_wp2_with (first | (go_at_call 44; ((with_reducible refine (HP.out _).mono ?_); rintro e w' ⟨rfl, rfl⟩)) | (refine wpList_load_mid rfl 26 (.tmp 4) rfl w.heap.size 0 rfl (bc d) _ HRG.out Tryd.underlying26 rfl HSZ.out ?_))
  refine name_world ?_
  intro W1 HW1
  have HA : Hid (Blk W1 (w.heap.size + 1) 26 z32 ∧ Below w.heap.size w W1) := by
    have e : W1 = (w.alloc (.cells (bc d).toArray 26)).alloc (.cells (List.replicate 32 (.int .u8 0)).toArray 26) := HW1.out
    rw [e]
    rw [z32_eq] at HR1 ⊢
    exact hide HR1.out.2
  clear HW1 HR1 HRG HSZ c1 c2 c3 c4 c5 c6
  with_reducible refine (HC.out _ HA.out.2).mono ?_
  rintro e w2 ⟨rfl, hb2⟩
  have HR := hide (HA.out.1.below hb2 HA.out.1.lt)
  have HB := hide (below_one HA.out.2 hb2)
  clear HA hb2
  have HS := hide (dv_size _ HV.out)
  have HZ := hide (show (Tryd.prog.info? 26).map (·.size) = some ((bc (climbL d k n p)).toArray).size by rw [HS.out]; exact Tryd.size26)
  have HO := hide (all_oneCell_toArray (bc_one (climbL d k n p)))
  go_wp2_with (refine wpList_store_row rfl 26 (.tmp 8) (.tmp 38) rfl (w.heap.size + 1) _ rfl rfl 26 _ HR.out HZ.out (by rw [HS.out, List.size_toArray, z32_len]) HO.out ?_)
  refine bodyPost_ret (v := .tuple #[dv (climbL d k n p), .int .i64 0]) (results_cell_row_tmp rfl _ _ (w.heap.size + 1) 26 _ (0, 0) _ (.int .i64 0) rfl rfl (setRow_heap _ _ _ _ _ _ HR.out) Tryd.underlying26 rfl HZ.out) rfl ⟨rfl, below_setRow HB.out (by omega) _⟩

set_option maxRecDepth 10000 in
set_option maxHeartbeats 800000 in
theorem RClimb_no1 (d : List UInt8) (m cap : Nat) (k n : Int) (a : Option Addr) (w : World) (h1 : n < 1) :
    Calls Tryd.prog 23 #[dv d, .int .i64 k, .int .i64 n, .slice a m cap] w fun e w' => e = .returned (.tuple #[dv zd, .int .i64 1]) ∧ Below w.heap.size w w' := by
  have c1 : decide ((n : Int) < 1) = true := by simpa using h1
  have HR1 := hide (two_new w 26 26 (bc d) z32)
  rw [← z32_eq] at HR1
  have HZ := hide (show (Tryd.prog.info? 26).map (·.size) = some ((bc zd).toArray).size by rw [dv_size _ zd_len]; exact Tryd.size26)
  have HO := hide (all_oneCell_toArray (bc_one zd))
  go_enter Tryd.func23, Tryd.ntmps23
  go_wp2_with (first | (refine wpList_store_row rfl 26 (.tmp 8) (.tmp 33) rfl (w.heap.size + 1) (bc zd).toArray rfl rfl 26 _ HR1.out.2.1 HZ.out rfl HO.out ?_))
  refine bodyPost_ret (v := .tuple #[dv zd, .int .i64 1]) (results_cell_row_tmp rfl _ _ (w.heap.size + 1) 26 _ (0, 0) _ (.int .i64 1) rfl rfl (setRow_heap _ _ _ _ _ _ HR1.out.2.1) Tryd.underlying26 rfl HZ.out) rfl ⟨rfl, below_setRow HR1.out.2.2 (by omega) _⟩

set_option maxRecDepth 10000 in
set_option maxHeartbeats 800000 in
theorem RClimb_no2 (d : List UInt8) (m cap : Nat) (k n : Int) (a : Option Addr) (w : World) (h1 : 1 ≤ n) (h2 : 1099511627776 < n) :
    Calls Tryd.prog 23 #[dv d, .int .i64 k, .int .i64 n, .slice a m cap] w fun e w' => e = .returned (.tuple #[dv zd, .int .i64 1]) ∧ Below w.heap.size w w' := by
  have c1 : decide ((n : Int) < 1) = false := by simpa using h1
  have c2 : decide ((1099511627776 : Int) < (n : Int)) = true := by simpa using h2
  have HR1 := hide (two_new w 26 26 (bc d) z32)
  rw [← z32_eq] at HR1
  have HZ := hide (show (Tryd.prog.info? 26).map (·.size) = some ((bc zd).toArray).size by rw [dv_size _ zd_len]; exact Tryd.size26)
  have HO := hide (all_oneCell_toArray (bc_one zd))
  go_enter Tryd.func23, Tryd.ntmps23
  go_wp2_with (first | (refine wpList_store_row rfl 26 (.tmp 8) (.tmp 33) rfl (w.heap.size + 1) (bc zd).toArray rfl rfl 26 _ HR1.out.2.1 HZ.out rfl HO.out ?_))
  refine bodyPost_ret (v := .tuple #[dv zd, .int .i64 1]) (results_cell_row_tmp rfl _ _ (w.heap.size + 1) 26 _ (0, 0) _ (.int .i64 1) rfl rfl (setRow_heap _ _ _ _ _ _ HR1.out.2.1) Tryd.underlying26 rfl HZ.out) rfl ⟨rfl, below_setRow HR1.out.2.2 (by omega) _⟩

set_option maxRecDepth 10000 in
set_option maxHeartbeats 800000 in
theorem RClimb_no3 (d : List UInt8) (m cap : Nat) (k n : Int) (a : Option Addr) (w : World) (h1 : 1 ≤ n) (h2 : n ≤ 1099511627776) (h3 : k < 0) :
    Calls Tryd.prog 23 #[dv d, .int .i64 k, .int .i64 n, .slice a m cap] w fun e w' => e = .returned (.tuple #[dv zd, .int .i64 1]) ∧ Below w.heap.size w w' := by
  have c1 : decide ((n : Int) < 1) = false := by simpa using h1
  have c2 : decide ((1099511627776 : Int) < (n : Int)) = false := by simpa using h2
  have c3 : decide ((k : Int) < 0) = true := by simpa using h3
  have HR1 := hide (two_new w 26 26 (bc d) z32)
  rw [← z32_eq] at HR1
  have HZ := hide (show (Tryd.prog.info? 26).map (·.size) = some ((bc zd).toArray).size by rw [dv_size _ zd_len]; exact Tryd.size26)
  have HO := hide (all_oneCell_toArray (bc_one zd))
  go_enter Tryd.func23, Tryd.ntmps23
  go_wp2_with (first | (refine wpList_store_row rfl 26 (.tmp 8) (.tmp 33) rfl (w.heap.size + 1) (bc zd).toArray rfl rfl 26 _ HR1.out.2.1 HZ.out rfl HO.out ?_))
  refine bodyPost_ret (v := .tuple #[dv zd, .int .i64 1]) (results_cell_row_tmp rfl _ _ (w.heap.size + 1) 26 _ (0, 0) _ (.int .i64 1) rfl rfl (setRow_heap _ _ _ _ _ _ HR1.out.2.1) Tryd.underlying26 rfl HZ.out) rfl ⟨rfl, below_setRow HR1.out.2.2 (by omega) _⟩

set_option maxRecDepth 10000 in
set_option maxHeartbeats 800000 in
theorem RClimb_no4 (d : List UInt8) (m cap : Nat) (k n : Int) (a : Option Addr) (w : World) (h1 : 1 ≤ n) (h2 : n ≤ 1099511627776) (h3 : 0 ≤ k) (h4 : n ≤ k) :
    Calls Tryd.prog 23 #[dv d, .int .i64 k, .int .i64 n, .slice a m cap] w fun e w' => e = .returned (.tuple #[dv zd, .int .i64 1]) ∧ Below w.heap.size w w' := by
  have c1 : decide ((n : Int) < 1) = false := by simpa using h1
  have c2 : decide ((1099511627776 : Int) < (n : Int)) = false := by simpa using h2
  have c3 : decide ((k : Int) < 0) = false := by simpa using h3
  have c4 : decide ((n : Int) ≤ (k : Int)) = true := by simpa using h4
  have HR1 := hide (two_new w 26 26 (bc d) z32)
  rw [← z32_eq] at HR1
  have HZ := hide (show (Tryd.prog.info? 26).map (·.size) = some ((bc zd).toArray).size by rw [dv_size _ zd_len]; exact Tryd.size26)
  have HO := hide (all_oneCell_toArray (bc_one zd))
  go_enter Tryd.func23, Tryd.ntmps23
  go_wp2_with (first | (refine wpList_store_row rfl 26 (.tmp 8) (.tmp 33) rfl (w.heap.size + 1) (bc zd).toArray rfl rfl 26 _ HR1.out.2.1 HZ.out rfl HO.out ?_))
  refine bodyPost_ret (v := .tuple #[dv zd, .int .i64 1]) (results_cell_row_tmp rfl _ _ (w.heap.size + 1) 26 _ (0, 0) _ (.int .i64 1) rfl rfl (setRow_heap _ _ _ _ _ _ HR1.out.2.1) Tryd.underlying26 rfl HZ.out) rfl ⟨rfl, below_setRow HR1.out.2.2 (by omega) _⟩

set_option maxRecDepth 10000 in
set_option maxHeartbeats 800000 in
theorem RClimb_no5 (d : List UInt8) (m cap : Nat) (k n : Int) (a : Option Addr) (w : World) (k' n' : Nat) (hk : k = k') (hn : n = n') (h1 : 1 ≤ n) (h2 : n ≤ 1099511627776) (h4 : k' < n') (h5 : m ≠ stepsL k' n') :
    Calls Tryd.prog 23 #[dv d, .int .i64 k, .int .i64 n, .slice a m cap] w fun e w' => e = .returned (.tuple #[dv zd, .int .i64 1]) ∧ Below w.heap.size w w' := by
  have HP := hide (fun (W : World) => rsteps_is k' n' k n W hk hn h4 (by omega))
  have h3 : 0 ≤ k := by omega
  have c1 : decide ((n : Int) < 1) = false := by simpa using h1
  have c2 : decide ((1099511627776 : Int) < (n : Int)) = false := by simpa using h2
  have c3 : decide ((k : Int) < 0) = false := by simpa using h3
  have c4 : decide ((n : Int) ≤ (k : Int)) = false := by simp; omega
  have c5 : ((m : Int) == ((stepsL k' n' : Nat) : Int)) = false := by simp; omega
  have c6 : ((m : Int) != ((stepsL k' n' : Nat) : Int)) = true := by simp; omega
  clear h5 hk hn
  have HR1 := hide (two_new w 26 26 (bc d) z32)
  rw [← z32_eq] at HR1
  have HZ := hide (show (Tryd.prog.info? 26).map (·.size) = some ((bc zd).toArray).size by rw [dv_size _ zd_len]; exact Tryd.size26)
  have HO := hide (all_oneCell_toArray (bc_one zd))
  go_enter Tryd.func23, Tryd.ntmps23
  go_wp2_with (first | (go_at_call 44; ((with_reducible refine (HP.out _).mono ?_); rintro e w' ⟨rfl, rfl⟩)) | (refine wpList_store_row rfl 26 (.tmp 8) (.tmp 33) rfl (w.heap.size + 1) (bc zd).toArray rfl rfl 26 _ HR1.out.2.1 HZ.out rfl HO.out ?_))
  refine bodyPost_ret (v := .tuple #[dv zd, .int .i64 1]) (results_cell_row_tmp rfl _ _ (w.heap.size + 1) 26 _ (0, 0) _ (.int .i64 1) rfl rfl (setRow_heap _ _ _ _ _ _ HR1.out.2.1) Tryd.underlying26 rfl HZ.out) rfl ⟨rfl, below_setRow HR1.out.2.2 (by omega) _⟩
end Go.Proofs.YtnopibpakchejaaDoor

/- The program's and the reference's Climb and Path answer alike. -/
namespace Go.Proofs.YtnopibpakchejaaDoor
open Go.RowKit

theorem climb_both (d : List UInt8) (p : List (List UInt8)) (m cap : Nat) (k n : Int) (a : Option Addr) (w : World) (hd : d.length = 32) (hm : m = p.length) (hT : Tab w) (hD : D32 p) (hL : Ds w a p) (hcap : m ≤ cap) (hcap' : cap ≤ 9223372036854775807) :
    ∃ (v : List UInt8) (r : Int), v.length = 32 ∧ ∀ W, Below w.heap.size w W →
      Calls Tryd.prog 22 #[dv d, .int .i64 k, .int .i64 n, .slice a m cap] W (fun e w' => e = .returned (.tuple #[dv v, .int .i64 r]) ∧ Below W.heap.size W w') ∧
      Calls Tryd.prog 23 #[dv d, .int .i64 k, .int .i64 n, .slice a m cap] W (fun e w' => e = .returned (.tuple #[dv v, .int .i64 r]) ∧ Below W.heap.size W w') := by
  by_cases h1 : n < 1
  · exact ⟨zd, 1, zd_len, fun W _ => ⟨Climb_no1 d m cap k n a W h1, RClimb_no1 d m cap k n a W h1⟩⟩
  have h1' : 1 ≤ n := by omega
  by_cases h2 : 1099511627776 < n
  · exact ⟨zd, 1, zd_len, fun W _ => ⟨Climb_no2 d m cap k n a W h1' h2, RClimb_no2 d m cap k n a W h1' h2⟩⟩
  have h2' : n ≤ 1099511627776 := by omega
  by_cases h3 : k < 0
  · exact ⟨zd, 1, zd_len, fun W _ => ⟨Climb_no3 d m cap k n a W h1' h2' h3, RClimb_no3 d m cap k n a W h1' h2' h3⟩⟩
  have h3' : 0 ≤ k := by omega
  by_cases h4 : n ≤ k
  · exact ⟨zd, 1, zd_len, fun W _ => ⟨Climb_no4 d m cap k n a W h1' h2' h3' h4, RClimb_no4 d m cap k n a W h1' h2' h3' h4⟩⟩
  obtain ⟨k', hk⟩ := Int.eq_ofNat_of_zero_le h3'
  obtain ⟨n', hn⟩ := Int.eq_ofNat_of_zero_le (show 0 ≤ n by omega)
  by_cases h5 : m = stepsL k' n'
  · subst hk hn
    exact ⟨climbL d k' n' p, 0, climbL_len _ _ _ _, fun W hW => ⟨Climb_yes d p m cap k' n' a W hd hm h5 (by omega) (by omega) (hT.below hW) hD (hL.below hW) hcap hcap', RClimb_yes d p m cap k' n' a W hd hm h5 (by omega) (by omega) hD (hL.below hW) hcap hcap'⟩⟩
  · exact ⟨zd, 1, zd_len, fun W _ => ⟨Climb_no5 d m cap k n a W k' n' hk hn h1' h2' (by omega) h5, RClimb_no5 d m cap k n a W k' n' hk hn h1' h2' (by omega) h5⟩⟩

/-- Path: a list and an error, the same from both. -/
theorem path_both (l : List (List UInt8)) (m cap : Nat) (k : Int) (a : Option Addr) (w : World) (hT : Tab w) (hD : D32 l) (hL : Ds w a l) (hm : m = l.length) (hn : m ≤ 1000) (hcap : m ≤ cap) (hcap' : cap ≤ 9223372036854775807) :
    ∃ (p : List (List UInt8)) (r : Int), D32 p ∧ p.length ≤ 1000 ∧ ∀ W, Below w.heap.size w W →
      Calls Tryd.prog 19 #[.slice a m cap, .int .i64 k] W (fun e w' => ∃ v, e = .returned (.tuple #[v, .int .i64 r]) ∧ w'.ownsRow W.heap.size 26 32 v p.length (bc p.flatten) ∧ Below W.heap.size W w') ∧
      Calls Tryd.prog 20 #[.slice a m cap, .int .i64 k] W (fun e w' => ∃ v, e = .returned (.tuple #[v, .int .i64 r]) ∧ w'.ownsRow W.heap.size 26 32 v p.length (bc p.flatten) ∧ Below W.heap.size W w') := by
  by_cases h : k < 0 ∨ m ≤ k
  · refine ⟨[], 1, D32.nil, by simp, fun W _ => ⟨(Path_no m cap k a W h).mono ?_, (RPath_no m cap k a W h).mono ?_⟩⟩
    · rintro e w' ⟨rfl, hb⟩
      exact ⟨_, rfl, ⟨by simp [bc], .inl ⟨rfl, rfl⟩⟩, hb⟩
    · rintro e w' ⟨rfl, hb⟩
      exact ⟨_, rfl, ⟨by simp [bc], .inl ⟨rfl, rfl⟩⟩, hb⟩
  · obtain ⟨k', rfl⟩ := Int.eq_ofNat_of_zero_le (show 0 ≤ k by omega)
    have hk : k' < m := by omega
    exact ⟨pathL l k', 0, path_d32 m l k' hm.symm, by rw [path_steps m l k' hm.symm]; have := steps_le m k'; omega, fun W hW => ⟨Path_yes l m cap k' a W (hT.below hW) hD (hL.below hW) hm hk hn hcap hcap', RPath_yes l m cap k' a W hD (hL.below hW) hm hk hn hcap hcap'⟩⟩
end Go.Proofs.YtnopibpakchejaaDoor
