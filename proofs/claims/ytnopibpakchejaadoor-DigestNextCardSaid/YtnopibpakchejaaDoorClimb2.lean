/- climb, the other half. -/
import Derived.Test.YtnopibpakchejaaDoorClimb
namespace Go.Proofs.YtnopibpakchejaaDoor
open Go.RowKit

set_option maxRecDepth 10000 in
set_option maxHeartbeats 800000 in
theorem climb_right (n : Nat) (h2 : 2 ≤ n) (hn : n ≤ 1099511627776) (ih : ∀ k, k < n → ClimbAt k) (d : List UInt8) (q : List (List UInt8)) (x : List UInt8) (j cap k : Nat) (a : Option Addr) (w : World) (hd : d.length = 32) (hj : j = q.length) (hs : j + 1 = stepsL k n) (hk : hp n ≤ k) (hkn : k < n)
    (hT : Tab w) (hD : D32 (q ++ [x])) (hL : Ds w a (q ++ [x])) (hcap : j + 1 ≤ cap) (hcap' : cap ≤ 9223372036854775807) :
    Calls Tryd.prog 43 #[dv d, .int .i64 (k : Nat), .int .i64 (n : Nat), .slice a (j + 1) cap] w fun e w' => e = .returned (dv (climbL d k n (q ++ [x]))) ∧ Below w.heap.size w w' := by
  obtain ⟨b, o, rfl, hB⟩ := hL.at hD (by simp)
  have hp1 := hp_pos n
  have hp2 := hp_lt h2
  have blt : b < w.heap.size := hB.lt (by rw [hD.flat]; simp)
  have hx : x.length = 32 := hD x (by simp)
  have hq : D32 q := fun y hy => hD y (by simp [hy])
  have hsq : j = stepsL (k - hp n) (n - hp n) := by rw [stepsL_right h2 hk] at hs; omega
  have HCL := hide (fun (W : World) (hW : Below w.heap.size w W) => ih (n - hp n) (by omega) d q j cap (k - hp n) ((k : Int) - (hp n : Nat)) ((n : Int) - (hp n : Nat)) (some ⟨b, o, none⟩) W hd hj hsq (by omega) (by omega) (by omega) (hT.below hW) hq (Ds.of (by have := (bs_take hD (hB.below hW blt) j); rwa [hj, List.take_left] at this)) (by omega) hcap')
  have HND := hide (fun (W : World) (hW : Below w.heap.size w W) => node_any x (climbL d (k - hp n) (n - hp n) q) W (hT.below hW) hx (climbL_len _ _ _ _))
  have HMO := hide (show climbL d k n (q ++ [x]) = tagd tNode (x ++ climbL d (k - hp n) (n - hp n) q) by rw [climbL_right h2 hk, List.dropLast_concat, List.getLastD_concat])
  have HFP := hide (fun (W : World) => firstPart_any n W h2 hn)
  have HXR := hide (fun (W : World) (hW : Below w.heap.size w W) => bs_range (by have := bs_one hD (hB.below hW blt) j (by simp; omega); rwa [List.getElem_concat_length hj, Nat.mul_comm] at this : Bs W b (o + j * 32) x))
  have HD := hide (And.intro hd hx)
  generalize hp n = h at *
  clear hT hL hB ih hD hq hd hx hj hs hsq
  generalize climbL d (k - h) (n - h) q = C at *
  have HR1 := hide (two_new w 26 26 (bc d) z32)
  rw [← z32_eq] at HR1
  go_enter Tryd.func43, Tryd.ntmps43
  go_wp2_with (go_at_call 36; ((with_reducible refine (HFP.out _).mono ?_); rintro e w' ⟨rfl, rfl⟩))
  refine name_code ?_
  intro W0 HW0
  have HCS : Hid (CS w b (o + j * 32) d x W0.drew) := by
    have e : W0 = (w.alloc (.cells (bc d).toArray 26)).alloc (.cells (List.replicate 32 (.int .u8 0)).toArray 26) := HW0.out
    rw [e]
    exact hide (CS.mk HXR.out HR1.out.1.drew HR1.out.2.1.drew (by simp) HR1.out.2.2.drew)
  clear HW0 HR1
  have HV := hide (tagd_len tNode (x ++ C))
  have hVL : (bc (tagd tNode (x ++ C))).length = 32 := by rw [bc_len, HV.out]
  have hVS : (Tryd.prog.info? 26).map (·.size) = some (bc (tagd tNode (x ++ C))).length := by rw [hVL]; exact Tryd.size26
  have hVO := bc_one (tagd tNode (x ++ C))
  have hDS : (Tryd.prog.info? 26).map (·.size) = some (bc d).length := by rw [bc_len, HD.out.1]; exact Tryd.size26
  have hXS : (Tryd.prog.info? 26).map (·.size) = some (bc x).length := by rw [bc_len, HD.out.2]; exact Tryd.size26
  have hU := Tryd.underlying26
  have i1 : (0 : Int) ≤ (j : Int) := by omega
  have i2 : (j : Int) < (j : Int) + 1 := by omega
  have i3 : (j : Int) ≤ (cap : Int) := by omega
  have i4 : (j : Int) ≤ (j : Int) + 1 := by omega
  have i5 : IntKind.i64.wrap ((k : Int) - (h : Int)) = (k : Int) - (h : Int) := IntWalk.i64_in _ (by omega)
  have i6 : IntKind.i64.wrap ((n : Int) - (h : Int)) = (n : Int) - (h : Int) := IntWalk.i64_in _ (by omega)
  refine wp_region_hoist (CS w b (o + j * 32) d x) [true, true, true, true, true, true, true, true, true, true, true, true, true, true, false, false, false] (by kernel_rfl) (by kernel_rfl) HCS.out ?_
  repeat (refine head_take (v := ?_) (yields_run (by rfl) ?_) ?_; rotate_left; (focus (intro w' _; go_simp <;> with_reducible rfl)); (simp only [Act.put, List.setIfInBounds_toArray, List.set_cons_zero, List.set_cons_succ]))
  refine head_take (yieldsIf_load_mid (by rfl) _ _ rfl b (o + j * 32) rfl (bc x) _ (fun w' hw => hw.2.1) hU rfl hXS) ?_
  simp only [Act.put, List.setIfInBounds_toArray, List.set_cons_zero, List.set_cons_succ]
  refine head_take (yieldsIf_load_mid (by rfl) _ _ rfl w.heap.size 0 rfl (bc d) _ (fun w' hw => hw.1) hU rfl hDS) ?_
  simp only [Act.put, List.setIfInBounds_toArray, List.set_cons_zero, List.set_cons_succ]
  repeat (refine head_take (v := ?_) (yields_run (by rfl) ?_) ?_; rotate_left; (focus (intro w' _; go_simp <;> with_reducible rfl)); (simp only [Act.put, List.setIfInBounds_toArray, List.set_cons_zero, List.set_cons_succ]))
  refine head_skip (head_skip (head_skip (head_done ?_)))
  repeat refine tail_skip ?_
  refine tail_step ?_
  intro R HR
  go_wp2_with fail
  with_reducible refine (HCL.out _ HCS.out.bel).mono ?_
  rintro e w1 ⟨rfl, hb⟩
  have HC1 := hide (CS.keep HXR.out hb HCS.out)
  clear hb HCS
  go_wp2_with fail
  refine HR.out _ _ HC1.out ?_
  clear HR
  repeat refine tail_skip ?_
  refine tail_step ?_
  intro R HR
  go_wp2_with fail
  with_reducible refine (HND.out _ HC1.out.bel).mono ?_
  rintro e w2 ⟨rfl, hb⟩
  have HC2 := hide (CS.keep HXR.out hb HC1.out)
  clear hb HC1
  go_wp2_with fail
  refine HR.out _ _ HC2.out ?_
  clear HR
  have HST := hide (CS.put HXR.out hVL HC2.out)
  refine tail_step ?_
  intro R HR
  have HVS := hide hVS
  have HVO := hide hVO
  have HVL := hide hVL
  clear hVS hVO hVL hDS hXS
  have HTH : Hid (w2.there (w.heap.size + 1) 0 (bc (tagd tNode (x ++ C))).toArray.size) := hide (by rw [dv_size _ HV.out]; exact HC2.out.2.2.1)
  have HVZ : Hid ((Tryd.prog.info? 26).map (·.size) = some (bc (tagd tNode (x ++ C))).toArray.size) := hide (by rw [dv_size _ HV.out]; exact Tryd.size26)
  refine wpList_store_mid rfl 26 (.tmp 8) (.tmp 50) rfl (w.heap.size + 1) 0 (bc (tagd tNode (x ++ C))).toArray rfl rfl HTH.out HVZ.out (all_oneCell_toArray HVO.out) ?_
  refine HR.out _ _ HST.out ?_
  have HF := hide (CS.stored HVL.out HST.out)
  clear HR HST HC2
  refine tail_done ?_
  go_wp2_with fail
  rw [HMO.out]
  refine bodyPost_ret (v := dv (tagd tNode (x ++ C))) (results_cell_row rfl _ _ (w.heap.size + 1) 26 _ (0, 0) _ rfl HF.out.1 Tryd.underlying26 rfl HVZ.out) rfl ⟨rfl, HF.out.2⟩

theorem climb_all (n : Nat) : n ≤ 1099511627776 → ClimbAt n := by
  induction n using Nat.strongRecOn with
  | _ n ih =>
    intro hn
    by_cases h2 : 2 ≤ n
    · intro d p m cap k kk nn a w hd hm hs hkk hnn hk hT hD hL hcap hcap'
      subst hkk hnn
      have hne : p ≠ [] := by
        intro e
        subst e
        by_cases hkh : k < hp n
        · rw [stepsL_left h2 hkh] at hs; simp at hm; omega
        · rw [stepsL_right h2 (by omega)] at hs; simp at hm; omega
      have hp := List.dropLast_concat_getLast hne
      generalize p.dropLast = q at hp
      generalize p.getLast hne = x at hp
      subst hp
      obtain rfl : m = q.length + 1 := by simpa using hm
      by_cases hkh : k < hp n
      · exact climb_left n h2 hn (fun j hj => ih j hj (by omega)) d q x q.length cap k a w hd rfl hs hkh hT hD hL hcap hcap'
      · exact climb_right n h2 hn (fun j hj => ih j hj (by omega)) d q x q.length cap k a w hd rfl hs (by omega) hk hT hD hL hcap hcap'
    · by_cases h1 : n = 1
      · exact climb_one n h1
      · intro d p m cap k kk nn a w hd hm hs hkk hnn hk
        omega
theorem climb_any (d : List UInt8) (p : List (List UInt8)) (m cap k n : Nat) (a : Option Addr) (w : World) (hd : d.length = 32) (hm : m = p.length) (hs : m = stepsL k n) (hk : k < n) (hn : n ≤ 1099511627776) (hT : Tab w) (hD : D32 p) (hL : Ds w a p) (hcap : m ≤ cap) (hcap' : cap ≤ 9223372036854775807) :
    Calls Tryd.prog 43 #[dv d, .int .i64 (k : Nat), .int .i64 (n : Nat), .slice a m cap] w fun e w' => e = .returned (dv (climbL d k n p)) ∧ Below w.heap.size w w' :=
  climb_all n hn d p m cap k k n a w hd hm hs rfl rfl hk hT hD hL hcap hcap'
end Go.Proofs.YtnopibpakchejaaDoor
