/- The reference's Tagged. -/
import Derived.Test.YthimljcfmnehcaaDoorRSum
namespace Go.Proofs.YthimljcfmnehcaaDoor
open Go.RowKit

set_option maxRecDepth 10000 in
set_option maxHeartbeats 1000000 in
theorem rtagged_any (s : ByteArray) (a : Option Addr) (n cap : Nat) (l : List UInt8) (w : World) (hS : Src w a n cap l) (hs : s.size ≤ 600) (hn : n ≤ 90000000) :
    Calls Tryd.prog 17 #[.string s, .slice a n cap] w fun e w' => e = .returned (dv (tagd s.data.toList l)) ∧ Below w.heap.size w w' := by
  have HS := hide hS
  have HCP := hide (cv_post s (w.alloc (.cells (List.replicate 32 (.int .u8 0)).toArray 26)) (by omega))
  have hcv := cv_run s
  clear hS
  go_enter Tryd.func17, Tryd.ntmps17
  go_wp2_with fail
  refine name_world ?_
  intro W2 HW2
  clear hcv
  have HA : Hid (Blk W2 w.heap.size 26 (List.replicate 32 (.int .u8 0)) ∧ Bs W2 (w.heap.size + 1) 0 s.data.toList ∧ Below w.heap.size w W2) := by
    have e := HW2.out
    subst e
    have h := HCP.out
    simp only [World.size_alloc] at h
    have hb : Below w.heap.size w (cvW s (w.alloc (.cells (List.replicate 32 (.int .u8 0)).toArray 26))) := (below_new w _).trans (h.2.2.2.1.mono (by omega))
    exact hide ⟨(h.2.2.2.1.block w.heap.size (by omega)).trans (Blk.new w 26 (List.replicate 32 (.int .u8 0))), h.2.2.1, hb⟩
  clear HW2 HCP
  with_reducible refine (rsum_any (some ⟨w.heap.size + 1, 0, none⟩) s.size _ s.data.toList W2 ⟨by simp, Sb.of HA.out.2.1, fun h => by cases h⟩ (by omega)).mono ?_
  rintro e w3 ⟨rfl, hb⟩
  have HA3 : Hid (Blk w3 w.heap.size 26 (List.replicate 32 (.int .u8 0)) ∧ Below w.heap.size w w3 ∧ Src w3 a n cap l ∧ w.heap.size < w3.heap.size) := by
    have hb3 := below_one HA.out.2.2 hb
    exact hide ⟨HA.out.1.below hb HA.out.1.lt, hb3, HS.out.below hb3, Nat.lt_of_lt_of_le HA.out.1.lt hb.size⟩
  clear HA hb HS
  have HLS := hide (sha_len s.data.toList)
  have HMO := hide (show tagd s.data.toList l = sha (sha s.data.toList ++ l) by unfold tagd; rfl)
  generalize sha s.data.toList = D at *
  have HSZ := hide (dv_size _ HLS.out)
  have HZ := hide (show (Tryd.prog.info? 26).map (·.size) = some ((bc D).toArray).size by rw [HSZ.out]; exact Tryd.size26)
  have HO := hide (all_oneCell_toArray (bc_one D))
  have HAFT := hide (show ∀ W4, Hid (W4 = (w3.alloc (.cells (List.replicate 32 (.int .u8 0)).toArray 26)).setRow w3.heap.size (bc D).toArray) →
      (W4.alloc (.cells #[] 5)).ownsRow (w3.heap.size + 1) 5 1 (.slice (some ⟨W4.heap.size, 0, none⟩) 0 0) 0 [] ∧ Src (W4.alloc (.cells #[] 5)) (some ⟨w3.heap.size, 0, none⟩) 32 32 D ∧ w3.heap.size + 1 ≤ (W4.alloc (.cells #[] 5)).heap.size ∧
      ∀ v5 w5, w5.ownsRow (w3.heap.size + 1) 5 1 v5 32 (bc D) → (W4.alloc (.cells #[] 5)).grownBy w5 (Value.slice (some ⟨W4.heap.size, 0, none⟩) 0 0).ownBlock →
        Src w5 a n cap l ∧ w3.heap.size + 1 ≤ w5.heap.size ∧ ∀ v6 w6, w6.ownsRow (w3.heap.size + 1) 5 1 v6 (32 + n) (bc (D ++ l)) → w5.grownBy w6 v5.ownBlock →
          ∃ g c, v6 = .slice (some ⟨g, 0, none⟩) (32 + n) c ∧ Hid (Bs w6 g 0 (D ++ l) ∧ Below w.heap.size w w6 ∧ Blk w6 w.heap.size 26 (List.replicate 32 (.int .u8 0)) ∧ n = l.length) by
    intro W4 HW4
    have e4 := HW4.out
    have hsz4 : W4.heap.size = w3.heap.size + 1 := by rw [e4]; simp
    have hX : Blk W4 w3.heap.size 26 (bc D) := by rw [e4]; exact (Blk.new w3 26 (List.replicate 32 (.int .u8 0))).row _
    have hb4 : Below w3.heap.size w3 W4 := by rw [e4]; exact below_setRow (below_new w3 _) (Nat.le_refl _) _
    have hb4' : Below w3.heap.size w3 (W4.alloc (.cells #[] 5)) := hb4.alloc (by omega) _
    refine ⟨own_empty W4 (w3.heap.size + 1) 5 5 1 rfl (by omega), ⟨HLS.out.symm, Sb.of (hX.alloc _).bs, fun h => by cases h⟩, by simp; omega, fun v5 w5 h5 hg5 => ?_⟩
    have hb5 : Below w3.heap.size w3 w5 := hb4'.grown hg5 (by simp; omega) (fun k hk => by cases hk; show w3.heap.size ≤ W4.heap.size; omega)
    have hs5 : w3.heap.size + 1 ≤ w5.heap.size := Nat.le_trans (by simp; omega) hg5.size
    refine ⟨HA3.out.2.2.1.below hb5, hs5, fun v6 w6 h6 hg6 => ?_⟩
    have hb6 : Below w3.heap.size w3 w6 := hb5.grown hg6 (by omega) (fun k hk => by have := (h5.lt k hk).1; omega)
    obtain ⟨g, c, rfl, ho, hbs, _⟩ := own_form h6 (by omega)
    exact ⟨g, c, rfl, hide ⟨hbs, below_one HA3.out.2.1 hb6, HA3.out.1.below hb6 HA3.out.1.lt, HA3.out.2.2.1.len⟩⟩)
  have hA : 0 + 32 ≤ 1000000000 := by omega
  have hB : 32 + n ≤ 1000000000 := by omega
  go_wp2_with (first | (refine wpList_store_row rfl 26 (.tmp 5) (.tmp 8) rfl w3.heap.size (bc D).toArray rfl rfl 26 _ (heap_alloc_new w3 _) HZ.out (by rw [HSZ.out]; rfl) HO.out ?_; refine name_list ?_; intro W4 HW4; obtain ⟨q1, q2, q3, q4⟩ := HAFT.out W4 HW4; clear HW4) | (refine wpList_of_wp (by rfl) (wp_app5 (.tmp 9) (.tmp 10) rfl (w3.heap.size + 1) _ 0 [] rfl q1 (some ⟨w3.heap.size, 0, none⟩) 32 32 D rfl q2 hA q3 32 D rfl rfl ?_); intro v5 w5 h5 hg5; obtain ⟨r1, r2, r3⟩ := q4 v5 w5 h5 hg5) | (refine wpList_of_wp (by rfl) (wp_app5 (.tmp 11) (.tmp 12) rfl (w3.heap.size + 1) v5 32 D rfl h5 a n cap l rfl r1 hB r2 (32 + n) (D ++ l) rfl rfl ?_); intro v6 w6 h6 hg6; obtain ⟨g, c, rfl, HF⟩ := r3 v6 w6 h6 hg6; clear h6 hg6))
  clear q1 q2 q3 q4 r1 r2 r3 h5 hg5 HAFT HA3 HZ HO HSZ
  have HFL := hide (show 32 + n = (D ++ l).length by rw [List.length_append, HLS.out, HF.out.2.2.2])
  with_reducible refine (rsum_any (some ⟨g, 0, none⟩) (32 + n) c (D ++ l) w6 ⟨HFL.out, Sb.of HF.out.1, fun h => by cases h⟩ (by omega)).mono ?_
  rintro e w7 ⟨rfl, hb⟩
  rw [← HMO.out]
  have HLT := hide (show (tagd s.data.toList l).length = 32 by rw [HMO.out]; exact sha_len _)
  have HR : Hid (Blk w7 w.heap.size 26 (List.replicate 32 (.int .u8 0)) ∧ Below w.heap.size w w7) := hide ⟨HF.out.2.2.1.below hb HF.out.2.2.1.lt, below_one HF.out.2.1 hb⟩
  clear hb HF HFL HMO HLS
  generalize hE0 : tagd s.data.toList l = E at *
  have HEE := hide hE0
  clear hE0
  have HSZ := hide (dv_size _ HLT.out)
  have HZ := hide (show (Tryd.prog.info? 26).map (·.size) = some ((bc E).toArray).size by rw [HSZ.out]; exact Tryd.size26)
  have HO := hide (all_oneCell_toArray (bc_one E))
  go_wp2_with (refine wpList_store_row rfl 26 (.tmp 4) (.tmp 14) rfl w.heap.size (bc E).toArray rfl rfl 26 _ HR.out.1 HZ.out (by rw [HSZ.out]; rfl) HO.out ?_)
  refine bodyPost_ret (v := dv E) (results_cell_row rfl _ _ w.heap.size 26 _ (0, 0) _ rfl (setRow_heap _ _ _ _ _ _ HR.out.1) Tryd.underlying26 rfl HZ.out) rfl ⟨by rw [HEE.out], below_setRow HR.out.2 (Nat.le_refl _) _⟩
end Go.Proofs.YthimljcfmnehcaaDoor
