/- At: the value of the polynomial through some points. -/
import Derived.Test.YtcafjncilflanaaWgt
import Derived.Deep.OwnRows
namespace Go.Proofs.Ytcafjncilflanaa
open Go.RowKit

/-- What the points count, one after the other; those behind the first k are still 0. -/
def trm (l : List Pt) (x : Int) (j : Nat) : Int := md ((l.map (·.2)).getD j 0 * wgt l j x)
def trms (l : List Pt) (x : Int) (k : Nat) : List Int := (List.range l.length).map fun j => if j < k then trm l x j else 0
theorem trms_len (l : List Pt) (x : Int) (k : Nat) : (trms l x k).length = l.length := by simp [trms]
theorem trms_set (l : List Pt) (x : Int) (k : Nat) : ((trms l x k).map fun n => Value.int .i64 n).set k (.int .i64 (trm l x k)) = (trms l x (k + 1)).map fun n => Value.int .i64 n := by
  apply List.ext_getElem
  · simp [trms]
  · intro j h1 h2
    simp only [trms, List.length_map, List.length_set, List.length_range] at h1 h2
    rw [List.getElem_set]
    simp only [trms, List.getElem_map, List.getElem_range]
    by_cases hj : k = j
    · subst hj
      rw [if_pos rfl, if_pos (by omega)]
    · rw [if_neg hj]
      by_cases hl : j < k
      · rw [if_pos hl, if_pos (by omega)]
      · rw [if_neg hl, if_neg (by omega)]
theorem trms_zero (l : List Pt) (x : Int) : (trms l x 0).map (fun n => Value.int .i64 n) = List.replicate l.length (.int .i64 0) := by
  apply List.ext_getElem
  · simp [trms]
  · intro j h1 h2
    simp [trms]
theorem trms_sum (l : List Pt) (x : Int) : ∀ k, k ≤ l.length → md (sumTo (trms l x l.length) k) = md (lagS l x k)
  | 0, _ => rfl
  | k + 1, h => by
    have ih := trms_sum l x k (by omega)
    have e : (trms l x l.length).getD k 0 = trm l x k := by
      have h1 : k < (trms l x l.length).length := by rw [trms_len]; omega
      rw [List.getD_eq_getElem?_getD, List.getElem?_eq_getElem h1]
      simp only [trms, List.getElem_map, List.getElem_range, Option.getD_some]
      rw [if_pos (by omega)]
    show md (sumTo (trms l x l.length) k + (trms l x l.length).getD k 0) = md (lagS l x k + (l.map (·.2)).getD k 0 * wgt l k x)
    rw [e]
    exact md_add ih (md_md _)

/-- What At answers. -/
def atV (l : List Pt) (x : Int) : Value := .tuple #[.int .i64 (if 64 < l.length then 0 else if difB (l.map (·.1)) then atF l x else 0), .int .i64 (if 64 < l.length then 2 else if difB (l.map (·.1)) then 0 else 90)]
theorem Try.info3 : (Try.prog.info? 3).map (fun i => (i.zero, i.size, i.bytes)) = some (some (.int .i64 0), 1, 8) := by kernel_rfl

set_option maxRecDepth 20000 in
set_option maxHeartbeats 6400000 in
theorem at_any (A : Option Addr) (l : List Pt) (cap : Nat) (x : Int) (w : World) (hA : Pts w A l) (hl : l.length ≤ cap) (hc : cap ≤ 9223372036854775807) :
    Calls Try.prog 18 #[.slice A l.length cap, .int .i64 x] w fun e w' => e = .returned (atV l x) ∧ Below w.heap.size w w' := by
  have HA := hide hA
  clear hA
  by_cases h64 : 64 < l.length
  · have HV := hide (show atV l x = .tuple #[.int .i64 0, .int .i64 2] by unfold atV; rw [if_pos h64, if_pos h64])
    have h64' : (64 : Int) < (l.length : Int) := by omega
    go_enter Try.func18, Try.ntmps18
    go_wp2_with fail
    refine bodyPost_ret (results_tmp2 rfl _ _ _) rfl ?_
    exact ⟨by rw [HV.out]; rfl, Below.refl _ _⟩
  · have h64' : ¬ (64 : Int) < (l.length : Int) := by omega
    have HDF := hide (different_any A l cap w HA.out hl hc (by have : (64 : Nat) < maxLen := by decide
                                                               omega))
    by_cases hd : difB (l.map (·.1)) = true
    · have HV := hide (show atV l x = .tuple #[.int .i64 (atF l x), .int .i64 0] by unfold atV; rw [if_neg h64, if_pos hd, if_neg h64, if_pos hd])
      have HD := hide ((difB_iff _).1 hd)
      rw [hd] at HDF
      have HF := hide (trms_sum l x l.length (Nat.le_refl _))
      have HLN := hide (trms_len l x l.length)
      have hmk : ∀ W : World, (Instr.makeSlice 32 (.int .i64 (l.length : Nat)) (.int .i64 (l.length : Nat))).run Try.prog W = .ok (.slice (some ⟨W.heap.size, 0, none⟩) l.length l.length) (W.alloc (.cells (madeCells #[.int .i64 0] l.length) 3)) := fun W =>
        run_make_row' 32 3 (.int .i64 0) 8 Try.underlying32 Try.info3 rfl .i64 .i64 l.length (by omega) (by omega) W
      have HMC := hide (show madeCells #[.int .i64 0] l.length = ((trms l x 0).map fun n => Value.int .i64 n).toArray by
        rw [trms_zero]
        simp only [madeCells]
        apply Array.ext
        · simp
        · intro i h1 h2; simp [Nat.mod_one])
      clear hd
      go_enter Try.func18, Try.ntmps18
      go_wp2_with fail
      refine HDF.out.mono ?_
      rintro e w1 ⟨rfl, hb⟩
      have HB1 := hide hb
      clear hb HDF
      go_wp2_with fail
      clear hmk
      rw [HMC.out]
      have HB2 := hide (HB1.out.alloc HB1.out.size (.cells ((trms l x 0).map fun n => Value.int .i64 n).toArray 3))
      have HT2 := hide (Blk.new w1 3 ((trms l x 0).map fun n => Value.int .i64 n))
      have HZ := hide (HB1.out.size)
      generalize hw2 : w1.alloc (.cells ((trms l x 0).map fun n => Value.int .i64 n).toArray 3) = w2 at *
      clear hw2
      generalize w1.heap.size = Bt at *
      clear HMC HB1 w1
      go_loopw [7, 8, 20] (fun _ _ i wr => ∃ k : Nat, k ≤ l.length ∧ i = .int .i64 k ∧ Hid (Blk wr Bt 3 ((trms l x k).map fun n => Value.int .i64 n)) ∧ Hid (Below w.heap.size w wr)) (fun _ _ i _ => l.length - (intOf i).toNat)
      case atStart => exact ⟨0, Nat.zero_le _, rfl, HT2, HB2⟩
      case round =>
        obtain ⟨k, hk, rfl, HT, HW⟩ := hrel
        by_cases hlt : k < l.length
        · have hlt' : (k : Int) < (l.length : Int) := by omega
          obtain ⟨b, o, hAb, c0, c1⟩ := (HA.out.below HW.out).at hlt
          have HWT := hide (fun (W : World) (h : Below w.heap.size w W) => weight_any A l cap k x W (HA.out.below h) hl hc hlt HD.out)
          have HTS := hide (trms_set l x k)
          have HTR := hide (show trm l x k = md (l[k].2 * md (wgt l k x)) by
            rw [md_mulr]
            unfold trm
            rw [List.getD_eq_getElem?_getD, List.getElem?_map, List.getElem?_eq_getElem hlt]
            rfl)
          subst hAb
          generalize l[k] = pt at *
          obtain ⟨X, Y⟩ := pt
          simp only at c0 c1 HTR
          have HT3 := hide (HT.out.alloc (.cells #[.int .i64 X, .int .i64 Y] 35))
          have H3 := hide (HW.out.alloc HW.out.size (.cells #[.int .i64 X, .int .i64 Y] 35))
          have HP3 := hide (Blk.new wr 35 [.int .i64 X, .int .i64 Y])
          go_wp2_with fail
          generalize hW3 : wr.alloc (.cells #[.int .i64 X, .int .i64 Y] 35) = W3 at *
          clear hW3
          refine wp_region_plan4 (fun W' => W'.cell? ⟨wr.heap.size, 1, none⟩ = some (.int .i64 Y)) (.take 0 (.take 1 (.take 2 (.take 3 (.take 4 (.take 5 (.take 6 (.run 7 (.run 8 (.run 9 (.last 10 .done))))))))))) (by kernel_rfl) (by kernel_rfl) (HP3.out.cell 1) ?_
          (refine plan4_take (o := ?_) (v := ?_) (by simp only [List.getElem?_toArray, List.getElem?_cons_zero]; rfl) (yields_run (by rfl) ?_) ?_; rotate_left; (focus (intro w' hw'; go_simp <;> with_reducible rfl)); (simp only [Act.put, List.setIfInBounds_toArray, List.set_cons_zero, List.set_cons_succ]))
          (refine plan4_take (o := ?_) (v := ?_) (by simp only [List.getElem?_toArray, List.getElem?_cons_succ, List.getElem?_cons_zero]; rfl) (yields_run (by rfl) ?_) ?_; rotate_left; (focus (intro w' hw'; go_simp <;> with_reducible rfl)); (simp only [Act.put, List.setIfInBounds_toArray, List.set_cons_zero, List.set_cons_succ]))
          (refine plan4_take (o := ?_) (v := ?_) (by simp only [List.getElem?_toArray, List.getElem?_cons_succ, List.getElem?_cons_zero]; rfl) (yields_run (by rfl) ?_) ?_; rotate_left; (focus (intro w' hw'; go_simp <;> with_reducible rfl)); (simp only [Act.put, List.setIfInBounds_toArray, List.set_cons_zero, List.set_cons_succ]))
          (refine plan4_take (o := ?_) (v := ?_) (by simp only [List.getElem?_toArray, List.getElem?_cons_succ, List.getElem?_cons_zero]; rfl) (yields_run (by rfl) ?_) ?_; rotate_left; (focus (intro w' hw'; go_simp <;> with_reducible rfl)); (simp only [Act.put, List.setIfInBounds_toArray, List.set_cons_zero, List.set_cons_succ]))
          (refine plan4_take (o := ?_) (v := ?_) (by simp only [List.getElem?_toArray, List.getElem?_cons_succ, List.getElem?_cons_zero]; rfl) (yields_run (by rfl) ?_) ?_; rotate_left; (focus (intro w' hw'; go_simp <;> with_reducible rfl)); (simp only [Act.put, List.setIfInBounds_toArray, List.set_cons_zero, List.set_cons_succ]))
          (refine plan4_take (o := ?_) (v := ?_) (by simp only [List.getElem?_toArray, List.getElem?_cons_succ, List.getElem?_cons_zero]; rfl) (yields_run (by rfl) ?_) ?_; rotate_left; (focus (intro w' hw'; go_simp <;> with_reducible rfl)); (simp only [Act.put, List.setIfInBounds_toArray, List.set_cons_zero, List.set_cons_succ]))
          (refine plan4_take (o := ?_) (v := ?_) (by simp only [List.getElem?_toArray, List.getElem?_cons_succ, List.getElem?_cons_zero]; rfl) (yields_run (by rfl) ?_) ?_; rotate_left; (focus (intro w' hw'; go_simp <;> with_reducible rfl)); (simp only [Act.put, List.setIfInBounds_toArray, List.set_cons_zero, List.set_cons_succ]))
          refine plan4_run (o := ?_) (by simp only [List.getElem?_toArray, List.getElem?_cons_succ, List.getElem?_cons_zero]; rfl) ?_
          intro R' HR
          go_wp2_with fail
          refine (HWT.out W3.drew H3.out.drew).mono ?_
          rintro e v1 ⟨rfl, hb⟩
          have HB4 := hide (show Below W3.heap.size W3 v1 from below_ofdrew hb)
          have H4 := hide (below_one H3.out HB4.out)
          have HT4 := hide (HT3.out.below HB4.out HT3.out.lt)
          have HP4 := hide (HP3.out.below HB4.out HP3.out.lt)
          clear hb HB4
          go_wp2_with fail
          refine HR.out _ _ (HP4.out.cell 1) ?_
          clear HR
          refine plan4_run (o := ?_) (by simp only [List.getElem?_toArray, List.getElem?_cons_succ, List.getElem?_cons_zero]; rfl) ?_
          intro R' HR
          go_wp2_with fail
          refine (mul_any _ _ _).mono ?_
          rintro e w' ⟨rfl, rfl⟩
          rw [← HTR.out]
          go_wp2_with fail
          refine HR.out _ _ (HP4.out.cell 1) ?_
          clear HR
          refine plan4_run (o := ?_) (by simp only [List.getElem?_toArray, List.getElem?_cons_succ, List.getElem?_cons_zero]; rfl) ?_
          intro R' HR
          go_wp2_with fail
          refine HR.out _ _ (HP4.out.cell 1) ?_
          clear HR
          refine plan4_last (o := ?_) (by simp only [List.getElem?_toArray, List.getElem?_cons_succ, List.getElem?_cons_zero]; rfl) ?_
          intro R' HR
          obtain ⟨old, k0⟩ : ∃ old, v1.cell? ⟨Bt, k, none⟩ = some old := by
            refine ⟨_, (HT4.out.cell k).trans (List.getElem?_eq_getElem (by rw [List.length_map, trms_len]; exact hlt))⟩
          have f0 := HT4.out.free k
          go_wp2_with fail
          refine HR.out _ _ ?_
          clear HR k0 f0
          refine plan4_done ?_
          have HT5 := hide (HT4.out.set k (.int .i64 (trm l x k)))
          rw [HTS.out] at HT5
          have H5 := hide (show Below w.heap.size w (v1.setCell ⟨Bt, k, none⟩ (.int .i64 (trm l x k))) from H4.out.setCell HZ.out _)
          go_wp2_with fail
          go_roundw
          case rel => exact ⟨k + 1, by omega, by go_num, HT5, H5⟩
          case measure => simp [intOf]; omega
        · obtain rfl : k = l.length := by omega
          have HS := hide (sum_any (some ⟨Bt, 0, none⟩) (trms l x l.length) l.length wr (Nums.blk HT.out) (by rw [HLN.out]; exact Nat.le_refl _) (by omega))
          rw [HLN.out, HF.out] at HS
          go_wp2_with fail
          refine HS.out.mono ?_
          rintro e w' ⟨rfl, rfl⟩
          go_wp2_with fail
          refine bodyPost_ret (results_tmp2 rfl _ _ _) rfl ?_
          exact ⟨by rw [HV.out]; rfl, HW.out⟩
    · have hd' : difB (l.map (·.1)) = false := by simpa using hd
      have HV := hide (show atV l x = .tuple #[.int .i64 0, .int .i64 90] by unfold atV; rw [if_neg h64, if_neg hd, if_neg h64, if_neg hd])
      rw [hd'] at HDF
      clear hd hd'
      go_enter Try.func18, Try.ntmps18
      go_wp2_with fail
      refine HDF.out.mono ?_
      rintro e w1 ⟨rfl, hb⟩
      have HB1 := hide hb
      clear hb HDF
      go_wp2_with fail
      refine bodyPost_ret (results_tmp2 rfl _ _ _) rfl ?_
      exact ⟨by rw [HV.out]; rfl, HB1.out⟩
end Go.Proofs.Ytcafjncilflanaa
