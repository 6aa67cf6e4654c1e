/- MerkleProve's walk. -/
import Derived.Test.YthjfeodclphgaaaDoorOpn
namespace Go.Proofs.YthjfeodclphgaaaDoor
open Go.RowKit Go.Shelf
set_option maxRecDepth 20000 in
set_option maxHeartbeats 6400000 in
theorem prove_walk (PA : Option Addr) (pl : List Lf) (pc : Nat) (i : Int) (w : World) (hT : Tab w) (hr : LvRaw w PA pl) (hn : pl.length ≤ 9223372036854775807) :
    Calls Tryd.prog 13 #[.slice PA pl.length pc, .int .i64 i] w (LawPost w) := by
  have HT := hide hT
  have HR := hide hr
  have HZ := hide (fun (r : List UInt8) (hr : r.length = 32) => show (Tryd.prog.info? 26).map (·.size) = some ((bc r).toArray).size by rw [dv_size _ hr]; exact Tryd.size26)
  have HS := hide (sane_any w hT)
  clear hT hr
  go_enter Tryd.func13, Tryd.ntmps13
  go_wp2_with fail
  refine HS.out.mono ?_
  rintro e w1 ⟨rfl, hb⟩
  have HB1 := hide hb
  clear hb HS
  go_wp2_with fail
  refine (few_any PA pl pc w1 (HR.out.below HB1.out).cel hn HR.out.big).mono ?_
  rintro e w2 ⟨rfl, rfl⟩
  cases hf : fewB pl with
  | false =>
    clear hf
    go_wp2_with fail
    go_ret
    exact ⟨rfl, HB1.out⟩
  | true =>
    have HF := hide hf
    clear hf
    have HV := hide ((HR.out.below HB1.out).lv HF.out)
    have hn40 := (few_spec HF.out).1
    have HTW := hide (HT.out.below HB1.out)
    clear hn
    by_cases hi : 0 ≤ i ∧ i < pl.length
    · obtain ⟨k, rfl⟩ : ∃ k : Nat, i = (k : Nat) := ⟨i.toNat, by omega⟩
      have hk : k < pl.length := by omega
      have h1 : ¬ ((k : Int) < 0) := by omega
      have h2 : ¬ ((pl.length : Int) ≤ (k : Int)) := by omega
      have hkk : (k : Int) < (pl.length : Int) := by omega
      have HPR := hide (prove_yes' PA pl pc k w1 HTW.out HV.out hk (by omega))
      have HCB := hide (climb_back hk (by omega))
      have H16 := hide (prove_16 (pl := pl) (i := k) (by omega))
      have HRB := hide (rootB_len pl)
      clear hi
      generalize proveR sha tagN (rowF pl) k = p at *
      obtain ⟨b, o, rfl, hbo, hco⟩ := HV.out.cel k hk
      have HX := hide (And.intro (HV.out.sb _ (List.getElem_mem hk)) (And.intro (HV.out.nil _ (List.getElem_mem hk)) (And.intro (HV.out.few _ (List.getElem_mem hk)) (And.intro hbo hco))))
      clear hbo hco
      revert HX HCB
      generalize pl[k] = x
      intro HCB HX
      go_wp2_with fail
      refine HPR.out.mono ?_
      rintro e w3 ⟨A3, c3, rfl, hd3, hb⟩
      have H3 := hide (And.intro hd3 hb)
      have c0 : w3.cell? ⟨b, o + k, none⟩ = some (.slice x.A x.l.length x.cap) := (hb.cell (p := ⟨b, o + k, none⟩) HX.out.2.2.2.1).trans HX.out.2.2.2.2
      have HC := hide (Climb_any (pl.length : Nat) (k : Nat) x.A x.cap x.l A3 p.length c3 p w3 (HTW.out.below hb) (HX.out.1.below hb) HX.out.2.1 HX.out.2.2.1 hd3)
      rw [HCB.out] at HC
      have HRT := hide (fun (W : World) (h : Below w1.heap.size w1 W) => root_any (some ⟨b, o, none⟩) pl pc W (HTW.out.below h) (HV.out.below h) (by omega))
      clear hd3 hb HPR
      go_wp2_with fail
      refine HC.out.mono ?_
      rintro e w4 ⟨rfl, hb⟩
      have H4 := hide (below_one H3.out.2 hb)
      clear hb HC c0
      go_wp2_with (refine wpList_store_row rfl 26 (.tmp 7) (.tmp 45) rfl w4.heap.size (bc (rootB pl)).toArray rfl rfl 26 _ (heap_alloc_new w4 _) (HZ.out _ HRB.out) (by rw [dv_size _ HRB.out]; rfl) (all_oneCell_toArray (bc_one (rootB pl))) ?_)
      have H5 := hide (box_set H4.out (rootB pl) rfl)
      change Code.wp _ _ _ _ ((w4.alloc (.cells (List.replicate 32 (.int .u8 0)).toArray 26)).setRow w4.heap.size (bc (rootB pl)).toArray)
      revert H5
      generalize (w4.alloc (.cells (List.replicate 32 (.int .u8 0)).toArray 26)).setRow w4.heap.size (bc (rootB pl)).toArray = W5
      intro H5
      have hp16 := H16.out
      have hp16' : (p.length : Int) ≤ 16 := by omega
      generalize rootB pl = r at *
      have HRG := hide (fun W' (h : Below W5.drew.heap.size W5.drew W') => range_below (bs_range H5.out.1.bs) (((Below.refl _ W5).drew).trans h) H5.out.1.lt)
      have HRC := hide (HRT.out W5.drew (below_one H5.out.2.1 ((Below.refl _ W5).drew)))
      refine wp_region_plan4 (fun W' => Below W5.drew.heap.size W5.drew W') (.take 0 (.take 1 (.take 2 (.take 3 (.take 4 (.take 5 (.take 6 (.take 7 (.take 8 (.run 9 (.take 10 (.take 11 (.take 12 (.take 13 (.take 14 (.take 15 (.take 16 (.take 17 .done)))))))))))))))))) (by kernel_rfl) (by kernel_rfl) (Below.refl _ _) ?_
      (refine plan4_take (o := ?_) (v := ?_) (by simp only [List.getElem?_toArray, List.getElem?_cons_zero]; rfl) (yields_run (by rfl) ?_) ?_; rotate_left; (focus (intro w' hw'; skip; go_simp <;> with_reducible rfl)); (simp only [Act.put, List.setIfInBounds_toArray, List.set_cons_zero, List.set_cons_succ]))
      (refine plan4_take (o := ?_) (v := ?_) (by simp only [List.getElem?_toArray, List.getElem?_cons_succ, List.getElem?_cons_zero]; rfl) (yields_run (by rfl) ?_) ?_; rotate_left; (focus (intro w' hw'; skip; go_simp <;> with_reducible rfl)); (simp only [Act.put, List.setIfInBounds_toArray, List.set_cons_zero, List.set_cons_succ]))
      (refine plan4_take (o := ?_) (v := ?_) (by simp only [List.getElem?_toArray, List.getElem?_cons_succ, List.getElem?_cons_zero]; rfl) (yields_run (by rfl) ?_) ?_; rotate_left; (focus (intro w' hw'; skip; go_simp <;> with_reducible rfl)); (simp only [Act.put, List.setIfInBounds_toArray, List.set_cons_zero, List.set_cons_succ]))
      (refine plan4_take (o := ?_) (v := ?_) (by simp only [List.getElem?_toArray, List.getElem?_cons_succ, List.getElem?_cons_zero]; rfl) (yields_run (by rfl) ?_) ?_; rotate_left; (focus (intro w' hw'; skip; go_simp <;> with_reducible rfl)); (simp only [Act.put, List.setIfInBounds_toArray, List.set_cons_zero, List.set_cons_succ]))
      (refine plan4_take (o := ?_) (v := ?_) (by simp only [List.getElem?_toArray, List.getElem?_cons_succ, List.getElem?_cons_zero]; rfl) (yields_run (by rfl) ?_) ?_; rotate_left; (focus (intro w' hw'; skip; go_simp <;> with_reducible rfl)); (simp only [Act.put, List.setIfInBounds_toArray, List.set_cons_zero, List.set_cons_succ]))
      (refine plan4_take (o := ?_) (v := ?_) (by simp only [List.getElem?_toArray, List.getElem?_cons_succ, List.getElem?_cons_zero]; rfl) (yields_run (by rfl) ?_) ?_; rotate_left; (focus (intro w' hw'; skip; go_simp <;> with_reducible rfl)); (simp only [Act.put, List.setIfInBounds_toArray, List.set_cons_zero, List.set_cons_succ]))
      (refine plan4_take (o := ?_) (v := ?_) (by simp only [List.getElem?_toArray, List.getElem?_cons_succ, List.getElem?_cons_zero]; rfl) (yields_run (by rfl) ?_) ?_; rotate_left; (focus (intro w' hw'; skip; go_simp <;> with_reducible rfl)); (simp only [Act.put, List.setIfInBounds_toArray, List.set_cons_zero, List.set_cons_succ]))
      (refine plan4_take (o := ?_) (by simp only [List.getElem?_toArray, List.getElem?_cons_succ, List.getElem?_cons_zero]; rfl) (yieldsIf_load_mid (by rfl) 26 (.tmp 7) rfl w4.heap.size 0 rfl (bc r) _ (fun W' h => HRG.out W' h) Tryd.underlying26 rfl (HZ.out _ HRB.out)) ?_; (simp only [Act.put, List.setIfInBounds_toArray, List.set_cons_zero, List.set_cons_succ]))
      (refine plan4_take (o := ?_) (v := ?_) (by simp only [List.getElem?_toArray, List.getElem?_cons_succ, List.getElem?_cons_zero]; rfl) (yields_run (by rfl) ?_) ?_; rotate_left; (focus (intro w' hw'; skip; go_simp <;> with_reducible rfl)); (simp only [Act.put, List.setIfInBounds_toArray, List.set_cons_zero, List.set_cons_succ]))
      refine plan4_run (o := ?_) (by simp only [List.getElem?_toArray, List.getElem?_cons_succ, List.getElem?_cons_zero]; rfl) ?_
      intro R HR2
      go_wp2_with fail
      refine HRC.out.mono ?_
      rintro e v6 ⟨rfl, hb⟩
      have H6 := hide hb
      clear hb HRC
      go_wp2_with fail
      refine HR2.out _ _ H6.out ?_
      clear HR2
      (refine plan4_take (o := ?_) (v := .bool true) (by simp only [List.getElem?_toArray, List.getElem?_cons_succ, List.getElem?_cons_zero]; rfl) (yields_dig (by rfl) (.tmp 54) (.tmp 56) 26 rfl r rfl rfl HRB.out) ?_; (simp only [Act.put, List.setIfInBounds_toArray, List.set_cons_zero, List.set_cons_succ]))
      (refine plan4_take (o := ?_) (v := ?_) (by simp only [List.getElem?_toArray, List.getElem?_cons_succ, List.getElem?_cons_zero]; rfl) (yields_run (by rfl) ?_) ?_; rotate_left; (focus (intro w' hw'; skip; go_simp <;> with_reducible rfl)); (simp only [Act.put, List.setIfInBounds_toArray, List.set_cons_zero, List.set_cons_succ]))
      (refine plan4_take (o := ?_) (v := ?_) (by simp only [List.getElem?_toArray, List.getElem?_cons_succ, List.getElem?_cons_zero]; rfl) (yields_run (by rfl) ?_) ?_; rotate_left; (focus (intro w' hw'; skip; go_simp <;> with_reducible rfl)); (simp only [Act.put, List.setIfInBounds_toArray, List.set_cons_zero, List.set_cons_succ]))
      (refine plan4_take (o := ?_) (v := ?_) (by simp only [List.getElem?_toArray, List.getElem?_cons_succ, List.getElem?_cons_zero]; rfl) (yields_run (by rfl) ?_) ?_; rotate_left; (focus (intro w' hw'; skip; go_simp <;> with_reducible rfl)); (simp only [Act.put, List.setIfInBounds_toArray, List.set_cons_zero, List.set_cons_succ]))
      (refine plan4_take (o := ?_) (v := ?_) (by simp only [List.getElem?_toArray, List.getElem?_cons_succ, List.getElem?_cons_zero]; rfl) (yields_run (by rfl) ?_) ?_; rotate_left; (focus (intro w' hw'; skip; go_simp <;> with_reducible rfl)); (simp only [Act.put, List.setIfInBounds_toArray, List.set_cons_zero, List.set_cons_succ]))
      (refine plan4_take (o := ?_) (v := ?_) (by simp only [List.getElem?_toArray, List.getElem?_cons_succ, List.getElem?_cons_zero]; rfl) (yields_run (by rfl) ?_) ?_; rotate_left; (focus (intro w' hw'; skip; go_simp <;> with_reducible rfl)); (simp only [Act.put, List.setIfInBounds_toArray, List.set_cons_zero, List.set_cons_succ]))
      (refine plan4_take (o := ?_) (v := ?_) (by simp only [List.getElem?_toArray, List.getElem?_cons_succ, List.getElem?_cons_zero]; rfl) (yields_run (by rfl) ?_) ?_; rotate_left; (focus (intro w' hw'; skip; go_simp <;> with_reducible rfl)); (simp only [Act.put, List.setIfInBounds_toArray, List.set_cons_zero, List.set_cons_succ]))
      (refine plan4_take (o := ?_) (v := ?_) (by simp only [List.getElem?_toArray, List.getElem?_cons_succ, List.getElem?_cons_zero]; rfl) (yields_run (by rfl) ?_) ?_; rotate_left; (focus (intro w' hw'; skip; go_simp <;> with_reducible rfl)); (simp only [Act.put, List.setIfInBounds_toArray, List.set_cons_zero, List.set_cons_succ]))
      refine plan4_done ?_
      have HEND := hide (show Below w1.heap.size w1 v6 from below_one (below_one H5.out.2.1 ((Below.refl _ W5).drew)) H6.out)
      go_wp2_with fail
      go_ret
      exact ⟨rfl, below_one HB1.out HEND.out⟩
    · have HPN := hide (prove_no PA pl.length pc i w1 (by unfold leafB; simp; omega))
      by_cases hneg : i < 0
      · clear hi
        go_wp2_with fail
        refine HPN.out.mono ?_
        rintro e w3 ⟨rfl, hb⟩
        have H3 := hide (below_one HB1.out hb)
        clear hb HPN
        go_wp2_with fail
        go_ret
        exact ⟨rfl, H3.out⟩
      · have hge : (pl.length : Int) ≤ i := by omega
        clear hi
        go_wp2_with fail
        refine HPN.out.mono ?_
        rintro e w3 ⟨rfl, hb⟩
        have H3 := hide (below_one HB1.out hb)
        clear hb HPN
        go_wp2_with fail
        go_ret
        exact ⟨rfl, H3.out⟩
end Go.Proofs.YthjfeodclphgaaaDoor
