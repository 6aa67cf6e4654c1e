/- MerkleSplit's walk. -/
import Derived.Test.YthjfeodclphgaaaDoorLw
namespace Go.Proofs.YthjfeodclphgaaaDoor
open Go.RowKit Go.Shelf
theorem wp_cutN {P : Program} {c : Code} {Q : Exit → Act → World → Prop} {a : Act} {w : World} (R : Act → World → Prop) (h : c.wp P (OnlyN R) a w) (hr : ∀ a w, R a w → Q .normal a w) : c.wp P Q a w :=
  Code.wp_mono (fun e a w h => by cases e <;> first | exact hr _ _ h | exact h.elim) h
theorem LvIn.drop {w : World} {b o : Nat} {pl : List Lf} (h : LvIn w (some ⟨b, o, none⟩) pl) (k : Nat) : LvIn w (some ⟨b, o + k, none⟩) (pl.drop k) :=
  ⟨fun i hi => by
    have hi' : k + i < pl.length := by simp at hi; omega
    obtain ⟨b', o', e, h1, h2⟩ := h.cel (k + i) hi'
    cases e
    exact ⟨b, o + k, rfl, h1, by rw [List.getElem_drop, Nat.add_assoc]; exact h2⟩, fun x hx => h.sb x (List.mem_of_mem_drop hx), fun x hx => h.nil x (List.mem_of_mem_drop hx), fun x hx => h.few x (List.mem_of_mem_drop hx)⟩
theorem rootB_split {pl : List Lf} {k j : Nat} (hk : k = 2 ^ j) (h1 : k < pl.length) (h2 : pl.length ≤ 2 * k) : rootB pl = sha (nodeT tagN (rootB (pl.take k)) (rootB (pl.drop k))) := by
  have e : rowF pl = rowF (pl.take k) ++ rowF (pl.drop k) := by
    unfold rowF
    rw [← List.map_append, List.take_append_drop]
  have hp := Nat.one_le_two_pow (n := j)
  rw [rootB_more (by omega), rootB_more (by rw [List.length_take]; omega), rootB_more (by rw [List.length_drop]; omega), e]
  exact root_split sha tagN j _ _ (by rw [rowF_len, List.length_take, ← hk]; omega) (by rw [rowF_len, List.length_drop]; omega) (by rw [rowF_len, List.length_drop, ← hk]; omega)
theorem name_plan {P : Program} {ops : Array Oper} {Q : Exit → Act → World → Prop} {S : World → Prop} {p : Plan4} {a : Act} {w : World} (h : ∀ W, Hid (W = w) → wpPlan4 P ops Q S p a W) : wpPlan4 P ops Q S p a w := h w rfl
theorem tag_node5 (A : Option Addr) (n c : Nat) (l : List UInt8) (W : World) (hT : Tab W) (hl : Sb W A l) (hn : n = l.length) (hle : n ≤ 10000000) (hnil : A = none → c = 0) : Calls Tryd.prog 21 #[.string ⟨#[110, 111, 100, 101]⟩, .slice A n c] W fun e w' => e = .returned (dv (sha (tagN ++ l))) ∧ Below W.heap.size W w' := by
  have h := tagged_any sNode A n c l W hT hl hn hle (by decide) hnil
  rw [show tagd sNode.data.toList l = sha (tagN ++ l) by unfold tagd; rfl] at h
  exact h
set_option maxRecDepth 20000 in
set_option maxHeartbeats 6400000 in
theorem split_walk (PA : Option Addr) (pl : List Lf) (pc : Nat) (w : World) (hT : Tab w) (hr : LvRaw w PA pl) (hn : pl.length ≤ pc) (hpc : pc ≤ 9223372036854775807) :
    Calls Tryd.prog 16 #[.slice PA pl.length pc] w (LawPost w) := by
  have HT := hide hT
  have HR := hide hr
  have HZ := hide (fun (r : List UInt8) (hr : r.length = 32) => show (Tryd.prog.info? 26).map (·.size) = some ((bc r).toArray).size by rw [dv_size _ hr]; exact Tryd.size26)
  have HS := hide (sane_any w hT)
  clear hT hr
  go_enter Tryd.func16, Tryd.ntmps16
  go_wp2_with fail
  refine HS.out.mono ?_
  rintro e w1 ⟨rfl, hb⟩
  have HB1 := hide hb
  clear hb HS
  go_wp2_with fail
  refine (few_any PA pl pc w1 (HR.out.below HB1.out).cel (by omega) HR.out.big).mono ?_
  rintro e w2 ⟨rfl, rfl⟩
  cases hf : fewB pl with
  | false =>
    clear hf
    go_wp2_with fail
    go_ret
    exact ⟨rfl, HB1.out⟩
  | true =>
    have HF := hide hf
    clear hf
    have HV := hide ((HR.out.below HB1.out).lv HF.out)
    have hn40 := (few_spec HF.out).1
    have HTW := hide (HT.out.below HB1.out)
    by_cases h2 : pl.length < 2
    · have h2' : (pl.length : Int) < 2 := by omega
      go_wp2_with fail
      go_ret
      exact ⟨rfl, HB1.out⟩
    · have h2' : ¬ (pl.length : Int) < 2 := by omega
      have hdec : decide ((pl.length : Int) < 2) = false := by simpa using h2'
      obtain ⟨b, o, rfl, hbo, -⟩ := HV.out.cel 0 (by omega)
      go_wp2_with fail
      go_loop [3] (fun a => ∃ k : Nat, a = .int .i64 (k : Nat) ∧ 1 ≤ k ∧ k < pl.length ∧ Hid (∃ j, k = 2 ^ j)) (fun a => 40 - (intOf a).toNat)
      case atStart => exact ⟨1, rfl, by omega, by omega, hide ⟨0, rfl⟩⟩
      case round =>
        obtain ⟨k, rfl, hk1, hk2, HP2⟩ := hrel
        by_cases hlt : 2 * k < pl.length
        · have hlt' : 2 * (k : Int) < (pl.length : Int) := by omega
          go_wp2_with fail
          go_round
          case rel => exact ⟨2 * k, (by first | go_num | (congr 1; omega)), by omega, by omega, hide (by obtain ⟨j, hj⟩ := HP2.out; exact ⟨j + 1, by rw [Nat.pow_succ]; omega⟩)⟩
          case measure => simp [intOf]; omega
        · have hlt' : ¬ 2 * (k : Int) < (pl.length : Int) := by omega
          have HRS := hide (show rootB pl = sha (nodeT tagN (rootB (pl.take k)) (rootB (pl.drop k))) by obtain ⟨j, hj⟩ := HP2.out; exact rootB_split hj hk2 (by omega))
          have HRA := hide (fun (W : World) (h : Below w1.heap.size w1 W) => show Calls Tryd.prog 38 #[.slice (some ⟨b, o, none⟩) k pc] W fun e w' => e = .returned (dv (rootB (pl.take k))) ∧ Below W.heap.size W w' from by
            have := root_any (some ⟨b, o, none⟩) (pl.take k) pc W (HTW.out.below h) ((HV.out.take k).below h) (by rw [List.length_take]; omega)
            rw [show (pl.take k).length = k by rw [List.length_take]; omega] at this
            exact this)
          have HRB := hide (fun (W : World) (h : Below w1.heap.size w1 W) => show Calls Tryd.prog 38 #[.slice (some ⟨b, o + k, none⟩) (pl.length - k) (pc - k)] W fun e w' => e = .returned (dv (rootB (pl.drop k))) ∧ Below W.heap.size W w' from by
            have := root_any (some ⟨b, o + k, none⟩) (pl.drop k) (pc - k) W (HTW.out.below h) ((HV.out.drop k).below h) (by rw [List.length_drop]; omega)
            rw [show (pl.drop k).length = pl.length - k by rw [List.length_drop]] at this
            exact this)
          have HRT := hide (fun (W : World) (h : Below w1.heap.size w1 W) => root_any (some ⟨b, o, none⟩) pl pc W (HTW.out.below h) (HV.out.below h) (by omega))
          have H32 := hide (And.intro (rootB_len (pl.take k)) (And.intro (rootB_len (pl.drop k)) (rootB_len pl)))
          generalize rootB (pl.take k) = dx at *
          generalize rootB (pl.drop k) = dy at *
          generalize rootB pl = dr at *
          have hk3 : k ≤ pc := by omega
          have hk4 : k ≤ pl.length := by omega
          have hkpc : ¬ pc = k := by omega
          have hkpc' : ¬ (pc : Int) = (k : Int) := by omega
          go_wp2_with fail
          refine wp_cutN (fun a' V => ∃ cb db, a' = { tmps := #[.slice (some ⟨b, o, none⟩) pl.length pc, undef, .bool false, .int .i64 (k : Nat), .pointer (some ⟨cb, 0, none⟩), .pointer (some ⟨db, 0, none⟩), .bool true, .bool false, .slice (some ⟨b, o, none⟩) pl.length pc, .bool true, .bool false, .bool false, .slice (some ⟨b, o, none⟩) pl.length pc, .int .i64 (pl.length : Nat), .bool false, .bool false, .int .i64 (k : Nat), .int .i64 (2 * (k : Int)), .slice (some ⟨b, o, none⟩) pl.length pc, .int .i64 (pl.length : Nat), .bool false, u21, u22, .slice (some ⟨b, o, none⟩) pl.length pc, .int .i64 (k : Nat), .slice (some ⟨b, o, none⟩) k pc, dv dx, .slice (some ⟨b, o, none⟩) pl.length pc, .int .i64 (k : Nat), .slice (some ⟨b, o + k, none⟩) (pl.length - k) (pc - k), dv dy, undef, undef, undef, undef, undef, undef, undef, undef, undef], defers := [] } ∧ Hid (Blk V cb 26 (bc dx) ∧ Blk V db 26 (bc dy) ∧ Below w1.heap.size w1 V)) ?_ ?_
          · clear HRS HRT
            refine wp_region_plan4 (fun W' => Below w1.heap.size w1 W') (.take 0 (.take 1 (.take 2 (.take 4 (.take 5 (.take 6 (.three 3 (.three 7 (.both 8 (.run 9 (.run 10 (.run 11 .done))) 9 (.run 8 (.run 10 (.run 11 .done)))) 8 (.both 7 (.run 9 (.run 10 (.run 11 .done))) 9 (.run 7 (.run 10 (.run 11 .done)))) 9 (.both 7 (.run 8 (.run 10 (.run 11 .done))) 8 (.run 7 (.run 10 (.run 11 .done))))) 8 (.both 3 (.both 7 (.run 9 (.run 10 (.run 11 .done))) 9 (.run 7 (.run 10 (.run 11 .done)))) 9 (.run 3 (.run 7 (.run 10 (.run 11 .done))))) 9 (.both 3 (.both 7 (.run 8 (.run 10 (.run 11 .done))) 8 (.run 7 (.run 10 (.run 11 .done)))) 8 (.run 3 (.run 7 (.run 10 (.run 11 .done)))))))))))) (by kernel_rfl) (by kernel_rfl) ((Below.refl _ _).drew) ?_
            (refine plan4_take (o := ?_) (v := ?_) (by simp only [List.getElem?_toArray, List.getElem?_cons_zero]; rfl) (yields_run (by rfl) ?_) ?_; rotate_left; (focus (intro w' hw'; skip; go_simp <;> with_reducible rfl)); (simp only [Act.put, List.setIfInBounds_toArray, List.set_cons_zero, List.set_cons_succ]))
            (refine plan4_take (o := ?_) (v := ?_) (by simp only [List.getElem?_toArray, List.getElem?_cons_succ, List.getElem?_cons_zero]; rfl) (yields_run (by rfl) ?_) ?_; rotate_left; (focus (intro w' hw'; skip; go_simp <;> with_reducible rfl)); (simp only [Act.put, List.setIfInBounds_toArray, List.set_cons_zero, List.set_cons_succ]))
            (refine plan4_take (o := ?_) (v := ?_) (by simp only [List.getElem?_toArray, List.getElem?_cons_succ, List.getElem?_cons_zero]; rfl) (yields_run (by rfl) ?_) ?_; rotate_left; (focus (intro w' hw'; skip; go_simp <;> with_reducible rfl)); (simp only [Act.put, List.setIfInBounds_toArray, List.set_cons_zero, List.set_cons_succ]))
            (refine plan4_take (o := ?_) (v := ?_) (by simp only [List.getElem?_toArray, List.getElem?_cons_succ, List.getElem?_cons_zero]; rfl) (yields_run (by rfl) ?_) ?_; rotate_left; (focus (intro w' hw'; skip; go_simp <;> with_reducible rfl)); (simp only [Act.put, List.setIfInBounds_toArray, List.set_cons_zero, List.set_cons_succ]))
            (refine plan4_take (o := ?_) (v := ?_) (by simp only [List.getElem?_toArray, List.getElem?_cons_succ, List.getElem?_cons_zero]; rfl) (yields_run (by rfl) ?_) ?_; rotate_left; (focus (intro w' hw'; skip; go_simp <;> with_reducible rfl)); (simp only [Act.put, List.setIfInBounds_toArray, List.set_cons_zero, List.set_cons_succ]))
            (refine plan4_take (o := ?_) (v := ?_) (by simp only [List.getElem?_toArray, List.getElem?_cons_succ, List.getElem?_cons_zero]; rfl) (yields_run (by rfl) ?_) ?_; rotate_left; (focus (intro w' hw'; skip; go_simp <;> with_reducible rfl)); (simp only [Act.put, List.setIfInBounds_toArray, List.set_cons_zero, List.set_cons_succ]))
            refine plan4_three (o1 := ?_) (o2 := ?_) (o3 := ?_) (by simp only [List.getElem?_toArray, List.getElem?_cons_succ, List.getElem?_cons_zero]; rfl) (by simp only [List.getElem?_toArray, List.getElem?_cons_succ, List.getElem?_cons_zero]; rfl) (by simp only [List.getElem?_toArray, List.getElem?_cons_succ, List.getElem?_cons_zero]; rfl) ?_ ?_ ?_
            · intro R HR
              go_wp2_with fail
              refine (HRA.out _ ((Below.refl w1.heap.size w1).drew)).mono ?_
              rintro e v1 ⟨rfl, h5⟩
              have F1 := hide (below_one ((Below.refl w1.heap.size w1).drew) h5)
              clear h5
              go_wp2_with fail
              refine HR.out _ _ F1.out ?_
              clear HR
              refine plan4_three (o1 := ?_) (o2 := ?_) (o3 := ?_) (by simp only [List.getElem?_toArray, List.getElem?_cons_succ, List.getElem?_cons_zero]; rfl) (by simp only [List.getElem?_toArray, List.getElem?_cons_succ, List.getElem?_cons_zero]; rfl) (by simp only [List.getElem?_toArray, List.getElem?_cons_succ, List.getElem?_cons_zero]; rfl) ?_ ?_ ?_
              · intro R HR
                go_wp2_with fail
                refine (HRB.out _ F1.out).mono ?_
                rintro e v2 ⟨rfl, h5⟩
                have F2 := hide (below_one F1.out h5)
                clear h5
                go_wp2_with fail
                refine HR.out _ _ F2.out ?_
                clear HR
                refine plan4_both (o1 := ?_) (o2 := ?_) (by simp only [List.getElem?_toArray, List.getElem?_cons_succ, List.getElem?_cons_zero]; rfl) (by simp only [List.getElem?_toArray, List.getElem?_cons_succ, List.getElem?_cons_zero]; rfl) ?_ ?_
                · intro R HR
                  go_wp2_with fail
                  have z3 := F2.out.size
                  have F3 := hide (F2.out.alloc F2.out.size (.cells (List.replicate 32 (.int .u8 0)).toArray 26))
                  have G3n := hide (Blk.new v2 26 (List.replicate 32 (.int .u8 0)))
                  refine HR.out _ _ F3.out ?_
                  clear HR
                  refine name_plan4 ?_
                  intro v3 hk
                  have ek : v3 = (v2.alloc (.cells (List.replicate 32 (.int .u8 0)).toArray 26)) := hk.out
                  rw [← ek] at F3 G3n
                  clear hk ek
                  refine plan4_run (o := ?_) (by simp only [List.getElem?_toArray, List.getElem?_cons_succ, List.getElem?_cons_zero]; rfl) ?_
                  intro R HR
                  have hcd := G3n.out.lt
                  go_wp2_with fail
                  have z4 := F3.out.size
                  have F4 := hide (F3.out.alloc F3.out.size (.cells (List.replicate 32 (.int .u8 0)).toArray 26))
                  have G4n := hide (Blk.new v3 26 (List.replicate 32 (.int .u8 0)))
                  have G4c := hide (G3n.out.alloc (.cells (List.replicate 32 (.int .u8 0)).toArray 26))
                  refine HR.out _ _ F4.out ?_
                  clear HR
                  refine name_plan4 ?_
                  intro v4 hk
                  have ek : v4 = (v3.alloc (.cells (List.replicate 32 (.int .u8 0)).toArray 26)) := hk.out
                  rw [← ek] at F4 G4n G4c
                  clear hk ek
                  refine plan4_run (o := ?_) (by simp only [List.getElem?_toArray, List.getElem?_cons_succ, List.getElem?_cons_zero]; rfl) ?_
                  intro R HR
                  refine wpList_store_row rfl 26 (.tmp 4) (.tmp 26) rfl v2.heap.size (bc dx).toArray rfl rfl 26 _ G4c.out (HZ.out dx H32.out.1) (by rw [dv_size _ H32.out.1]; rfl) (all_oneCell_toArray (bc_one dx)) ?_
                  have F5 := hide (below_setRow F4.out (show w1.heap.size ≤ v2.heap.size by omega) (bc dx).toArray)
                  have G5c := hide ((G4c.out).row (bc dx))
                  have G5d := hide (show Blk (v4.setRow v2.heap.size (bc dx).toArray) v3.heap.size 26 (List.replicate 32 (.int .u8 0)) from (setRow_other _ _ _ _ (by omega)).trans G4n.out)
                  refine HR.out _ _ F5.out ?_
                  clear HR
                  refine plan4_run (o := ?_) (by simp only [List.getElem?_toArray, List.getElem?_cons_succ, List.getElem?_cons_zero]; rfl) ?_
                  intro R HR
                  refine wpList_store_row rfl 26 (.tmp 5) (.tmp 30) rfl v3.heap.size (bc dy).toArray rfl rfl 26 _ G5d.out (HZ.out dy H32.out.2.1) (by rw [dv_size _ H32.out.2.1]; rfl) (all_oneCell_toArray (bc_one dy)) ?_
                  have F6 := hide (below_setRow F5.out (show w1.heap.size ≤ v3.heap.size by omega) (bc dy).toArray)
                  have G6d := hide ((G5d.out).row (bc dy))
                  have G6c := hide (show Blk ((v4.setRow v2.heap.size (bc dx).toArray).setRow v3.heap.size (bc dy).toArray) v2.heap.size 26 (bc dx) from (setRow_other _ _ _ _ (by omega)).trans G5c.out)
                  refine HR.out _ _ F6.out ?_
                  clear HR
                  refine plan4_done ?_
                  exact ⟨v2.heap.size, v3.heap.size, rfl, hide ⟨G6c.out, G6d.out, F6.out⟩⟩
                · intro R HR
                  go_wp2_with fail
                  have z3 := F2.out.size
                  have F3 := hide (F2.out.alloc F2.out.size (.cells (List.replicate 32 (.int .u8 0)).toArray 26))
                  have G3n := hide (Blk.new v2 26 (List.replicate 32 (.int .u8 0)))
                  refine HR.out _ _ F3.out ?_
                  clear HR
                  refine name_plan4 ?_
                  intro v3 hk
                  have ek : v3 = (v2.alloc (.cells (List.replicate 32 (.int .u8 0)).toArray 26)) := hk.out
                  rw [← ek] at F3 G3n
                  clear hk ek
                  refine plan4_run (o := ?_) (by simp only [List.getElem?_toArray, List.getElem?_cons_succ, List.getElem?_cons_zero]; rfl) ?_
                  intro R HR
                  have hcd := G3n.out.lt
                  go_wp2_with fail
                  have z4 := F3.out.size
                  have F4 := hide (F3.out.alloc F3.out.size (.cells (List.replicate 32 (.int .u8 0)).toArray 26))
                  have G4n := hide (Blk.new v3 26 (List.replicate 32 (.int .u8 0)))
                  have G4d := hide (G3n.out.alloc (.cells (List.replicate 32 (.int .u8 0)).toArray 26))
                  refine HR.out _ _ F4.out ?_
                  clear HR
                  refine name_plan4 ?_
                  intro v4 hk
                  have ek : v4 = (v3.alloc (.cells (List.replicate 32 (.int .u8 0)).toArray 26)) := hk.out
                  rw [← ek] at F4 G4n G4d
                  clear hk ek
                  refine plan4_run (o := ?_) (by simp only [List.getElem?_toArray, List.getElem?_cons_succ, List.getElem?_cons_zero]; rfl) ?_
                  intro R HR
                  refine wpList_store_row rfl 26 (.tmp 4) (.tmp 26) rfl v3.heap.size (bc dx).toArray rfl rfl 26 _ G4n.out (HZ.out dx H32.out.1) (by rw [dv_size _ H32.out.1]; rfl) (all_oneCell_toArray (bc_one dx)) ?_
                  have F5 := hide (below_setRow F4.out (show w1.heap.size ≤ v3.heap.size by omega) (bc dx).toArray)
                  have G5c := hide ((G4n.out).row (bc dx))
                  have G5d := hide (show Blk (v4.setRow v3.heap.size (bc dx).toArray) v2.heap.size 26 (List.replicate 32 (.int .u8 0)) from (setRow_other _ _ _ _ (by omega)).trans G4d.out)
                  refine HR.out _ _ F5.out ?_
                  clear HR
                  refine plan4_run (o := ?_) (by simp only [List.getElem?_toArray, List.getElem?_cons_succ, List.getElem?_cons_zero]; rfl) ?_
                  intro R HR
                  refine wpList_store_row rfl 26 (.tmp 5) (.tmp 30) rfl v2.heap.size (bc dy).toArray rfl rfl 26 _ G5d.out (HZ.out dy H32.out.2.1) (by rw [dv_size _ H32.out.2.1]; rfl) (all_oneCell_toArray (bc_one dy)) ?_
                  have F6 := hide (below_setRow F5.out (show w1.heap.size ≤ v2.heap.size by omega) (bc dy).toArray)
                  have G6d := hide ((G5d.out).row (bc dy))
                  have G6c := hide (show Blk ((v4.setRow v3.heap.size (bc dx).toArray).setRow v2.heap.size (bc dy).toArray) v3.heap.size 26 (bc dx) from (setRow_other _ _ _ _ (by omega)).trans G5c.out)
                  refine HR.out _ _ F6.out ?_
                  clear HR
                  refine plan4_done ?_
                  exact ⟨v3.heap.size, v2.heap.size, rfl, hide ⟨G6c.out, G6d.out, F6.out⟩⟩
              · intro R HR
                go_wp2_with fail
                have z2 := F1.out.size
                have F2 := hide (F1.out.alloc F1.out.size (.cells (List.replicate 32 (.int .u8 0)).toArray 26))
                have G2n := hide (Blk.new v1 26 (List.replicate 32 (.int .u8 0)))
                refine HR.out _ _ F2.out ?_
                clear HR
                refine name_plan4 ?_
                intro v2 hk
                have ek : v2 = (v1.alloc (.cells (List.replicate 32 (.int .u8 0)).toArray 26)) := hk.out
                rw [← ek] at F2 G2n
                clear hk ek
                refine plan4_both (o1 := ?_) (o2 := ?_) (by simp only [List.getElem?_toArray, List.getElem?_cons_succ, List.getElem?_cons_zero]; rfl) (by simp only [List.getElem?_toArray, List.getElem?_cons_succ, List.getElem?_cons_zero]; rfl) ?_ ?_
                · intro R HR
                  go_wp2_with fail
                  refine (HRB.out _ F2.out).mono ?_
                  rintro e v3 ⟨rfl, h5⟩
                  have F3 := hide (below_one F2.out h5)
                  have G3c := hide (G2n.out.below h5 G2n.out.lt)
                  clear h5
                  go_wp2_with fail
                  refine HR.out _ _ F3.out ?_
                  clear HR
                  refine plan4_run (o := ?_) (by simp only [List.getElem?_toArray, List.getElem?_cons_succ, List.getElem?_cons_zero]; rfl) ?_
                  intro R HR
                  have hcd := G3c.out.lt
                  go_wp2_with fail
                  have z4 := F3.out.size
                  have F4 := hide (F3.out.alloc F3.out.size (.cells (List.replicate 32 (.int .u8 0)).toArray 26))
                  have G4n := hide (Blk.new v3 26 (List.replicate 32 (.int .u8 0)))
                  have G4c := hide (G3c.out.alloc (.cells (List.replicate 32 (.int .u8 0)).toArray 26))
                  refine HR.out _ _ F4.out ?_
                  clear HR
                  refine name_plan4 ?_
                  intro v4 hk
                  have ek : v4 = (v3.alloc (.cells (List.replicate 32 (.int .u8 0)).toArray 26)) := hk.out
                  rw [← ek] at F4 G4n G4c
                  clear hk ek
                  refine plan4_run (o := ?_) (by simp only [List.getElem?_toArray, List.getElem?_cons_succ, List.getElem?_cons_zero]; rfl) ?_
                  intro R HR
                  refine wpList_store_row rfl 26 (.tmp 4) (.tmp 26) rfl v1.heap.size (bc dx).toArray rfl rfl 26 _ G4c.out (HZ.out dx H32.out.1) (by rw [dv_size _ H32.out.1]; rfl) (all_oneCell_toArray (bc_one dx)) ?_
                  have F5 := hide (below_setRow F4.out (show w1.heap.size ≤ v1.heap.size by omega) (bc dx).toArray)
                  have G5c := hide ((G4c.out).row (bc dx))
                  have G5d := hide (show Blk (v4.setRow v1.heap.size (bc dx).toArray) v3.heap.size 26 (List.replicate 32 (.int .u8 0)) from (setRow_other _ _ _ _ (by omega)).trans G4n.out)
                  refine HR.out _ _ F5.out ?_
                  clear HR
                  refine plan4_run (o := ?_) (by simp only [List.getElem?_toArray, List.getElem?_cons_succ, List.getElem?_cons_zero]; rfl) ?_
                  intro R HR
                  refine wpList_store_row rfl 26 (.tmp 5) (.tmp 30) rfl v3.heap.size (bc dy).toArray rfl rfl 26 _ G5d.out (HZ.out dy H32.out.2.1) (by rw [dv_size _ H32.out.2.1]; rfl) (all_oneCell_toArray (bc_one dy)) ?_
                  have F6 := hide (below_setRow F5.out (show w1.heap.size ≤ v3.heap.size by omega) (bc dy).toArray)
                  have G6d := hide ((G5d.out).row (bc dy))
                  have G6c := hide (show Blk ((v4.setRow v1.heap.size (bc dx).toArray).setRow v3.heap.size (bc dy).toArray) v1.heap.size 26 (bc dx) from (setRow_other _ _ _ _ (by omega)).trans G5c.out)
                  refine HR.out _ _ F6.out ?_
                  clear HR
                  refine plan4_done ?_
                  exact ⟨v1.heap.size, v3.heap.size, rfl, hide ⟨G6c.out, G6d.out, F6.out⟩⟩
                · intro R HR
                  have hcd := G2n.out.lt
                  go_wp2_with fail
                  have z3 := F2.out.size
                  have F3 := hide (F2.out.alloc F2.out.size (.cells (List.replicate 32 (.int .u8 0)).toArray 26))
                  have G3n := hide (Blk.new v2 26 (List.replicate 32 (.int .u8 0)))
                  have G3c := hide (G2n.out.alloc (.cells (List.replicate 32 (.int .u8 0)).toArray 26))
                  refine HR.out _ _ F3.out ?_
                  clear HR
                  refine name_plan4 ?_
                  intro v3 hk
                  have ek : v3 = (v2.alloc (.cells (List.replicate 32 (.int .u8 0)).toArray 26)) := hk.out
                  rw [← ek] at F3 G3n G3c
                  clear hk ek
                  refine plan4_run (o := ?_) (by simp only [List.getElem?_toArray, List.getElem?_cons_succ, List.getElem?_cons_zero]; rfl) ?_
                  intro R HR
                  go_wp2_with fail
                  refine (HRB.out _ F3.out).mono ?_
                  rintro e v4 ⟨rfl, h5⟩
                  have F4 := hide (below_one F3.out h5)
                  have G4c := hide (G3c.out.below h5 G3c.out.lt)
                  have G4d := hide (G3n.out.below h5 G3n.out.lt)
                  clear h5
                  go_wp2_with fail
                  refine HR.out _ _ F4.out ?_
                  clear HR
                  refine plan4_run (o := ?_) (by simp only [List.getElem?_toArray, List.getElem?_cons_succ, List.getElem?_cons_zero]; rfl) ?_
                  intro R HR
                  refine wpList_store_row rfl 26 (.tmp 4) (.tmp 26) rfl v1.heap.size (bc dx).toArray rfl rfl 26 _ G4c.out (HZ.out dx H32.out.1) (by rw [dv_size _ H32.out.1]; rfl) (all_oneCell_toArray (bc_one dx)) ?_
                  have F5 := hide (below_setRow F4.out (show w1.heap.size ≤ v1.heap.size by omega) (bc dx).toArray)
                  have G5c := hide ((G4c.out).row (bc dx))
                  have G5d := hide (show Blk (v4.setRow v1.heap.size (bc dx).toArray) v2.heap.size 26 (List.replicate 32 (.int .u8 0)) from (setRow_other _ _ _ _ (by omega)).trans G4d.out)
                  refine HR.out _ _ F5.out ?_
                  clear HR
                  refine plan4_run (o := ?_) (by simp only [List.getElem?_toArray, List.getElem?_cons_succ, List.getElem?_cons_zero]; rfl) ?_
                  intro R HR
                  refine wpList_store_row rfl 26 (.tmp 5) (.tmp 30) rfl v2.heap.size (bc dy).toArray rfl rfl 26 _ G5d.out (HZ.out dy H32.out.2.1) (by rw [dv_size _ H32.out.2.1]; rfl) (all_oneCell_toArray (bc_one dy)) ?_
                  have F6 := hide (below_setRow F5.out (show w1.heap.size ≤ v2.heap.size by omega) (bc dy).toArray)
                  have G6d := hide ((G5d.out).row (bc dy))
                  have G6c := hide (show Blk ((v4.setRow v1.heap.size (bc dx).toArray).setRow v2.heap.size (bc dy).toArray) v1.heap.size 26 (bc dx) from (setRow_other _ _ _ _ (by omega)).trans G5c.out)
                  refine HR.out _ _ F6.out ?_
                  clear HR
                  refine plan4_done ?_
                  exact ⟨v1.heap.size, v2.heap.size, rfl, hide ⟨G6c.out, G6d.out, F6.out⟩⟩
              · intro R HR
                go_wp2_with fail
                have z2 := F1.out.size
                have F2 := hide (F1.out.alloc F1.out.size (.cells (List.replicate 32 (.int .u8 0)).toArray 26))
                have G2n := hide (Blk.new v1 26 (List.replicate 32 (.int .u8 0)))
                refine HR.out _ _ F2.out ?_
                clear HR
                refine name_plan4 ?_
                intro v2 hk
                have ek : v2 = (v1.alloc (.cells (List.replicate 32 (.int .u8 0)).toArray 26)) := hk.out
                rw [← ek] at F2 G2n
                clear hk ek
                refine plan4_both (o1 := ?_) (o2 := ?_) (by simp only [List.getElem?_toArray, List.getElem?_cons_succ, List.getElem?_cons_zero]; rfl) (by simp only [List.getElem?_toArray, List.getElem?_cons_succ, List.getElem?_cons_zero]; rfl) ?_ ?_
                · intro R HR
                  go_wp2_with fail
                  refine (HRB.out _ F2.out).mono ?_
                  rintro e v3 ⟨rfl, h5⟩
                  have F3 := hide (below_one F2.out h5)
                  have G3d := hide (G2n.out.below h5 G2n.out.lt)
                  clear h5
                  go_wp2_with fail
                  refine HR.out _ _ F3.out ?_
                  clear HR
                  refine plan4_run (o := ?_) (by simp only [List.getElem?_toArray, List.getElem?_cons_succ, List.getElem?_cons_zero]; rfl) ?_
                  intro R HR
                  have hcd := G3d.out.lt
                  go_wp2_with fail
                  have z4 := F3.out.size
                  have F4 := hide (F3.out.alloc F3.out.size (.cells (List.replicate 32 (.int .u8 0)).toArray 26))
                  have G4n := hide (Blk.new v3 26 (List.replicate 32 (.int .u8 0)))
                  have G4d := hide (G3d.out.alloc (.cells (List.replicate 32 (.int .u8 0)).toArray 26))
                  refine HR.out _ _ F4.out ?_
                  clear HR
                  refine name_plan4 ?_
                  intro v4 hk
                  have ek : v4 = (v3.alloc (.cells (List.replicate 32 (.int .u8 0)).toArray 26)) := hk.out
                  rw [← ek] at F4 G4n G4d
                  clear hk ek
                  refine plan4_run (o := ?_) (by simp only [List.getElem?_toArray, List.getElem?_cons_succ, List.getElem?_cons_zero]; rfl) ?_
                  intro R HR
                  refine wpList_store_row rfl 26 (.tmp 4) (.tmp 26) rfl v3.heap.size (bc dx).toArray rfl rfl 26 _ G4n.out (HZ.out dx H32.out.1) (by rw [dv_size _ H32.out.1]; rfl) (all_oneCell_toArray (bc_one dx)) ?_
                  have F5 := hide (below_setRow F4.out (show w1.heap.size ≤ v3.heap.size by omega) (bc dx).toArray)
                  have G5c := hide ((G4n.out).row (bc dx))
                  have G5d := hide (show Blk (v4.setRow v3.heap.size (bc dx).toArray) v1.heap.size 26 (List.replicate 32 (.int .u8 0)) from (setRow_other _ _ _ _ (by omega)).trans G4d.out)
                  refine HR.out _ _ F5.out ?_
                  clear HR
                  refine plan4_run (o := ?_) (by simp only [List.getElem?_toArray, List.getElem?_cons_succ, List.getElem?_cons_zero]; rfl) ?_
                  intro R HR
                  refine wpList_store_row rfl 26 (.tmp 5) (.tmp 30) rfl v1.heap.size (bc dy).toArray rfl rfl 26 _ G5d.out (HZ.out dy H32.out.2.1) (by rw [dv_size _ H32.out.2.1]; rfl) (all_oneCell_toArray (bc_one dy)) ?_
                  have F6 := hide (below_setRow F5.out (show w1.heap.size ≤ v1.heap.size by omega) (bc dy).toArray)
                  have G6d := hide ((G5d.out).row (bc dy))
                  have G6c := hide (show Blk ((v4.setRow v3.heap.size (bc dx).toArray).setRow v1.heap.size (bc dy).toArray) v3.heap.size 26 (bc dx) from (setRow_other _ _ _ _ (by omega)).trans G5c.out)
                  refine HR.out _ _ F6.out ?_
                  clear HR
                  refine plan4_done ?_
                  exact ⟨v3.heap.size, v1.heap.size, rfl, hide ⟨G6c.out, G6d.out, F6.out⟩⟩
                · intro R HR
                  have hcd := G2n.out.lt
                  go_wp2_with fail
                  have z3 := F2.out.size
                  have F3 := hide (F2.out.alloc F2.out.size (.cells (List.replicate 32 (.int .u8 0)).toArray 26))
                  have G3n := hide (Blk.new v2 26 (List.replicate 32 (.int .u8 0)))
                  have G3d := hide (G2n.out.alloc (.cells (List.replicate 32 (.int .u8 0)).toArray 26))
                  refine HR.out _ _ F3.out ?_
                  clear HR
                  refine name_plan4 ?_
                  intro v3 hk
                  have ek : v3 = (v2.alloc (.cells (List.replicate 32 (.int .u8 0)).toArray 26)) := hk.out
                  rw [← ek] at F3 G3n G3d
                  clear hk ek
                  refine plan4_run (o := ?_) (by simp only [List.getElem?_toArray, List.getElem?_cons_succ, List.getElem?_cons_zero]; rfl) ?_
                  intro R HR
                  go_wp2_with fail
                  refine (HRB.out _ F3.out).mono ?_
                  rintro e v4 ⟨rfl, h5⟩
                  have F4 := hide (below_one F3.out h5)
                  have G4d := hide (G3d.out.below h5 G3d.out.lt)
                  have G4c := hide (G3n.out.below h5 G3n.out.lt)
                  clear h5
                  go_wp2_with fail
                  refine HR.out _ _ F4.out ?_
                  clear HR
                  refine plan4_run (o := ?_) (by simp only [List.getElem?_toArray, List.getElem?_cons_succ, List.getElem?_cons_zero]; rfl) ?_
                  intro R HR
                  refine wpList_store_row rfl 26 (.tmp 4) (.tmp 26) rfl v2.heap.size (bc dx).toArray rfl rfl 26 _ G4c.out (HZ.out dx H32.out.1) (by rw [dv_size _ H32.out.1]; rfl) (all_oneCell_toArray (bc_one dx)) ?_
                  have F5 := hide (below_setRow F4.out (show w1.heap.size ≤ v2.heap.size by omega) (bc dx).toArray)
                  have G5c := hide ((G4c.out).row (bc dx))
                  have G5d := hide (show Blk (v4.setRow v2.heap.size (bc dx).toArray) v1.heap.size 26 (List.replicate 32 (.int .u8 0)) from (setRow_other _ _ _ _ (by omega)).trans G4d.out)
                  refine HR.out _ _ F5.out ?_
                  clear HR
                  refine plan4_run (o := ?_) (by simp only [List.getElem?_toArray, List.getElem?_cons_succ, List.getElem?_cons_zero]; rfl) ?_
                  intro R HR
                  refine wpList_store_row rfl 26 (.tmp 5) (.tmp 30) rfl v1.heap.size (bc dy).toArray rfl rfl 26 _ G5d.out (HZ.out dy H32.out.2.1) (by rw [dv_size _ H32.out.2.1]; rfl) (all_oneCell_toArray (bc_one dy)) ?_
                  have F6 := hide (below_setRow F5.out (show w1.heap.size ≤ v1.heap.size by omega) (bc dy).toArray)
                  have G6d := hide ((G5d.out).row (bc dy))
                  have G6c := hide (show Blk ((v4.setRow v2.heap.size (bc dx).toArray).setRow v1.heap.size (bc dy).toArray) v2.heap.size 26 (bc dx) from (setRow_other _ _ _ _ (by omega)).trans G5c.out)
                  refine HR.out _ _ F6.out ?_
                  clear HR
                  refine plan4_done ?_
                  exact ⟨v2.heap.size, v1.heap.size, rfl, hide ⟨G6c.out, G6d.out, F6.out⟩⟩
            · intro R HR
              go_wp2_with fail
              have z1 := ((Below.refl w1.heap.size w1).drew).size
              have F1 := hide (((Below.refl w1.heap.size w1).drew).alloc ((Below.refl w1.heap.size w1).drew).size (.cells (List.replicate 32 (.int .u8 0)).toArray 26))
              have G1n := hide (Blk.new w1.drew 26 (List.replicate 32 (.int .u8 0)))
              refine HR.out _ _ F1.out ?_
              clear HR
              refine name_plan4 ?_
              intro v1 hk
              have ek : v1 = (w1.drew.alloc (.cells (List.replicate 32 (.int .u8 0)).toArray 26)) := hk.out
              rw [← ek] at F1 G1n
              clear hk ek
              refine plan4_both (o1 := ?_) (o2 := ?_) (by simp only [List.getElem?_toArray, List.getElem?_cons_succ, List.getElem?_cons_zero]; rfl) (by simp only [List.getElem?_toArray, List.getElem?_cons_succ, List.getElem?_cons_zero]; rfl) ?_ ?_
              · intro R HR
                go_wp2_with fail
                refine (HRA.out _ F1.out).mono ?_
                rintro e v2 ⟨rfl, h5⟩
                have F2 := hide (below_one F1.out h5)
                have G2c := hide (G1n.out.below h5 G1n.out.lt)
                clear h5
                go_wp2_with fail
                refine HR.out _ _ F2.out ?_
                clear HR
                refine plan4_both (o1 := ?_) (o2 := ?_) (by simp only [List.getElem?_toArray, List.getElem?_cons_succ, List.getElem?_cons_zero]; rfl) (by simp only [List.getElem?_toArray, List.getElem?_cons_succ, List.getElem?_cons_zero]; rfl) ?_ ?_
                · intro R HR
                  go_wp2_with fail
                  refine (HRB.out _ F2.out).mono ?_
                  rintro e v3 ⟨rfl, h5⟩
                  have F3 := hide (below_one F2.out h5)
                  have G3c := hide (G2c.out.below h5 G2c.out.lt)
                  clear h5
                  go_wp2_with fail
                  refine HR.out _ _ F3.out ?_
                  clear HR
                  refine plan4_run (o := ?_) (by simp only [List.getElem?_toArray, List.getElem?_cons_succ, List.getElem?_cons_zero]; rfl) ?_
                  intro R HR
                  have hcd := G3c.out.lt
                  go_wp2_with fail
                  have z4 := F3.out.size
                  have F4 := hide (F3.out.alloc F3.out.size (.cells (List.replicate 32 (.int .u8 0)).toArray 26))
                  have G4n := hide (Blk.new v3 26 (List.replicate 32 (.int .u8 0)))
                  have G4c := hide (G3c.out.alloc (.cells (List.replicate 32 (.int .u8 0)).toArray 26))
                  refine HR.out _ _ F4.out ?_
                  clear HR
                  refine name_plan4 ?_
                  intro v4 hk
                  have ek : v4 = (v3.alloc (.cells (List.replicate 32 (.int .u8 0)).toArray 26)) := hk.out
                  rw [← ek] at F4 G4n G4c
                  clear hk ek
                  refine plan4_run (o := ?_) (by simp only [List.getElem?_toArray, List.getElem?_cons_succ, List.getElem?_cons_zero]; rfl) ?_
                  intro R HR
                  refine wpList_store_row rfl 26 (.tmp 4) (.tmp 26) rfl w1.drew.heap.size (bc dx).toArray rfl rfl 26 _ G4c.out (HZ.out dx H32.out.1) (by rw [dv_size _ H32.out.1]; rfl) (all_oneCell_toArray (bc_one dx)) ?_
                  have F5 := hide (below_setRow F4.out (show w1.heap.size ≤ w1.drew.heap.size by omega) (bc dx).toArray)
                  have G5c := hide ((G4c.out).row (bc dx))
                  have G5d := hide (show Blk (v4.setRow w1.drew.heap.size (bc dx).toArray) v3.heap.size 26 (List.replicate 32 (.int .u8 0)) from (setRow_other _ _ _ _ (by omega)).trans G4n.out)
                  refine HR.out _ _ F5.out ?_
                  clear HR
                  refine plan4_run (o := ?_) (by simp only [List.getElem?_toArray, List.getElem?_cons_succ, List.getElem?_cons_zero]; rfl) ?_
                  intro R HR
                  refine wpList_store_row rfl 26 (.tmp 5) (.tmp 30) rfl v3.heap.size (bc dy).toArray rfl rfl 26 _ G5d.out (HZ.out dy H32.out.2.1) (by rw [dv_size _ H32.out.2.1]; rfl) (all_oneCell_toArray (bc_one dy)) ?_
                  have F6 := hide (below_setRow F5.out (show w1.heap.size ≤ v3.heap.size by omega) (bc dy).toArray)
                  have G6d := hide ((G5d.out).row (bc dy))
                  have G6c := hide (show Blk ((v4.setRow w1.drew.heap.size (bc dx).toArray).setRow v3.heap.size (bc dy).toArray) w1.drew.heap.size 26 (bc dx) from (setRow_other _ _ _ _ (by omega)).trans G5c.out)
                  refine HR.out _ _ F6.out ?_
                  clear HR
                  refine plan4_done ?_
                  exact ⟨w1.drew.heap.size, v3.heap.size, rfl, hide ⟨G6c.out, G6d.out, F6.out⟩⟩
                · intro R HR
                  have hcd := G2c.out.lt
                  go_wp2_with fail
                  have z3 := F2.out.size
                  have F3 := hide (F2.out.alloc F2.out.size (.cells (List.replicate 32 (.int .u8 0)).toArray 26))
                  have G3n := hide (Blk.new v2 26 (List.replicate 32 (.int .u8 0)))
                  have G3c := hide (G2c.out.alloc (.cells (List.replicate 32 (.int .u8 0)).toArray 26))
                  refine HR.out _ _ F3.out ?_
                  clear HR
                  refine name_plan4 ?_
                  intro v3 hk
                  have ek : v3 = (v2.alloc (.cells (List.replicate 32 (.int .u8 0)).toArray 26)) := hk.out
                  rw [← ek] at F3 G3n G3c
                  clear hk ek
                  refine plan4_run (o := ?_) (by simp only [List.getElem?_toArray, List.getElem?_cons_succ, List.getElem?_cons_zero]; rfl) ?_
                  intro R HR
                  go_wp2_with fail
                  refine (HRB.out _ F3.out).mono ?_
                  rintro e v4 ⟨rfl, h5⟩
                  have F4 := hide (below_one F3.out h5)
                  have G4c := hide (G3c.out.below h5 G3c.out.lt)
                  have G4d := hide (G3n.out.below h5 G3n.out.lt)
                  clear h5
                  go_wp2_with fail
                  refine HR.out _ _ F4.out ?_
                  clear HR
                  refine plan4_run (o := ?_) (by simp only [List.getElem?_toArray, List.getElem?_cons_succ, List.getElem?_cons_zero]; rfl) ?_
                  intro R HR
                  refine wpList_store_row rfl 26 (.tmp 4) (.tmp 26) rfl w1.drew.heap.size (bc dx).toArray rfl rfl 26 _ G4c.out (HZ.out dx H32.out.1) (by rw [dv_size _ H32.out.1]; rfl) (all_oneCell_toArray (bc_one dx)) ?_
                  have F5 := hide (below_setRow F4.out (show w1.heap.size ≤ w1.drew.heap.size by omega) (bc dx).toArray)
                  have G5c := hide ((G4c.out).row (bc dx))
                  have G5d := hide (show Blk (v4.setRow w1.drew.heap.size (bc dx).toArray) v2.heap.size 26 (List.replicate 32 (.int .u8 0)) from (setRow_other _ _ _ _ (by omega)).trans G4d.out)
                  refine HR.out _ _ F5.out ?_
                  clear HR
                  refine plan4_run (o := ?_) (by simp only [List.getElem?_toArray, List.getElem?_cons_succ, List.getElem?_cons_zero]; rfl) ?_
                  intro R HR
                  refine wpList_store_row rfl 26 (.tmp 5) (.tmp 30) rfl v2.heap.size (bc dy).toArray rfl rfl 26 _ G5d.out (HZ.out dy H32.out.2.1) (by rw [dv_size _ H32.out.2.1]; rfl) (all_oneCell_toArray (bc_one dy)) ?_
                  have F6 := hide (below_setRow F5.out (show w1.heap.size ≤ v2.heap.size by omega) (bc dy).toArray)
                  have G6d := hide ((G5d.out).row (bc dy))
                  have G6c := hide (show Blk ((v4.setRow w1.drew.heap.size (bc dx).toArray).setRow v2.heap.size (bc dy).toArray) w1.drew.heap.size 26 (bc dx) from (setRow_other _ _ _ _ (by omega)).trans G5c.out)
                  refine HR.out _ _ F6.out ?_
                  clear HR
                  refine plan4_done ?_
                  exact ⟨w1.drew.heap.size, v2.heap.size, rfl, hide ⟨G6c.out, G6d.out, F6.out⟩⟩
              · intro R HR
                have hcd := G1n.out.lt
                go_wp2_with fail
                have z2 := F1.out.size
                have F2 := hide (F1.out.alloc F1.out.size (.cells (List.replicate 32 (.int .u8 0)).toArray 26))
                have G2n := hide (Blk.new v1 26 (List.replicate 32 (.int .u8 0)))
                have G2c := hide (G1n.out.alloc (.cells (List.replicate 32 (.int .u8 0)).toArray 26))
                refine HR.out _ _ F2.out ?_
                clear HR
                refine name_plan4 ?_
                intro v2 hk
                have ek : v2 = (v1.alloc (.cells (List.replicate 32 (.int .u8 0)).toArray 26)) := hk.out
                rw [← ek] at F2 G2n G2c
                clear hk ek
                refine plan4_run (o := ?_) (by simp only [List.getElem?_toArray, List.getElem?_cons_succ, List.getElem?_cons_zero]; rfl) ?_
                intro R HR
                go_wp2_with fail
                refine (HRA.out _ F2.out).mono ?_
                rintro e v3 ⟨rfl, h5⟩
                have F3 := hide (below_one F2.out h5)
                have G3c := hide (G2c.out.below h5 G2c.out.lt)
                have G3d := hide (G2n.out.below h5 G2n.out.lt)
                clear h5
                go_wp2_with fail
                refine HR.out _ _ F3.out ?_
                clear HR
                refine plan4_run (o := ?_) (by simp only [List.getElem?_toArray, List.getElem?_cons_succ, List.getElem?_cons_zero]; rfl) ?_
                intro R HR
                go_wp2_with fail
                refine (HRB.out _ F3.out).mono ?_
                rintro e v4 ⟨rfl, h5⟩
                have F4 := hide (below_one F3.out h5)
                have G4c := hide (G3c.out.below h5 G3c.out.lt)
                have G4d := hide (G3d.out.below h5 G3d.out.lt)
                clear h5
                go_wp2_with fail
                refine HR.out _ _ F4.out ?_
                clear HR
                refine plan4_run (o := ?_) (by simp only [List.getElem?_toArray, List.getElem?_cons_succ, List.getElem?_cons_zero]; rfl) ?_
                intro R HR
                refine wpList_store_row rfl 26 (.tmp 4) (.tmp 26) rfl w1.drew.heap.size (bc dx).toArray rfl rfl 26 _ G4c.out (HZ.out dx H32.out.1) (by rw [dv_size _ H32.out.1]; rfl) (all_oneCell_toArray (bc_one dx)) ?_
                have F5 := hide (below_setRow F4.out (show w1.heap.size ≤ w1.drew.heap.size by omega) (bc dx).toArray)
                have G5c := hide ((G4c.out).row (bc dx))
                have G5d := hide (show Blk (v4.setRow w1.drew.heap.size (bc dx).toArray) v1.heap.size 26 (List.replicate 32 (.int .u8 0)) from (setRow_other _ _ _ _ (by omega)).trans G4d.out)
                refine HR.out _ _ F5.out ?_
                clear HR
                refine plan4_run (o := ?_) (by simp only [List.getElem?_toArray, List.getElem?_cons_succ, List.getElem?_cons_zero]; rfl) ?_
                intro R HR
                refine wpList_store_row rfl 26 (.tmp 5) (.tmp 30) rfl v1.heap.size (bc dy).toArray rfl rfl 26 _ G5d.out (HZ.out dy H32.out.2.1) (by rw [dv_size _ H32.out.2.1]; rfl) (all_oneCell_toArray (bc_one dy)) ?_
                have F6 := hide (below_setRow F5.out (show w1.heap.size ≤ v1.heap.size by omega) (bc dy).toArray)
                have G6d := hide ((G5d.out).row (bc dy))
                have G6c := hide (show Blk ((v4.setRow w1.drew.heap.size (bc dx).toArray).setRow v1.heap.size (bc dy).toArray) w1.drew.heap.size 26 (bc dx) from (setRow_other _ _ _ _ (by omega)).trans G5c.out)
                refine HR.out _ _ F6.out ?_
                clear HR
                refine plan4_done ?_
                exact ⟨w1.drew.heap.size, v1.heap.size, rfl, hide ⟨G6c.out, G6d.out, F6.out⟩⟩
            · intro R HR
              go_wp2_with fail
              have z1 := ((Below.refl w1.heap.size w1).drew).size
              have F1 := hide (((Below.refl w1.heap.size w1).drew).alloc ((Below.refl w1.heap.size w1).drew).size (.cells (List.replicate 32 (.int .u8 0)).toArray 26))
              have G1n := hide (Blk.new w1.drew 26 (List.replicate 32 (.int .u8 0)))
              refine HR.out _ _ F1.out ?_
              clear HR
              refine name_plan4 ?_
              intro v1 hk
              have ek : v1 = (w1.drew.alloc (.cells (List.replicate 32 (.int .u8 0)).toArray 26)) := hk.out
              rw [← ek] at F1 G1n
              clear hk ek
              refine plan4_both (o1 := ?_) (o2 := ?_) (by simp only [List.getElem?_toArray, List.getElem?_cons_succ, List.getElem?_cons_zero]; rfl) (by simp only [List.getElem?_toArray, List.getElem?_cons_succ, List.getElem?_cons_zero]; rfl) ?_ ?_
              · intro R HR
                go_wp2_with fail
                refine (HRA.out _ F1.out).mono ?_
                rintro e v2 ⟨rfl, h5⟩
                have F2 := hide (below_one F1.out h5)
                have G2d := hide (G1n.out.below h5 G1n.out.lt)
                clear h5
                go_wp2_with fail
                refine HR.out _ _ F2.out ?_
                clear HR
                refine plan4_both (o1 := ?_) (o2 := ?_) (by simp only [List.getElem?_toArray, List.getElem?_cons_succ, List.getElem?_cons_zero]; rfl) (by simp only [List.getElem?_toArray, List.getElem?_cons_succ, List.getElem?_cons_zero]; rfl) ?_ ?_
                · intro R HR
                  go_wp2_with fail
                  refine (HRB.out _ F2.out).mono ?_
                  rintro e v3 ⟨rfl, h5⟩
                  have F3 := hide (below_one F2.out h5)
                  have G3d := hide (G2d.out.below h5 G2d.out.lt)
                  clear h5
                  go_wp2_with fail
                  refine HR.out _ _ F3.out ?_
                  clear HR
                  refine plan4_run (o := ?_) (by simp only [List.getElem?_toArray, List.getElem?_cons_succ, List.getElem?_cons_zero]; rfl) ?_
                  intro R HR
                  have hcd := G3d.out.lt
                  go_wp2_with fail
                  have z4 := F3.out.size
                  have F4 := hide (F3.out.alloc F3.out.size (.cells (List.replicate 32 (.int .u8 0)).toArray 26))
                  have G4n := hide (Blk.new v3 26 (List.replicate 32 (.int .u8 0)))
                  have G4d := hide (G3d.out.alloc (.cells (List.replicate 32 (.int .u8 0)).toArray 26))
                  refine HR.out _ _ F4.out ?_
                  clear HR
                  refine name_plan4 ?_
                  intro v4 hk
                  have ek : v4 = (v3.alloc (.cells (List.replicate 32 (.int .u8 0)).toArray 26)) := hk.out
                  rw [← ek] at F4 G4n G4d
                  clear hk ek
                  refine plan4_run (o := ?_) (by simp only [List.getElem?_toArray, List.getElem?_cons_succ, List.getElem?_cons_zero]; rfl) ?_
                  intro R HR
                  refine wpList_store_row rfl 26 (.tmp 4) (.tmp 26) rfl v3.heap.size (bc dx).toArray rfl rfl 26 _ G4n.out (HZ.out dx H32.out.1) (by rw [dv_size _ H32.out.1]; rfl) (all_oneCell_toArray (bc_one dx)) ?_
                  have F5 := hide (below_setRow F4.out (show w1.heap.size ≤ v3.heap.size by omega) (bc dx).toArray)
                  have G5c := hide ((G4n.out).row (bc dx))
                  have G5d := hide (show Blk (v4.setRow v3.heap.size (bc dx).toArray) w1.drew.heap.size 26 (List.replicate 32 (.int .u8 0)) from (setRow_other _ _ _ _ (by omega)).trans G4d.out)
                  refine HR.out _ _ F5.out ?_
                  clear HR
                  refine plan4_run (o := ?_) (by simp only [List.getElem?_toArray, List.getElem?_cons_succ, List.getElem?_cons_zero]; rfl) ?_
                  intro R HR
                  refine wpList_store_row rfl 26 (.tmp 5) (.tmp 30) rfl w1.drew.heap.size (bc dy).toArray rfl rfl 26 _ G5d.out (HZ.out dy H32.out.2.1) (by rw [dv_size _ H32.out.2.1]; rfl) (all_oneCell_toArray (bc_one dy)) ?_
                  have F6 := hide (below_setRow F5.out (show w1.heap.size ≤ w1.drew.heap.size by omega) (bc dy).toArray)
                  have G6d := hide ((G5d.out).row (bc dy))
                  have G6c := hide (show Blk ((v4.setRow v3.heap.size (bc dx).toArray).setRow w1.drew.heap.size (bc dy).toArray) v3.heap.size 26 (bc dx) from (setRow_other _ _ _ _ (by omega)).trans G5c.out)
                  refine HR.out _ _ F6.out ?_
                  clear HR
                  refine plan4_done ?_
                  exact ⟨v3.heap.size, w1.drew.heap.size, rfl, hide ⟨G6c.out, G6d.out, F6.out⟩⟩
                · intro R HR
                  have hcd := G2d.out.lt
                  go_wp2_with fail
                  have z3 := F2.out.size
                  have F3 := hide (F2.out.alloc F2.out.size (.cells (List.replicate 32 (.int .u8 0)).toArray 26))
                  have G3n := hide (Blk.new v2 26 (List.replicate 32 (.int .u8 0)))
                  have G3d := hide (G2d.out.alloc (.cells (List.replicate 32 (.int .u8 0)).toArray 26))
                  refine HR.out _ _ F3.out ?_
                  clear HR
                  refine name_plan4 ?_
                  intro v3 hk
                  have ek : v3 = (v2.alloc (.cells (List.replicate 32 (.int .u8 0)).toArray 26)) := hk.out
                  rw [← ek] at F3 G3n G3d
                  clear hk ek
                  refine plan4_run (o := ?_) (by simp only [List.getElem?_toArray, List.getElem?_cons_succ, List.getElem?_cons_zero]; rfl) ?_
                  intro R HR
                  go_wp2_with fail
                  refine (HRB.out _ F3.out).mono ?_
                  rintro e v4 ⟨rfl, h5⟩
                  have F4 := hide (below_one F3.out h5)
                  have G4d := hide (G3d.out.below h5 G3d.out.lt)
                  have G4c := hide (G3n.out.below h5 G3n.out.lt)
                  clear h5
                  go_wp2_with fail
                  refine HR.out _ _ F4.out ?_
                  clear HR
                  refine plan4_run (o := ?_) (by simp only [List.getElem?_toArray, List.getElem?_cons_succ, List.getElem?_cons_zero]; rfl) ?_
                  intro R HR
                  refine wpList_store_row rfl 26 (.tmp 4) (.tmp 26) rfl v2.heap.size (bc dx).toArray rfl rfl 26 _ G4c.out (HZ.out dx H32.out.1) (by rw [dv_size _ H32.out.1]; rfl) (all_oneCell_toArray (bc_one dx)) ?_
                  have F5 := hide (below_setRow F4.out (show w1.heap.size ≤ v2.heap.size by omega) (bc dx).toArray)
                  have G5c := hide ((G4c.out).row (bc dx))
                  have G5d := hide (show Blk (v4.setRow v2.heap.size (bc dx).toArray) w1.drew.heap.size 26 (List.replicate 32 (.int .u8 0)) from (setRow_other _ _ _ _ (by omega)).trans G4d.out)
                  refine HR.out _ _ F5.out ?_
                  clear HR
                  refine plan4_run (o := ?_) (by simp only [List.getElem?_toArray, List.getElem?_cons_succ, List.getElem?_cons_zero]; rfl) ?_
                  intro R HR
                  refine wpList_store_row rfl 26 (.tmp 5) (.tmp 30) rfl w1.drew.heap.size (bc dy).toArray rfl rfl 26 _ G5d.out (HZ.out dy H32.out.2.1) (by rw [dv_size _ H32.out.2.1]; rfl) (all_oneCell_toArray (bc_one dy)) ?_
                  have F6 := hide (below_setRow F5.out (show w1.heap.size ≤ w1.drew.heap.size by omega) (bc dy).toArray)
                  have G6d := hide ((G5d.out).row (bc dy))
                  have G6c := hide (show Blk ((v4.setRow v2.heap.size (bc dx).toArray).setRow w1.drew.heap.size (bc dy).toArray) v2.heap.size 26 (bc dx) from (setRow_other _ _ _ _ (by omega)).trans G5c.out)
                  refine HR.out _ _ F6.out ?_
                  clear HR
                  refine plan4_done ?_
                  exact ⟨v2.heap.size, w1.drew.heap.size, rfl, hide ⟨G6c.out, G6d.out, F6.out⟩⟩
              · intro R HR
                have hcd := G1n.out.lt
                go_wp2_with fail
                have z2 := F1.out.size
                have F2 := hide (F1.out.alloc F1.out.size (.cells (List.replicate 32 (.int .u8 0)).toArray 26))
                have G2n := hide (Blk.new v1 26 (List.replicate 32 (.int .u8 0)))
                have G2d := hide (G1n.out.alloc (.cells (List.replicate 32 (.int .u8 0)).toArray 26))
                refine HR.out _ _ F2.out ?_
                clear HR
                refine name_plan4 ?_
                intro v2 hk
                have ek : v2 = (v1.alloc (.cells (List.replicate 32 (.int .u8 0)).toArray 26)) := hk.out
                rw [← ek] at F2 G2n G2d
                clear hk ek
                refine plan4_run (o := ?_) (by simp only [List.getElem?_toArray, List.getElem?_cons_succ, List.getElem?_cons_zero]; rfl) ?_
                intro R HR
                go_wp2_with fail
                refine (HRA.out _ F2.out).mono ?_
                rintro e v3 ⟨rfl, h5⟩
                have F3 := hide (below_one F2.out h5)
                have G3d := hide (G2d.out.below h5 G2d.out.lt)
                have G3c := hide (G2n.out.below h5 G2n.out.lt)
                clear h5
                go_wp2_with fail
                refine HR.out _ _ F3.out ?_
                clear HR
                refine plan4_run (o := ?_) (by simp only [List.getElem?_toArray, List.getElem?_cons_succ, List.getElem?_cons_zero]; rfl) ?_
                intro R HR
                go_wp2_with fail
                refine (HRB.out _ F3.out).mono ?_
                rintro e v4 ⟨rfl, h5⟩
                have F4 := hide (below_one F3.out h5)
                have G4d := hide (G3d.out.below h5 G3d.out.lt)
                have G4c := hide (G3c.out.below h5 G3c.out.lt)
                clear h5
                go_wp2_with fail
                refine HR.out _ _ F4.out ?_
                clear HR
                refine plan4_run (o := ?_) (by simp only [List.getElem?_toArray, List.getElem?_cons_succ, List.getElem?_cons_zero]; rfl) ?_
                intro R HR
                refine wpList_store_row rfl 26 (.tmp 4) (.tmp 26) rfl v1.heap.size (bc dx).toArray rfl rfl 26 _ G4c.out (HZ.out dx H32.out.1) (by rw [dv_size _ H32.out.1]; rfl) (all_oneCell_toArray (bc_one dx)) ?_
                have F5 := hide (below_setRow F4.out (show w1.heap.size ≤ v1.heap.size by omega) (bc dx).toArray)
                have G5c := hide ((G4c.out).row (bc dx))
                have G5d := hide (show Blk (v4.setRow v1.heap.size (bc dx).toArray) w1.drew.heap.size 26 (List.replicate 32 (.int .u8 0)) from (setRow_other _ _ _ _ (by omega)).trans G4d.out)
                refine HR.out _ _ F5.out ?_
                clear HR
                refine plan4_run (o := ?_) (by simp only [List.getElem?_toArray, List.getElem?_cons_succ, List.getElem?_cons_zero]; rfl) ?_
                intro R HR
                refine wpList_store_row rfl 26 (.tmp 5) (.tmp 30) rfl w1.drew.heap.size (bc dy).toArray rfl rfl 26 _ G5d.out (HZ.out dy H32.out.2.1) (by rw [dv_size _ H32.out.2.1]; rfl) (all_oneCell_toArray (bc_one dy)) ?_
                have F6 := hide (below_setRow F5.out (show w1.heap.size ≤ w1.drew.heap.size by omega) (bc dy).toArray)
                have G6d := hide ((G5d.out).row (bc dy))
                have G6c := hide (show Blk ((v4.setRow v1.heap.size (bc dx).toArray).setRow w1.drew.heap.size (bc dy).toArray) v1.heap.size 26 (bc dx) from (setRow_other _ _ _ _ (by omega)).trans G5c.out)
                refine HR.out _ _ F6.out ?_
                clear HR
                refine plan4_done ?_
                exact ⟨v1.heap.size, w1.drew.heap.size, rfl, hide ⟨G6c.out, G6d.out, F6.out⟩⟩
          rintro a' V ⟨cb, db, rfl, HV8⟩
          have hcb := HV8.out.1.lt
          have hdb := HV8.out.2.1.lt
          have HTV := hide (HTW.out.below (below_one HV8.out.2.2 ((Below.refl _ V).drew)))
          have HRV := hide (fun (U : World) (h : Below V.drew.heap.size V.drew U) => HRT.out U (below_one (below_one HV8.out.2.2 ((Below.refl _ V).drew)) h))
          have HSX := hide (fun (U : World) (h : Below V.drew.heap.size V.drew U) => show Src U (some ⟨cb, 0, none⟩) 32 32 dx from ⟨H32.out.1.symm, byte_sb (HV8.out.1.below (((Below.refl _ V).drew).trans h) hcb), fun h => by cases h⟩)
          have HSY := hide (fun (U : World) (h : Below V.drew.heap.size V.drew U) => show Src U (some ⟨db, 0, none⟩) 32 32 dy from ⟨H32.out.2.1.symm, byte_sb (HV8.out.2.1.below (((Below.refl _ V).drew).trans h) hdb), fun h => by cases h⟩)
          go_wp2_with fail
          refine wp_region_plan4 (fun W' => Below V.drew.heap.size V.drew W') (.take 0 (.take 3 (.take 5 (.both 1 (.run 2 (.run 4 (.run 6 (.run 7 (.take 8 (.take 9 .done)))))) 2 (.run 1 (.run 4 (.run 6 (.run 7 (.take 8 (.take 9 .done)))))))))) (by kernel_rfl) (by kernel_rfl) (Below.refl _ _) ?_
          (refine plan4_take (o := ?_) (v := ?_) (by simp only [List.getElem?_toArray, List.getElem?_cons_zero]; rfl) (yields_run (by rfl) ?_) ?_; rotate_left; (focus (intro w' hw'; skip; go_simp <;> with_reducible rfl)); (simp only [Act.put, List.setIfInBounds_toArray, List.set_cons_zero, List.set_cons_succ]))
          (refine plan4_take (o := ?_) (v := ?_) (by simp only [List.getElem?_toArray, List.getElem?_cons_succ, List.getElem?_cons_zero]; rfl) (yields_run (by rfl) ?_) ?_; rotate_left; (focus (intro w' hw'; skip; go_simp <;> with_reducible rfl)); (simp only [Act.put, List.setIfInBounds_toArray, List.set_cons_zero, List.set_cons_succ]))
          (refine plan4_take (o := ?_) (v := ?_) (by simp only [List.getElem?_toArray, List.getElem?_cons_succ, List.getElem?_cons_zero]; rfl) (yields_run (by rfl) ?_) ?_; rotate_left; (focus (intro w' hw'; skip; go_simp <;> with_reducible rfl)); (simp only [Act.put, List.setIfInBounds_toArray, List.set_cons_zero, List.set_cons_succ]))
          refine plan4_both (o1 := ?_) (o2 := ?_) (by simp only [List.getElem?_toArray, List.getElem?_cons_succ, List.getElem?_cons_zero]; rfl) (by simp only [List.getElem?_toArray, List.getElem?_cons_succ, List.getElem?_cons_zero]; rfl) ?_ ?_
          · intro R HR
            go_wp2_with fail
            refine (HRV.out _ (Below.refl V.drew.heap.size V.drew)).mono ?_
            rintro e x1 ⟨rfl, h5⟩
            have F1 := hide (below_one (Below.refl V.drew.heap.size V.drew) h5)
            clear h5
            go_wp2_with fail
            refine HR.out _ _ F1.out ?_
            clear HR
            refine plan4_run (o := ?_) (by simp only [List.getElem?_toArray, List.getElem?_cons_succ, List.getElem?_cons_zero]; rfl) ?_
            intro R HR
            go_wp2_with fail
            have F2 := hide (F1.out.alloc F1.out.size (.cells #[] 5))
            have O2 := hide (own_empty x1 V.drew.heap.size 5 5 1 rfl F1.out.size)
            refine HR.out _ _ F2.out ?_
            clear HR
            refine name_plan4 ?_
            intro x2 hk
            have ek : x2 = x1.alloc (.cells #[] 5) := hk.out
            rw [← ek] at F2 O2
            clear hk ek
            refine plan4_run (o := ?_) (by simp only [List.getElem?_toArray, List.getElem?_cons_succ, List.getElem?_cons_zero]; rfl) ?_
            intro R HR
            refine wpList_plain rfl ?_
            intro K' hK'
            refine wp_app5 (.tmp 33) (.tmp 34) rfl V.drew.heap.size _ 0 [] rfl O2.out (some ⟨cb, 0, none⟩) 32 32 dx rfl (HSX.out _ F2.out) (by decide) F2.out.size 32 dx rfl rfl ?_
            intro y3 x3 hown hg
            refine hK' _ _ ?_
            have O3 := hide hown
            have F3 := hide ((F2.out).grown hg (F2.out).size (fun k hk => (O2.out.lt k hk).1))
            clear hown hg
            obtain ⟨g3, d3, rfl, -, hbs3, -, hle3, hct3⟩ := own_form O3.out (by decide)
            have S3 := hide (And.intro hbs3 (And.intro hle3 hct3))
            clear hbs3 hle3 hct3
            refine HR.out _ _ F3.out ?_
            clear HR
            refine plan4_run (o := ?_) (by simp only [List.getElem?_toArray, List.getElem?_cons_succ, List.getElem?_cons_zero]; rfl) ?_
            intro R HR
            refine wpList_plain rfl ?_
            intro K' hK'
            refine wp_app5 (.tmp 35) (.tmp 36) rfl V.drew.heap.size _ 32 dx rfl O3.out (some ⟨db, 0, none⟩) 32 32 dy rfl (HSY.out _ F3.out) (by decide) F3.out.size 64 (dx ++ dy) rfl rfl ?_
            intro y4 x4 hown hg
            refine hK' _ _ ?_
            have O4 := hide hown
            have F4 := hide ((F3.out).grown hg (F3.out).size (fun k hk => (O3.out.lt k hk).1))
            clear hown hg
            obtain ⟨g4, d4, rfl, -, hbs4, -, hle4, hct4⟩ := own_form O4.out (by decide)
            have S4 := hide (And.intro hbs4 (And.intro hle4 hct4))
            clear hbs4 hle4 hct4
            refine HR.out _ _ F4.out ?_
            clear HR
            refine plan4_run (o := ?_) (by simp only [List.getElem?_toArray, List.getElem?_cons_succ, List.getElem?_cons_zero]; rfl) ?_
            intro R HR
            go_wp2_with fail
            refine (tag_node5 (some ⟨g4, 0, none⟩) 64 d4 (dx ++ dy) _ (HTV.out.below F4.out) (Sb.of S4.out.1) (by rw [List.length_append, H32.out.1, H32.out.2.1]) (by decide) (fun h => by cases h)).mono ?_
            rintro e x5 ⟨he, h5⟩
            rw [show sha (tagN ++ (dx ++ dy)) = dr from HRS.out.symm] at he
            subst he
            have F5 := hide (below_one F4.out h5)
            clear h5
            go_wp2_with fail
            refine HR.out _ _ F5.out ?_
            clear HR
            (refine plan4_take (o := ?_) (v := .bool true) (by simp only [List.getElem?_toArray, List.getElem?_cons_succ, List.getElem?_cons_zero]; rfl) (yields_dig (by rfl) (.tmp 32) (.tmp 38) 26 rfl dr rfl rfl H32.out.2.2) ?_; (simp only [Act.put, List.setIfInBounds_toArray, List.set_cons_zero, List.set_cons_succ]))
            (refine plan4_take (o := ?_) (v := ?_) (by simp only [List.getElem?_toArray, List.getElem?_cons_succ, List.getElem?_cons_zero]; rfl) (yields_run (by rfl) ?_) ?_; rotate_left; (focus (intro w' hw'; skip; go_simp <;> with_reducible rfl)); (simp only [Act.put, List.setIfInBounds_toArray, List.set_cons_zero, List.set_cons_succ]))
            refine plan4_done ?_
            have HEND := hide F5.out
            go_wp2_with fail
            go_ret
            exact ⟨rfl, below_one HB1.out (below_one HV8.out.2.2 (((Below.refl _ V).drew).trans HEND.out))⟩
          · intro R HR
            go_wp2_with fail
            have F1 := hide ((Below.refl V.drew.heap.size V.drew).alloc (Below.refl V.drew.heap.size V.drew).size (.cells #[] 5))
            have O1 := hide (own_empty V.drew V.drew.heap.size 5 5 1 rfl (Below.refl V.drew.heap.size V.drew).size)
            refine HR.out _ _ F1.out ?_
            clear HR
            refine name_plan4 ?_
            intro x1 hk
            have ek : x1 = V.drew.alloc (.cells #[] 5) := hk.out
            rw [← ek] at F1 O1
            clear hk ek
            refine plan4_run (o := ?_) (by simp only [List.getElem?_toArray, List.getElem?_cons_succ, List.getElem?_cons_zero]; rfl) ?_
            intro R HR
            go_wp2_with fail
            refine (HRV.out _ F1.out).mono ?_
            rintro e x2 ⟨rfl, h5⟩
            have F2 := hide (below_one F1.out h5)
            have O2 := hide (own_below O1.out h5)
            clear h5
            go_wp2_with fail
            refine HR.out _ _ F2.out ?_
            clear HR
            refine plan4_run (o := ?_) (by simp only [List.getElem?_toArray, List.getElem?_cons_succ, List.getElem?_cons_zero]; rfl) ?_
            intro R HR
            refine wpList_plain rfl ?_
            intro K' hK'
            refine wp_app5 (.tmp 33) (.tmp 34) rfl V.drew.heap.size _ 0 [] rfl O2.out (some ⟨cb, 0, none⟩) 32 32 dx rfl (HSX.out _ F2.out) (by decide) F2.out.size 32 dx rfl rfl ?_
            intro y3 x3 hown hg
            refine hK' _ _ ?_
            have O3 := hide hown
            have F3 := hide ((F2.out).grown hg (F2.out).size (fun k hk => (O2.out.lt k hk).1))
            clear hown hg
            obtain ⟨g3, d3, rfl, -, hbs3, -, hle3, hct3⟩ := own_form O3.out (by decide)
            have S3 := hide (And.intro hbs3 (And.intro hle3 hct3))
            clear hbs3 hle3 hct3
            refine HR.out _ _ F3.out ?_
            clear HR
            refine plan4_run (o := ?_) (by simp only [List.getElem?_toArray, List.getElem?_cons_succ, List.getElem?_cons_zero]; rfl) ?_
            intro R HR
            refine wpList_plain rfl ?_
            intro K' hK'
            refine wp_app5 (.tmp 35) (.tmp 36) rfl V.drew.heap.size _ 32 dx rfl O3.out (some ⟨db, 0, none⟩) 32 32 dy rfl (HSY.out _ F3.out) (by decide) F3.out.size 64 (dx ++ dy) rfl rfl ?_
            intro y4 x4 hown hg
            refine hK' _ _ ?_
            have O4 := hide hown
            have F4 := hide ((F3.out).grown hg (F3.out).size (fun k hk => (O3.out.lt k hk).1))
            clear hown hg
            obtain ⟨g4, d4, rfl, -, hbs4, -, hle4, hct4⟩ := own_form O4.out (by decide)
            have S4 := hide (And.intro hbs4 (And.intro hle4 hct4))
            clear hbs4 hle4 hct4
            refine HR.out _ _ F4.out ?_
            clear HR
            refine plan4_run (o := ?_) (by simp only [List.getElem?_toArray, List.getElem?_cons_succ, List.getElem?_cons_zero]; rfl) ?_
            intro R HR
            go_wp2_with fail
            refine (tag_node5 (some ⟨g4, 0, none⟩) 64 d4 (dx ++ dy) _ (HTV.out.below F4.out) (Sb.of S4.out.1) (by rw [List.length_append, H32.out.1, H32.out.2.1]) (by decide) (fun h => by cases h)).mono ?_
            rintro e x5 ⟨he, h5⟩
            rw [show sha (tagN ++ (dx ++ dy)) = dr from HRS.out.symm] at he
            subst he
            have F5 := hide (below_one F4.out h5)
            clear h5
            go_wp2_with fail
            refine HR.out _ _ F5.out ?_
            clear HR
            (refine plan4_take (o := ?_) (v := .bool true) (by simp only [List.getElem?_toArray, List.getElem?_cons_succ, List.getElem?_cons_zero]; rfl) (yields_dig (by rfl) (.tmp 32) (.tmp 38) 26 rfl dr rfl rfl H32.out.2.2) ?_; (simp only [Act.put, List.setIfInBounds_toArray, List.set_cons_zero, List.set_cons_succ]))
            (refine plan4_take (o := ?_) (v := ?_) (by simp only [List.getElem?_toArray, List.getElem?_cons_succ, List.getElem?_cons_zero]; rfl) (yields_run (by rfl) ?_) ?_; rotate_left; (focus (intro w' hw'; skip; go_simp <;> with_reducible rfl)); (simp only [Act.put, List.setIfInBounds_toArray, List.set_cons_zero, List.set_cons_succ]))
            refine plan4_done ?_
            have HEND := hide F5.out
            go_wp2_with fail
            go_ret
            exact ⟨rfl, below_one HB1.out (below_one HV8.out.2.2 (((Below.refl _ V).drew).trans HEND.out))⟩
end Go.Proofs.YthjfeodclphgaaaDoor
