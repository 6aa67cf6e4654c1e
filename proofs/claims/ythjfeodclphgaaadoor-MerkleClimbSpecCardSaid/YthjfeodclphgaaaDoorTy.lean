/- The text under a tag. -/
import Derived.Test.YthjfeodclphgaaaDoorTxt
import Derived.Test.YthjfeodclphgaaaDoorPlanT
import Derived.Deep.CutRange
import Derived.Deep.CutBlock
import Derived.Deep.Cut
import Derived.Deep.Upon
import Derived.Deep.AppendLies
namespace Go.Proofs.YthjfeodclphgaaaDoor
open Go.RowKit


/-- append of a digest's bytes and others. -/
theorem text_app {i0 : TypeInfo} {ops : Array Oper} {rest : List Oper} {w : World} {o : Oper} {a : Act} {Q : Exit → Act → World → Prop} (hg : o.guard = none) (s x : Operand)
    (ho : o.op = .call { callee := .builtin .append, args := #[s, x], argTypes := #[22, 22] }) (hi : Tryd.prog.info? 5 = some i0 ∧ i0.zero = some (Value.int .u8 0) ∧ i0.size = 1 ∧ i0.bytes = 1) {A : Option Addr} {cap X : Nat} {d l : List UInt8}
    (hS : Sb w A l ∧ l.length ≤ cap ∧ cap ≤ 9223372036854775807 ∧ (A = none → cap = 0)) (hX : Blk w X 26 (bc d)) (hd : d.length = 32) (hl : l.length ≤ 1000000000)
    (hs : a.eval s = .slice (some ⟨X, 0, none⟩) 32 32) (hx : a.eval x = .slice A l.length cap)
    (h : ∀ (A' : Option Addr) (c' : Nat) w', Sb w' A' (d ++ l) → (d ++ l).length ≤ c' → c' ≤ 9223372036854775807 → (A' = none → c' = 0) → Below w.heap.size w w' → wpList Tryd.prog ops Q rest (a.put o.dst (.slice A' (d ++ l).length c')) w') : wpList Tryd.prog ops Q (o :: rest) a w := by
  by_cases h0 : l = []
  · subst h0
    refine wpList_plain hg fun K hK => ?_
    have hsrc : Go.Src Tryd.prog i0.size 22 (.slice A 0 cap) 0 [] w := by
      cases A with
      | none =>
        have := hS.2.2.2 rfl
        subst this
        exact ⟨.inl ⟨_, Tryd.underlying22⟩, fun w' => by simp [Builtin.lenOf], by simp [Builtin.firstCells], by simp [Builtin.firstCells], by simp, by simp⟩
      | some ad => exact Go.Src.ofSlice w Tryd.underlying22 ad 0 cap [] (by simp) (by simp) (by simp)
    have hr := run_append_nothing (P := Tryd.prog) w 22 22 o.type 5 i0 Tryd.underlying22 hi.1 (some ⟨X, 0, none⟩) 32 32 (Nat.le_refl _) (.slice A 0 cap) hsrc
    have hlen : (d ++ []).length = 32 := by simp [hd]
    have h2 := h (some ⟨X, 0, none⟩) 32 w (by rw [List.append_nil]; exact Sb.of hX.bs) (by rw [hlen]; exact Nat.le_refl _) (by decide) (fun h => by cases h) (Below.refl _ _)
    rw [hlen] at h2
    unfold Oper.wp
    rw [List.length_nil] at hx
    simp [execOp, ho, resolve, invoke, builtin, hs, hx, hr, Result.andThen]
    exact hK _ _ h2
  · obtain ⟨b, o', rfl, hB⟩ := hS.1 h0
    have hpos : 0 < l.length := List.length_pos_iff.2 h0
    have hcx : ∀ j u, (bc d)[j]? = some u → w.cell? ((⟨X, 0, none⟩ : Addr).add j) = some u := fun j u hu => by
      rw [Addr.add_mid, Nat.zero_add]
      exact (hX.cell j).trans hu
    have hcl : ∀ j u, (bc l)[j]? = some u → w.cell? ((⟨b, o', none⟩ : Addr).add j) = some u := fun j u hu => by
      have hj : j < l.length := by rw [← bc_len l]; exact (List.getElem?_eq_some_iff.1 hu).1
      rw [Addr.add_mid, hB j hj, ← hu, bc_get hj]
    refine wpList_append_grows w hg s x 22 ho 5 i0 _ 1 1 Tryd.underlying22 hi.1 hi.2.1 hi.2.2.1 hi.2.2.2 rfl (by decide) (some ⟨X, 0, none⟩) 32 32 (bc d) hs (fun h => by cases h) (by rw [bc_len, hd]) (fun b' e j u hu => by cases e; exact hcx j u hu) ⟨b, o', none⟩ l.length cap (bc l) hx (by rw [bc_len, Nat.mul_one]) hcl (bc_one l) (by omega) (by unfold maxLen; omega) (by omega) ?_
    intro v' w' hown hgr
    rw [← bc_append] at hown
    have hlen : 32 + l.length = (d ++ l).length := by rw [List.length_append, hd]
    rw [hlen] at hown
    obtain ⟨g, c', rfl, hlt, _⟩ := hown.form (by rw [← hlen]; omega)
    have hcap : (d ++ l).length ≤ c' ∧ c' ≤ 9223372036854775807 := by
      rcases hown.2 with ⟨h0, _⟩ | ⟨g', cap', cur, hv, _, _, h3, h4, _⟩
      · cases h0
      · injection hv with _ _ h5
        unfold maxLen at h4
        omega
    exact h (some ⟨g, 0, none⟩) c' w' (Sb.of (row_bytes hown)) hcap.1 hcap.2 (fun h => by cases h) (only_none hgr)
set_option maxRecDepth 20000 in
set_option maxHeartbeats 1600000 in
theorem text_any (s : ByteArray) (PA : Option Addr) (pn pc : Nat) (l : List UInt8) (w : World) (hT : Tab w) (hs : s.size ≤ 10000000) (hl : l.length ≤ 1000000000)
    (hc : ∀ W, Below w.heap.size w W → Calls Tryd.prog 52 #[.slice PA pn pc] W (ByP l W)) :
    Calls Tryd.prog 97 #[.string s, .slice PA pn pc] w (ByP (sha s.data.toList ++ l) w) := by
  have HT := hide hT
  have HC := hide hc
  have HCP := hide (cv_post s w (by omega))
  have hcv := cv_run s
  obtain ⟨i0, hi⟩ := hinfo5
  have HI := hide hi
  have HDL := hide (sha_len s.data.toList)
  clear hT hc hi
  go_enter Tryd.func97, Tryd.ntmps97
  go_wp2_with fail
  refine name_world ?_
  intro W1 HW1
  clear hcv
  have HA : Hid (Below w.heap.size w W1 ∧ Bs W1 w.heap.size 0 s.data.toList ∧ s.size ≤ cvC s w ∧ cvC s w ≤ 9223372036854775807) := by
    have e : W1 = cvW s w := HW1.out
    rw [e]
    exact hide ⟨HCP.out.2.2.2.1, HCP.out.2.2.1, HCP.out.1, HCP.out.2.1⟩
  clear HW1 HCP
  with_reducible refine (sum_is (some ⟨w.heap.size, 0, none⟩) s.size (cvC s w) s.data.toList W1 (HT.out.below HA.out.1) (Sb.of HA.out.2.1) (by simp) HA.out.2.2.1 HA.out.2.2.2 (by omega)).mono ?_
  rintro e w2 ⟨rfl, hb2⟩
  have HB2 := hide (below_one HA.out.1 hb2)
  clear HA hb2
  have HZ := hide (show (Tryd.prog.info? 26).map (·.size) = some ((bc (sha s.data.toList)).toArray).size by rw [dv_size _ (sha_len _)]; exact Tryd.size26)
  have HO := hide (all_oneCell_toArray (bc_one (sha s.data.toList)))
  have HZ2 := hide (dv_size _ (sha_len s.data.toList))
  generalize sha s.data.toList = d at *
  go_upto_region 2 with (refine wpList_store_row rfl 26 (.tmp 5) (.tmp 8) rfl w2.heap.size _ rfl rfl 26 _ (heap_alloc_new w2 _) HZ.out (by rw [HZ2.out]; rfl) HO.out ?_)
  refine name_code ?_
  intro W3 hW3
  have HB3 : Hid (Blk W3 w2.heap.size 26 (bc d)) := by
    have e : W3 = (w2.alloc (.cells (List.replicate 32 (.int .u8 0)).toArray 26)).setRow w2.heap.size (bc d).toArray := hW3.out
    rw [e]
    exact hide (setRow_heap _ w2.heap.size _ _ 26 _ (heap_alloc_new w2 _))
  have HW3 : Hid (Below w.heap.size w W3) := by
    have e : W3 = (w2.alloc (.cells (List.replicate 32 (.int .u8 0)).toArray 26)).setRow w2.heap.size (bc d).toArray := hW3.out
    rw [e]
    exact hide (below_setRow (HB2.out.alloc HB2.out.size _) HB2.out.size _)
  have HW2 := hide (show w2.heap.size ≤ w2.heap.size from Nat.le_refl _)
  clear hW3 HB2 HZ HO HZ2 HT
  generalize w2.heap.size = X5 at *
  refine wp_region_plan3 (fun w' => Below W3.heap.size W3 w') (.take 0 (.take 1 (.run 2 (.run 3 (.take 4 .done))))) (by kernel_rfl) (by kernel_rfl) ((Below.refl _ _).drew) ?_
  have HF0 := hide (show Below W3.heap.size W3 W3.drew from (Below.refl _ _).drew)
  have HFD := hide (below_one HW3.out HF0.out)
  generalize W3.drew = wD at HF0 HFD ⊢
  (refine plan3_take (o := ?_) (v := ?_) (by simp only [List.getElem?_toArray, List.getElem?_cons_zero]; rfl) (yields_run (by rfl) ?_) ?_; rotate_left; (focus (intro w' hw'; go_simp <;> with_reducible rfl)); (simp only [Act.put, List.setIfInBounds_toArray, List.set_cons_zero, List.set_cons_succ]))
  (refine plan3_take (o := ?_) (v := ?_) (by simp only [List.getElem?_toArray, List.getElem?_cons_succ, List.getElem?_cons_zero]; rfl) (yields_run (by rfl) ?_) ?_; rotate_left; (focus (intro w' hw'; go_simp <;> with_reducible rfl)); (simp only [Act.put, List.setIfInBounds_toArray, List.set_cons_zero, List.set_cons_succ]))
  refine plan3_run (o := ?_) (by simp only [List.getElem?_toArray, List.getElem?_cons_succ, List.getElem?_cons_zero]; rfl) ?_
  intro R HR
  go_wp2_with fail
  with_reducible refine (HC.out wD HFD.out).mono ?_
  rintro e w5 ⟨A, cap, rfl, hsb, hle, htop, hnil, hb⟩
  have HS5 := hide (And.intro hsb (And.intro hle (And.intro htop hnil)))
  have HF5 := hide (below_one HF0.out hb)
  clear hsb hle htop hnil hb
  go_wp2_with fail
  refine HR.out _ _ HF5.out ?_
  clear HR
  refine plan3_run (o := ?_) (by simp only [List.getElem?_toArray, List.getElem?_cons_succ, List.getElem?_cons_zero]; rfl) ?_
  intro R HR
  refine text_app rfl (.tmp 9) (.tmp 11) rfl HI.out HS5.out (HB3.out.below HF5.out HB3.out.lt) HDL.out hl rfl rfl ?_
  intro A' c' w7 hsb7 hle7 htop7 hA7 hb7
  have HS7 := hide (And.intro hsb7 (And.intro hle7 (And.intro htop7 hA7)))
  have HF7 := hide (below_one HF5.out hb7)
  clear hsb7 hle7 htop7 hA7 hb7
  go_wp2_with fail
  refine HR.out _ _ HF7.out ?_
  clear HR
  (refine plan3_take (o := ?_) (v := ?_) (by simp only [List.getElem?_toArray, List.getElem?_cons_succ, List.getElem?_cons_zero]; rfl) (yields_run (by rfl) ?_) ?_; rotate_left; (focus (intro w' hw'; go_simp <;> with_reducible rfl)); (simp only [Act.put, List.setIfInBounds_toArray, List.set_cons_zero, List.set_cons_succ]))
  refine plan3_done ?_
  go_wp2_with fail
  go_ret
  exact ⟨A', c', by rw [List.length_append]; rfl, HS7.out.1, HS7.out.2.1, HS7.out.2.2.1, HS7.out.2.2.2, below_one HW3.out HF7.out⟩
end Go.Proofs.YthjfeodclphgaaaDoor
