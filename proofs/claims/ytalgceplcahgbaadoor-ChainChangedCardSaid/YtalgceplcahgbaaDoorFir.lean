/- The first link at which two lists part. -/
import Derived.Test.YtalgceplcahgbaaDoorChe
namespace Go.Proofs.YtalgceplcahgbaaDoor
open Go.RowKit Go.Shelf

set_option maxRecDepth 20000 in
set_option maxHeartbeats 3200000 in
theorem part1_any (r : Lr) (B : Option Addr) (m : List Lr) (cap X i : Nat) (hi : i < m.length) (w : World) (hr : r.In w) (hm : Lks w B m) (hX : w.cell? ⟨X, 0, none⟩ = some (.slice B m.length cap)) (hX2 : X < w.heap.size) :
    Calls Tryd.prog 71 #[.int .i64 i, r.v, .pointer (some ⟨X, 0, none⟩)] w fun e w' => e = .returned (.bool (!(r.x.same (m[i]).x))) ∧ Below w.heap.size w w' := by
  obtain ⟨b, o, rfl, hb0, hrg, hin⟩ := hm.at hi
  generalize m[i] = s at *
  have HR := hide hr
  have HS := hide hin
  have HG := hide hrg
  have HC := hide hX
  have HN := hide (Blk.new w 60 r.cs)
  have HB := hide (below_new w (.cells r.cs.toArray 60))
  have HLT := hide (And.intro hb0 hX2)
  have hi2 : ((i : Nat) : Int) < ((m.length : Nat) : Int) := by omega
  have HW := hide (below_new w (.cells r.cs.toArray 60))
  clear hr hin hrg hX hX2 hb0 hm
  generalize hw1 : w.alloc (.cells r.cs.toArray 60) = w1 at *
  have HSM := hide (same_any r s w1.drew (HR.out.below (w' := w1.drew) ⟨HB.out.os, HB.out.tape, HB.out.output, HB.out.size, HB.out.block⟩) (HS.out.below (w' := w1.drew) ⟨HB.out.os, HB.out.tape, HB.out.output, HB.out.size, HB.out.block⟩))
  have hSS : w1.cell? ⟨X, 0, none⟩ = some (.slice (some ⟨b, o, none⟩) m.length cap) ∧ w1.rangeAt w.heap.size 0 r.cs ∧ w1.rangeAt b (o + i * 35) s.cs :=
    ⟨(HB.out.cell (p := ⟨X, 0, none⟩) HLT.out.2).trans HC.out, fun j v hv => by rw [Nat.zero_add, HN.out.cell j]; exact hv, range_below HG.out HB.out HLT.out.1⟩
  have HSS := hide hSS
  clear hSS
  go_enter Tryd.func71, Tryd.ntmps71
  go_upto_region 1 with fail
  refine name_code ?_
  intro V hV
  obtain rfl : V = w1 := by rw [hV.out, ← hw1]
  clear hV hw1
  refine wp_region_plan4 (fun W' => W'.cell? ⟨X, 0, none⟩ = some (.slice (some ⟨b, o, none⟩) m.length cap) ∧ W'.rangeAt w.heap.size 0 r.cs ∧ W'.rangeAt b (o + i * 35) s.cs) (.take 0 (.take 1 (.take 2 (.take 3 (.take 4 (.run 5 (.run 6 (.last 7 .done)))))))) (by kernel_rfl) (by kernel_rfl) HSS.out ?_
  (refine plan4_take (o := ?_) (v := .agg r.cs.toArray) (by simp only [List.getElem?_toArray, List.getElem?_cons_zero]; rfl) ?_ ?_; (focus (exact yieldsIf_load_mid (by rfl) 60 (.tmp 4) rfl w.heap.size 0 rfl r.cs _ (fun _ h => And.left (And.right h)) Tryd.underlying60 rfl (size60 HR.out))); (simp only [Act.put, List.setIfInBounds_toArray, List.set_cons_zero, List.set_cons_succ]))
  (refine plan4_take (o := ?_) (v := ?_) (by simp only [List.getElem?_toArray, List.getElem?_cons_succ, List.getElem?_cons_zero]; rfl) (yields_run (by rfl) ?_) ?_; rotate_left; (focus (intro w' hw'; obtain ⟨s0, s1, s2⟩ := hw'; go_simp <;> with_reducible rfl)); (simp only [Act.put, List.setIfInBounds_toArray, List.set_cons_zero, List.set_cons_succ]))
  (refine plan4_take (o := ?_) (v := ?_) (by simp only [List.getElem?_toArray, List.getElem?_cons_succ, List.getElem?_cons_zero]; rfl) (yields_run (by rfl) ?_) ?_; rotate_left; (focus (intro w' hw'; obtain ⟨s0, s1, s2⟩ := hw'; go_simp <;> with_reducible rfl)); (simp only [Act.put, List.setIfInBounds_toArray, List.set_cons_zero, List.set_cons_succ]))
  (refine plan4_take (o := ?_) (v := ?_) (by simp only [List.getElem?_toArray, List.getElem?_cons_succ, List.getElem?_cons_zero]; rfl) (yields_run (by rfl) ?_) ?_; rotate_left; (focus (intro w' hw'; obtain ⟨s0, s1, s2⟩ := hw'; go_simp <;> with_reducible rfl)); (simp only [Act.put, List.setIfInBounds_toArray, List.set_cons_zero, List.set_cons_succ]))
  (refine plan4_take (o := ?_) (v := .agg s.cs.toArray) (by simp only [List.getElem?_toArray, List.getElem?_cons_succ, List.getElem?_cons_zero]; rfl) ?_ ?_; (focus (exact yieldsIf_load_mid (by rfl) 60 (.tmp 9) rfl b (o + i * 35) rfl s.cs _ (fun _ h => And.right (And.right h)) Tryd.underlying60 rfl (size60 HS.out))); (simp only [Act.put, List.setIfInBounds_toArray, List.set_cons_zero, List.set_cons_succ]))
  have HLV := hide (show b < V.heap.size ∧ X < V.heap.size ∧ w.heap.size < V.heap.size from ⟨Nat.lt_of_lt_of_le HLT.out.1 HB.out.size, Nat.lt_of_lt_of_le HLT.out.2 HB.out.size, HN.out.lt⟩)
  refine plan4_run (o := ?_) (by simp only [List.getElem?_toArray, List.getElem?_cons_succ, List.getElem?_cons_zero]; rfl) ?_
  intro R' HK
  go_wp2_with fail
  refine HSM.out.mono ?_
  rintro e v2 ⟨rfl, hb⟩
  have hb : Below V.heap.size V v2 := ⟨hb.os, hb.tape, hb.output, hb.size, hb.block⟩
  have HB2 := hide (below_one HB.out hb)
  have HS2 := hide (show v2.cell? ⟨X, 0, none⟩ = some (.slice (some ⟨b, o, none⟩) m.length cap) ∧ v2.rangeAt w.heap.size 0 r.cs ∧ v2.rangeAt b (o + i * 35) s.cs from
    ⟨(hb.cell (p := ⟨X, 0, none⟩) HLV.out.2.1).trans HSS.out.1, range_below HSS.out.2.1 hb HLV.out.2.2, range_below HSS.out.2.2 hb HLV.out.1⟩)
  clear hb
  go_wp2_with fail
  refine HK.out _ _ HS2.out ?_
  clear HK
  refine plan4_run (o := ?_) (by simp only [List.getElem?_toArray, List.getElem?_cons_succ, List.getElem?_cons_zero]; rfl) ?_
  intro R' HK
  go_wp2_with fail
  refine HK.out _ _ HS2.out ?_
  clear HK
  refine plan4_last (o := ?_) (by simp only [List.getElem?_toArray, List.getElem?_cons_succ, List.getElem?_cons_zero]; rfl) ?_
  intro R' HK
  go_wp2_with fail
  refine HK.out _ _ ?_
  clear HK
  refine plan4_done ?_
  go_wp2_with fail
  go_ret
  exact ⟨rfl, HB2.out⟩

/-- A place, or none. -/
def fdA : Option Nat → Int × Bool
  | some i => (i, true)
  | none => (0, false)
theorem firstD_succ_same {a b : List Ln} {k : Nat} (h : firstD a b k = none) (h1 : k < a.length) (h2 : k < b.length) (hs : a[k].same b[k] = true) : firstD a b (k + 1) = none := by
  simp [firstD, h, List.getElem?_eq_getElem h1, List.getElem?_eq_getElem h2, hs]
theorem firstD_found {a b : List Ln} {k : Nat} (h : firstD a b k = none) (h1 : k < a.length) (h2 : k < b.length) (hs : a[k].same b[k] = false) : ∀ n, k < n → firstD a b n = some k
  | 0, hn => absurd hn (by omega)
  | n + 1, hn => by
    by_cases e : k = n
    · subst e
      simp [firstD, h, List.getElem?_eq_getElem h1, List.getElem?_eq_getElem h2, hs]
    · simp [firstD, firstD_found h h1 h2 hs n (by omega)]
set_option maxRecDepth 20000 in
set_option maxHeartbeats 3200000 in
theorem first_any (A B : Option Addr) (l m : List Lr) (ca cap X : Nat) (w : World) (hl : Lks w A l) (hm : Lks w B m) (hlm : l.length ≤ m.length) (hmx : m.length ≤ 9223372036854775807) (hX : w.cell? ⟨X, 0, none⟩ = some (.slice B m.length cap)) (hX2 : X < w.heap.size) :
    Calls Tryd.prog 70 #[.slice A l.length ca, .func (.func 71) #[] #[.pointer (some ⟨X, 0, none⟩)]] w fun e w' => e = .returned (.tuple #[.int .i64 (fdA (firstD (lnks l) (lnks m) l.length)).1, .bool (fdA (firstD (lnks l) (lnks m) l.length)).2]) ∧ Below w.heap.size w w' := by
  have HL := hide hl
  have HM := hide hm
  have HX := hide (And.intro hX hX2)
  have HLM := hide hlm
  clear hl hm hX hX2
  generalize hR : firstD (lnks l) (lnks m) l.length = R
  have HR := hide hR
  clear hR
  go_enter Tryd.func70, Tryd.ntmps70
  go_wp2_with fail
  go_loopw [10] (fun i wr => ∃ k : Nat, k ≤ l.length ∧ i = .int .i64 k ∧ Hid (Below w.heap.size w wr) ∧ Hid (firstD (lnks l) (lnks m) k = none)) (fun i _ => l.length - (intOf i).toNat)
  case atStart => exact ⟨0, Nat.zero_le _, rfl, hide (Below.refl _ _), hide rfl⟩
  case round =>
    obtain ⟨k, hk, rfl, hb, hq⟩ := hrel
    by_cases hlt : k < l.length
    · have hlt' : (k : Int) < l.length := by omega
      obtain ⟨b, o, hA, hb0, hrg, hin⟩ := (HL.out.below hb.out).at hlt
      have HKM := hide (show k < m.length by have := HLM.out; omega)
      have HKL := hide hlt
      have HG := hide hrg
      have HI := hide hin
      have HRN := hide (show (lnks l)[k]'(by rw [lnks_len]; exact hlt) = (l[k]'hlt).x from by simp only [lnks, List.getElem_map])
      have HSN := hide (show (lnks m)[k]'(by rw [lnks_len]; exact HKM.out) = (m[k]'HKM.out).x from by simp only [lnks, List.getElem_map])
      have HP := hide (fun (W : World) (h : Below wr.heap.size wr W) (r : Lr) (hr : r.In W) => part1_any r B m cap X k HKM.out W hr (HM.out.below (below_one hb.out h)) (((below_one hb.out h).cell (p := ⟨X, 0, none⟩) HX.out.2).trans HX.out.1) (Nat.lt_of_lt_of_le HX.out.2 (below_one hb.out h).size))
      generalize l[k] = r at *
      generalize m[k]'HKM.out = s at *
      have HZ60 := hide (size60 HI.out)
      have HX5 := hide (show Blk ((wr.alloc (.cells z60.toArray 60)).setRow wr.heap.size r.cs.toArray) wr.heap.size 60 r.cs from (Blk.new wr 60 z60).row _)
      have HB5 := hide (show Below wr.heap.size wr ((wr.alloc (.cells z60.toArray 60)).setRow wr.heap.size r.cs.toArray) from below_setRow (below_new wr _) (Nat.le_refl _) _)
      have HR5 := hide (show ((wr.alloc (.cells z60.toArray 60)).setRow wr.heap.size r.cs.toArray).rangeAt wr.heap.size 0 r.cs from fun j v hv => by rw [Nat.zero_add, HX5.out.cell j]; exact hv)
      have HC := hide (HP.out _ HB5.out r (HI.out.below HB5.out))
      clear hrg hin hb0 HP
      subst hA
      cases hsm : r.x.same s.x with
      | true =>
        rw [hsm] at HC
        have HQ := hide (firstD_succ_same hq.out (by rw [lnks_len]; exact hlt) (by rw [lnks_len]; exact HKM.out) (by rw [HRN.out, HSN.out]; exact hsm))
        clear hsm
        go_wp2_with (first | (refine wpList_load_midG rfl 60 (.tmp 13) rfl b (o + k * 35) rfl r.cs _ HG.out Tryd.underlying60 rfl HZ60.out ?_) | (refine wpList_store_row rfl 60 (.tmp 7) (.tmp 14) rfl wr.heap.size r.cs.toArray rfl rfl 60 _ (heap_alloc_new wr _) HZ60.out (by rw [show r.cs.toArray.size = 35 from by rw [List.size_toArray, Lr.cs_len HI.out]]; rfl) (all_oneCell_toArray (Lr.cs_one r)) ?_) | (refine wpList_load_midG rfl 60 (.tmp 7) rfl wr.heap.size 0 rfl r.cs _ HR5.out Tryd.underlying60 rfl HZ60.out ?_))
        refine HC.out.mono ?_
        rintro e w2 ⟨rfl, hb2⟩
        have HB2 := hide (below_one (below_one hb.out HB5.out) hb2)
        clear hb2
        go_wp2_with fail
        go_roundw
        case rel => exact ⟨k + 1, by omega, by go_num, HB2, HQ⟩
        case measure => simp [intOf]; omega
      | false =>
        rw [hsm] at HC
        have HQ := hide (firstD_found hq.out (by rw [lnks_len]; exact hlt) (by rw [lnks_len]; exact HKM.out) (by rw [HRN.out, HSN.out]; exact hsm) l.length hlt)
        clear hsm
        go_wp2_with (first | (refine wpList_load_midG rfl 60 (.tmp 13) rfl b (o + k * 35) rfl r.cs _ HG.out Tryd.underlying60 rfl HZ60.out ?_) | (refine wpList_store_row rfl 60 (.tmp 7) (.tmp 14) rfl wr.heap.size r.cs.toArray rfl rfl 60 _ (heap_alloc_new wr _) HZ60.out (by rw [show r.cs.toArray.size = 35 from by rw [List.size_toArray, Lr.cs_len HI.out]]; rfl) (all_oneCell_toArray (Lr.cs_one r)) ?_) | (refine wpList_load_midG rfl 60 (.tmp 7) rfl wr.heap.size 0 rfl r.cs _ HR5.out Tryd.underlying60 rfl HZ60.out ?_))
        refine HC.out.mono ?_
        rintro e w2 ⟨rfl, hb2⟩
        have HB2 := hide (below_one (below_one hb.out HB5.out) hb2)
        clear hb2
        go_wp2_with fail
        go_ret2
        exact ⟨by rw [← HR.out, HQ.out]; rfl, HB2.out⟩
    · obtain rfl : k = l.length := by omega
      have hlt' : ¬ ((l.length : Nat) : Int) < l.length := by omega
      go_wp2_with fail
      go_ret2
      exact ⟨by rw [← HR.out, hq.out]; rfl, hb.out⟩

end Go.Proofs.YtalgceplcahgbaaDoor
