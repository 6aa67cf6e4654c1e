/- The reference's text and two. -/
import Derived.Test.YthjfeodclphgaaaDoorRTag
import Derived.Test.YthjfeodclphgaaaDoorLf
import Derived.Test.YthjfeodclphgaaaDoorPlanT
import Derived.Test.YthjfeodclphgaaaDoorRt
namespace Go.Proofs.YthjfeodclphgaaaDoor
open Go.RowKit

set_option maxRecDepth 10000 in
set_option maxHeartbeats 1000000 in
theorem rtext_any (s : ByteArray) (a : Option Addr) (n cap : Nat) (l : List UInt8) (w : World) (hS : Src w a n cap l) (hs : s.size ≤ 600) (hn : n ≤ 90000000) :
    Calls Tryd.prog 87 #[.string s, .slice a n cap] w (ByP (sha s.data.toList ++ l) w) := by
  have HS := hide hS
  have HCP := hide (cv_post s w (by omega))
  have hcv := cv_run s
  clear hS
  go_enter Tryd.func87, Tryd.ntmps87
  go_wp2_with fail
  refine name_world ?_
  intro W2 HW2
  clear hcv
  have HA : Hid (Bs W2 w.heap.size 0 s.data.toList ∧ Below w.heap.size w W2) := by
    have e := HW2.out
    subst e
    exact hide ⟨HCP.out.2.2.1, HCP.out.2.2.2.1⟩
  clear HW2 HCP
  with_reducible refine (rsum_any (some ⟨w.heap.size, 0, none⟩) s.size _ s.data.toList W2 ⟨by simp, Sb.of HA.out.1, fun h => by cases h⟩ (by omega)).mono ?_
  rintro e w3 ⟨rfl, hb⟩
  have HA3 : Hid (Below w.heap.size w w3 ∧ Src w3 a n cap l) := by
    have hb3 := below_one HA.out.2 hb
    exact hide ⟨hb3, HS.out.below hb3⟩
  clear HA hb HS
  have HLS := hide (sha_len s.data.toList)
  generalize sha s.data.toList = D at *
  have HSZ := hide (dv_size _ HLS.out)
  have HZ := hide (show (Tryd.prog.info? 26).map (·.size) = some ((bc D).toArray).size by rw [HSZ.out]; exact Tryd.size26)
  have HO := hide (all_oneCell_toArray (bc_one D))
  have HAFT := hide (show ∀ W4, Hid (W4 = (w3.alloc (.cells (List.replicate 32 (.int .u8 0)).toArray 26)).setRow w3.heap.size (bc D).toArray) →
      (W4.alloc (.cells #[] 5)).ownsRow (w3.heap.size + 1) 5 1 (.slice (some ⟨W4.heap.size, 0, none⟩) 0 0) 0 [] ∧ Src (W4.alloc (.cells #[] 5)) (some ⟨w3.heap.size, 0, none⟩) 32 32 D ∧ w3.heap.size + 1 ≤ (W4.alloc (.cells #[] 5)).heap.size ∧
      ∀ v5 w5, w5.ownsRow (w3.heap.size + 1) 5 1 v5 32 (bc D) → (W4.alloc (.cells #[] 5)).grownBy w5 (Value.slice (some ⟨W4.heap.size, 0, none⟩) 0 0).ownBlock →
        Src w5 a n cap l ∧ w3.heap.size + 1 ≤ w5.heap.size ∧ ∀ v6 w6, w6.ownsRow (w3.heap.size + 1) 5 1 v6 (32 + n) (bc (D ++ l)) → w5.grownBy w6 v5.ownBlock →
          ∃ g c, v6 = .slice (some ⟨g, 0, none⟩) (32 + n) c ∧ Hid (Bs w6 g 0 (D ++ l) ∧ Below w.heap.size w w6 ∧ n = l.length ∧ 32 + n ≤ c ∧ c ≤ 9223372036854775807) by
    intro W4 HW4
    have e4 := HW4.out
    have hsz4 : W4.heap.size = w3.heap.size + 1 := by rw [e4]; simp
    have hX : Blk W4 w3.heap.size 26 (bc D) := by rw [e4]; exact (Blk.new w3 26 (List.replicate 32 (.int .u8 0))).row _
    have hb4 : Below w3.heap.size w3 W4 := by rw [e4]; exact below_setRow (below_new w3 _) (Nat.le_refl _) _
    have hb4' : Below w3.heap.size w3 (W4.alloc (.cells #[] 5)) := hb4.alloc (by omega) _
    refine ⟨own_empty W4 (w3.heap.size + 1) 5 5 1 rfl (by omega), ⟨HLS.out.symm, Sb.of (hX.alloc _).bs, fun h => by cases h⟩, by simp; omega, fun v5 w5 h5 hg5 => ?_⟩
    have hb5 : Below w3.heap.size w3 w5 := hb4'.grown hg5 (by simp; omega) (fun k hk => by cases hk; show w3.heap.size ≤ W4.heap.size; omega)
    have hs5 : w3.heap.size + 1 ≤ w5.heap.size := Nat.le_trans (by simp; omega) hg5.size
    refine ⟨HA3.out.2.below hb5, hs5, fun v6 w6 h6 hg6 => ?_⟩
    have hb6 : Below w3.heap.size w3 w6 := hb5.grown hg6 (by omega) (fun k hk => by have := (h5.lt k hk).1; omega)
    obtain ⟨g, c, rfl, ho, hbs, _, hc1, hc2⟩ := own_form h6 (by omega)
    exact ⟨g, c, rfl, hide ⟨hbs, below_one HA3.out.1 hb6, HA3.out.2.len, hc1, hc2⟩⟩)
  have hA : 0 + 32 ≤ 1000000000 := by omega
  have hB : 32 + n ≤ 1000000000 := by omega
  go_wp2_with (first | (refine wpList_store_row rfl 26 (.tmp 5) (.tmp 8) rfl w3.heap.size (bc D).toArray rfl rfl 26 _ (heap_alloc_new w3 _) HZ.out (by rw [HSZ.out]; rfl) HO.out ?_; refine name_list ?_; intro W4 HW4; obtain ⟨q1, q2, q3, q4⟩ := HAFT.out W4 HW4; clear HW4) | (refine wpList_of_wp (by rfl) (wp_app5 (.tmp 9) (.tmp 10) rfl (w3.heap.size + 1) _ 0 [] rfl q1 (some ⟨w3.heap.size, 0, none⟩) 32 32 D rfl q2 hA q3 32 D rfl rfl ?_); intro v5 w5 h5 hg5; obtain ⟨r1, r2, r3⟩ := q4 v5 w5 h5 hg5) | (refine wpList_of_wp (by rfl) (wp_app5 (.tmp 11) (.tmp 12) rfl (w3.heap.size + 1) v5 32 D rfl h5 a n cap l rfl r1 hB r2 (32 + n) (D ++ l) rfl rfl ?_); intro v6 w6 h6 hg6; obtain ⟨g, c, rfl, HF⟩ := r3 v6 w6 h6 hg6; clear h6 hg6))
  go_ret
  have hlen : 32 + n = (D ++ l).length := by rw [List.length_append, HLS.out, HF.out.2.2.1]
  refine ⟨some ⟨g, 0, none⟩, c, ?_, Sb.of HF.out.1, ?_, HF.out.2.2.2.2, (fun h => by cases h), HF.out.2.1⟩
  · rw [← hlen]; rfl
  · rw [← hlen]; exact HF.out.2.2.2.1

theorem rtext_node (g c : Nat) (l : List UInt8) (w : World) (hl : Bs w g 0 l) (he : 64 = l.length) :
    Calls Tryd.prog 87 #[.string ⟨#[110, 111, 100, 101]⟩, .slice (some ⟨g, 0, none⟩) (64 : Nat) c] w (ByP (tagN ++ l) w) :=
  rtext_any _ _ _ _ l w ⟨he, Sb.of hl, fun h => by cases h⟩ (by decide) (by decide)
theorem rtext_leaf (a : Option Addr) (n cap : Nat) (l : List UInt8) (w : World) (hS : Src w a n cap l) (hn : n ≤ 90000000) :
    Calls Tryd.prog 87 #[.string ⟨#[108, 101, 97, 102]⟩, .slice a n cap] w (ByP (tagL ++ l) w) :=
  rtext_any _ _ _ _ l w hS (by decide) hn
end Go.Proofs.YthjfeodclphgaaaDoor

/- The reference's two. -/
namespace Go.Proofs.YthjfeodclphgaaaDoor
open Go.RowKit

/-- Two digests in memory. -/
structure T2 (w : World) (a b : List UInt8) (W : World) : Prop where
  x : Blk W w.heap.size 26 (bc a)
  y : Blk W (w.heap.size + 1) 26 (bc b)
  bel : Below w.heap.size w W
  sz : w.heap.size + 2 ≤ W.heap.size
theorem T2.keep {w W W' : World} {a b : List UInt8} (h : T2 w a b W) (hb : Below W.heap.size W W') : T2 w a b W' := ⟨h.x.below hb h.x.lt, h.y.below hb h.y.lt, below_one h.bel hb, Nat.le_trans h.sz hb.size⟩
theorem T2.grow {w W W' : World} {a b : List UInt8} {e size n : Nat} {v : Value} {xs : List Value} (h : T2 w a b W) (hg : W.grownBy W' v.ownBlock) (ho : W.ownsRow (w.heap.size + 2) e size v n xs) : T2 w a b W' := by
  have hr : ∀ k, v.ownBlock = some k → w.heap.size + 2 ≤ k := fun k hk => (ho.lt k hk).1
  exact ⟨(hg.block _ h.x.lt (by intro e; have := hr _ e.symm; omega)).trans h.x, (hg.block _ h.y.lt (by intro e; have := hr _ e.symm; omega)).trans h.y, h.bel.grown hg h.bel.size fun k hk => by have := hr k hk; omega, Nat.le_trans h.sz hg.size⟩

set_option maxRecDepth 10000 in
set_option maxHeartbeats 800000 in
theorem rtwo_any (a b : List UInt8) (w : World) (ha : a.length = 32) (hb : b.length = 32) :
    Calls Tryd.prog 88 #[dv a, dv b] w (ByP (tagN ++ (a ++ b)) w) := by
  have HD := hide (And.intro ha hb)
  have HAB := hide (show 32 + 32 = (a ++ b).length by rw [List.length_append, ha, hb])
  clear ha hb
  go_enter Tryd.func88, Tryd.ntmps88
  go_wp2_with fail
  refine name_code ?_
  intro W1 HW1
  have HA : Hid (T2 w a b W1.drew) := by
    have e : W1 = ((w.alloc (.cells (bc a).toArray 26)).alloc (.cells (bc b).toArray 26)) := HW1.out
    subst e
    have hx : Blk (w.alloc (.cells (bc a).toArray 26)) w.heap.size 26 (bc a) := Blk.new w 26 (bc a)
    have hy : Blk ((w.alloc (.cells (bc a).toArray 26)).alloc (.cells (bc b).toArray 26)) (w.heap.size + 1) 26 (bc b) := by
      have := Blk.new (w.alloc (.cells (bc a).toArray 26)) 26 (bc b)
      simpa using this
    have hbl : Below w.heap.size w ((w.alloc (.cells (bc a).toArray 26)).alloc (.cells (bc b).toArray 26)) := (below_new w _).alloc (by simp) _
    exact hide ((⟨hx.alloc _, hy, hbl, by simp⟩ : T2 w a b _).keep ((Below.refl _ _).drew))
  clear HW1
  refine wp_region_plan (fun _ => True) (.take 1 (.take 3 (.run 0 (.run 2 (.run 4 (.run 5 (.run 6 .done))))))) (by kernel_rfl) (by kernel_rfl) trivial ?_
  (refine plan_take (o := ?_) (v := ?_) (by simp only [List.getElem?_toArray, List.getElem?_cons_succ, List.getElem?_cons_zero]; rfl) (yields_run (by rfl) ?_) ?_; rotate_left; (focus (intro w' _; go_simp <;> with_reducible rfl)); (simp only [Act.put, List.setIfInBounds_toArray, List.set_cons_zero, List.set_cons_succ]))
  (refine plan_take (o := ?_) (v := ?_) (by simp only [List.getElem?_toArray, List.getElem?_cons_succ, List.getElem?_cons_zero]; rfl) (yields_run (by rfl) ?_) ?_; rotate_left; (focus (intro w' _; go_simp <;> with_reducible rfl)); (simp only [Act.put, List.setIfInBounds_toArray, List.set_cons_zero, List.set_cons_succ]))
  refine plan_run (o := ?_) (by simp only [List.getElem?_toArray, List.getElem?_cons_zero]; rfl) ?_
  intro R HR
  go_wp2_with fail
  refine HR.out _ _ trivial ?_
  clear HR
  have HB := hide (HA.out.keep (below_new W1.drew (.cells #[] 5)))
  have hown := own_empty W1.drew (w.heap.size + 2) 5 5 1 rfl HA.out.sz
  refine plan_run (o := ?_) (by simp only [List.getElem?_toArray, List.getElem?_cons_succ, List.getElem?_cons_zero]; rfl) ?_
  intro R HR
  refine wpList_of_wp (by rfl) (wp_app5 (.tmp 5) (.tmp 6) rfl (w.heap.size + 2) _ 0 [] rfl hown (some ⟨w.heap.size, 0, none⟩) 32 32 a rfl ⟨HD.out.1.symm, Sb.of HB.out.x.bs, fun h => by cases h⟩ (by decide) HB.out.sz 32 a rfl rfl ?_)
  intro v1 wA hA1 hgA
  have HC := hide (HB.out.grow hgA hown)
  clear hgA hown HB HA
  obtain ⟨gA, cA, rfl, hA2, hA3, _, hA4, hA5⟩ := own_form hA1 (by decide)
  refine HR.out _ _ trivial ?_
  clear HR
  try (simp only [Act.put, List.setIfInBounds_toArray, List.set_cons_zero, List.set_cons_succ])
  refine plan_run (o := ?_) (by simp only [List.getElem?_toArray, List.getElem?_cons_succ, List.getElem?_cons_zero]; rfl) ?_
  intro R HR
  refine wpList_of_wp (by rfl) (wp_app5 (.tmp 7) (.tmp 8) rfl (w.heap.size + 2) _ 32 a rfl hA2 (some ⟨w.heap.size + 1, 0, none⟩) 32 32 b rfl ⟨HD.out.2.symm, Sb.of HC.out.y.bs, fun h => by cases h⟩ (by decide) HC.out.sz (32 + 32) (a ++ b) rfl rfl ?_)
  intro v2 wB hB1 hgB
  have HE := hide (HC.out.grow hgB hA2)
  clear hgB hA1 hA2 hA3 hA4 hA5 HC
  obtain ⟨gB, cB, rfl, hB2, hB3, _, hB4, hB5⟩ := own_form hB1 (by decide)
  refine HR.out _ _ trivial ?_
  clear HR
  try (simp only [Act.put, List.setIfInBounds_toArray, List.set_cons_zero, List.set_cons_succ])
  refine plan_run (o := ?_) (by simp only [List.getElem?_toArray, List.getElem?_cons_succ, List.getElem?_cons_zero]; rfl) ?_
  intro R HR
  have HB3 := hide hB3
  clear hB1 hB2 hB3 hB4 hB5
  go_wp2_with fail
  with_reducible refine (rtext_node gB cB (a ++ b) wB HB3.out HAB.out).mono ?_
  rintro e w4 ⟨A, cap, rfl, hsb, hle, htop, hnil, hb4⟩
  have HF := hide (And.intro hsb (And.intro hle (And.intro htop (And.intro hnil (below_one HE.out.bel hb4)))))
  clear hb4 HE HB3 hsb hle htop hnil
  go_wp2_with fail
  refine HR.out _ _ trivial ?_
  clear HR
  refine plan_run (o := ?_) (by simp only [List.getElem?_toArray, List.getElem?_cons_succ, List.getElem?_cons_zero]; rfl) ?_
  intro R HR
  go_wp2_with fail
  refine HR.out _ _ trivial ?_
  clear HR
  refine plan_done ?_
  go_wp2_with fail
  go_ret
  exact ⟨A, cap, by simp only [List.length_append]; rfl, HF.out.1, HF.out.2.1, HF.out.2.2.1, HF.out.2.2.2.1, HF.out.2.2.2.2⟩
end Go.Proofs.YthjfeodclphgaaaDoor

/- The reference's first. -/
namespace Go.Proofs.YthjfeodclphgaaaDoor
open Go.RowKit
set_option maxRecDepth 20000 in
set_option maxHeartbeats 1600000 in
theorem rfirst_any (PA : Option Addr) (pl : List Lf) (pc : Nat) (w : World) (hl : LvIn w PA pl) (hn : pl.length ≤ 70000) :
    Calls Tryd.prog 69 #[.slice PA pl.length pc] w (RowP (rowF pl) w) := by
  have HL := hide hl
  have HST := hide (show (w.alloc (.cells #[] 26)).ownsRow w.heap.size 26 32 (.slice (some ⟨w.heap.size, 0, none⟩) 0 0) 0 (bc (rowF (pl.take 0)).flatten) ∧ Below w.heap.size w (w.alloc (.cells #[] 26)) from ⟨own_empty w w.heap.size 26 26 32 rfl (Nat.le_refl _), below_new w _⟩)
  clear hl
  go_enter Tryd.func69, Tryd.ntmps69
  go_wp2_with fail
  go_loopw [3, 4] (fun v i wr => ∃ (k : Nat) (A : Option Addr) (cap : Nat), k ≤ pl.length ∧ i = .int .i64 k ∧ v = .slice A k cap ∧ Hid (wr.ownsRow w.heap.size 26 32 (.slice A k cap) k (bc (rowF (pl.take k)).flatten)) ∧ Hid (Below w.heap.size w wr)) (fun _ i _ => pl.length - (intOf i).toNat)
  case atStart => exact ⟨0, some ⟨w.heap.size, 0, none⟩, 0, Nat.zero_le _, rfl, rfl, hide HST.out.1, hide HST.out.2⟩
  case round =>
    clear HST
    obtain ⟨k, A, cap, hk, rfl, rfl, HO, HB⟩ := hrel
    by_cases hlt : k < pl.length
    · have hlt' : (k : Int) < (pl.length : Int) := by omega
      obtain ⟨b, o, hA, _, e0⟩ := (HL.out.below HB.out).cel k hlt
      have HX := hide (And.intro ((HL.out.below HB.out).sb _ (List.getElem_mem hlt)) (And.intro (HL.out.nil _ (List.getElem_mem hlt)) (HL.out.few _ (List.getElem_mem hlt))))
      have HTK := hide (rowF_take hlt)
      subst hA
      generalize pl[k] = x at e0 HX HTK
      have HLT := hide (rtext_leaf x.A x.l.length x.cap x.l wr ⟨rfl, HX.out.1, HX.out.2.1⟩ (by have := HX.out.2.2; omega))
      have HLN := hide (show (tagL ++ x.l).length ≤ 100000000 by rw [List.length_append, sha_len]; have := HX.out.2.2; omega)
      generalize tagL ++ x.l = tx at HLT HLN HTK
      go_wp2_with fail
      with_reducible refine HLT.out.mono ?_
      rintro e w2 ⟨A2, c2, rfl, h1, h2, h3, h4, h5⟩
      have HS2 := hide (And.intro h1 h4)
      have HB2 := hide (below_one HB.out h5)
      have HO2 := hide (own_below HO.out h5)
      clear h1 h2 h3 h4 h5 e0 HO HLT
      go_wp2_with fail
      with_reducible refine (rsum_any A2 tx.length c2 tx w2 ⟨rfl, HS2.out.1, HS2.out.2⟩ HLN.out).mono ?_
      rintro e w3 ⟨rfl, h5⟩
      have HB3 := hide (below_one HB2.out h5)
      have HO3 := hide (own_below HO2.out h5)
      have hd : (sha tx).length = 32 := sha_len _
      clear h5 HO2
      generalize sha tx = d at *
      have HDL := hide hd
      have hbl : (bc d).length = 32 := by rw [bc_len]; exact hd
      clear hd
      have HBN := hide (Blk.new w3 26 (bc d))
      have HB4 := hide (HB3.out.alloc HB3.out.size (.cells (bc d).toArray 26))
      have HO4 := hide (own_below HO3.out (below_new w3 (.cells (bc d).toArray 26)))
      have hbase := HB4.out.size
      clear HO3
      go_wp2_with (at_builtin; (first | rw [fold_dv d HDL.out] | skip); (refine wpList_plain rfl ?_; intro K' hK'; refine wp_app26 (.tmp 12) (.tmp 19) rfl w.heap.size _ k (rowF (pl.take k)) rfl HO4.out (some ⟨w3.heap.size, 0, none⟩) 1 1 [d] rfl (DSrc.one_of HBN.out HDL.out) (by omega) hbase (k + 1) (rowF (pl.take k) ++ [d]) rfl rfl ?_; intro v6 w6 hown hg; refine hK' _ _ ?_; have HO6 := hide hown; have HB6 := hide (below_grow HB4.out hbase HO4.out hg); clear hown hg))
      obtain ⟨A6, c6, rfl⟩ := own_form0 HO6.out
      go_roundw
      case rel => exact ⟨k + 1, A6, c6, by omega, by go_num, rfl, hide (by rw [HTK.out]; exact HO6.out), HB6⟩
      case measure => simp [intOf]; omega
    · have hlt' : ¬ (k : Int) < (pl.length : Int) := by omega
      obtain rfl : k = pl.length := by omega
      go_wp2_with fail
      go_ret
      rw [List.take_length] at HO
      have e := rowF_len pl
      exact ⟨A, cap, by rw [e]; rfl, by rw [e]; exact HO.out, HB.out⟩
end Go.Proofs.YthjfeodclphgaaaDoor

/- The reference's next. -/
namespace Go.Proofs.YthjfeodclphgaaaDoor
open Go.RowKit
theorem ds_el {w : World} {b o i : Nat} {l : List (List UInt8)} (hD : D32 l) (hB : Bs w b o l.flatten) (h : i < l.length) : Bs w b (o + i * 32) l[i] := by
  have h1 := bs_one hD hB i h
  rw [Nat.mul_comm] at h1
  exact h1
theorem pairs_take (L : List (List UInt8)) {k : Nat} (h : 2 * k < L.length) : (pairsL sha tagN L).take (k + 1) = (pairsL sha tagN L).take k ++ [pairAt L k] := by
  have hk : k < (pairsL sha tagN L).length := by rw [pairsL_len]; omega
  rw [List.take_succ_eq_append_getElem hk]
  unfold pairAt
  rw [List.getD_eq_getElem?_getD, List.getElem?_eq_getElem hk]
  rfl
set_option maxRecDepth 20000 in
set_option maxHeartbeats 1600000 in
theorem rnext_any (b o cap : Nat) (L : List (List UInt8)) (w : World) (hd : D32 L) (hL : Bs w b o L.flatten) (h1 : 1 ≤ L.length) (hn : L.length ≤ 100000) :
    Calls Tryd.prog 70 #[.slice (some ⟨b, o, none⟩) L.length cap] w (RowP (pairsL sha tagN L) w) := by
  have HL := hide (And.intro hd hL)
  have hb : b < w.heap.size := hL.lt (by rw [hd.flat]; omega)
  have HBL := hide (fun (W' : World) (h : Below w.heap.size w W') => HL.out.2.below h hb)
  have HST := hide (show (w.alloc (.cells #[] 26)).ownsRow w.heap.size 26 32 (.slice (some ⟨w.heap.size, 0, none⟩) 0 0) 0 (bc ((pairsL sha tagN L).take 0).flatten) ∧ Below w.heap.size w (w.alloc (.cells #[] 26)) from ⟨own_empty w w.heap.size 26 26 32 rfl (Nat.le_refl _), below_new w _⟩)
  clear hd hL
  go_enter Tryd.func70, Tryd.ntmps70
  go_wp2_with fail
  go_loopw [3, 4] (fun v i wr => ∃ (j k : Nat) (A : Option Addr) (cap : Nat), Hid (j = 2 * k) ∧ j ≤ L.length + 1 ∧ i = .int .i64 (j : Nat) ∧ v = .slice A k cap ∧ Hid (wr.ownsRow w.heap.size 26 32 (.slice A k cap) k (bc ((pairsL sha tagN L).take k).flatten)) ∧ Hid (Below w.heap.size w wr)) (fun _ i _ => L.length + 1 - (intOf i).toNat)
  case atStart => exact ⟨0, 0, some ⟨w.heap.size, 0, none⟩, 0, hide rfl, by omega, rfl, rfl, hide HST.out.1, hide HST.out.2⟩
  case round =>
    clear HST
    obtain ⟨j, k, A, cap', HJ, hj1, rfl, rfl, HO, HB⟩ := hrel
    by_cases hlt : j < L.length
    · have hlt' : (j : Int) < (L.length : Int) := by omega
      have hk : 2 * k < L.length := by have := HJ.out; omega
      have HPL := hide (pairAt_len HL.out.1 hk)
      have HTK := hide (pairs_take L hk)
      have hkn : k + 1 ≤ 1000000 := by omega
      have hx : (L[j]).length = 32 := HL.out.1 _ (List.getElem_mem hlt)
      have HX := hide (fun (W' : World) (h : Below w.heap.size w W') => bs_range (ds_el HL.out.1 (HBL.out W' h) hlt))
      by_cases hlt2 : j + 1 < L.length
      · have hlt2' : (j : Int) + 1 < (L.length : Int) := by omega
        have hy : (L[j + 1]).length = 32 := HL.out.1 _ (List.getElem_mem hlt2)
        have HY := hide (fun (W' : World) (h : Below w.heap.size w W') => bs_range (ds_el HL.out.1 (HBL.out W' h) hlt2))
        have HP := hide (show pairAt L k = sha (tagN ++ (L[j] ++ L[j + 1])) from by
          have e := HJ.out
          subst e
          exact pairAt_two hlt2)
        have HXL := hide hx
        have HYL := hide hy
        generalize L[j + 1] = y at *
        generalize L[j] = x at *
        have HSZ := hide (show (Tryd.prog.info? 26).map (·.size) = some (bc x).length by rw [bc_len, HXL.out]; exact Tryd.size26)
        have HSZ2 := hide (show (Tryd.prog.info? 26).map (·.size) = some (bc y).length by rw [bc_len, HYL.out]; exact Tryd.size26)
        clear hx hy
        have HLN := hide (show (tagN ++ (x ++ y)).length ≤ 100000000 by rw [List.length_append, List.length_append, sha_len, HXL.out, HYL.out]; omega)
        have HTW := hide (rtwo_any x y wr.drew HXL.out HYL.out)
        generalize tagN ++ (x ++ y) = tx at HLN HTW HP
        have ewr : IntKind.i64.wrap ((j : Int) + 1) = (j : Int) + 1 := IntWalk.i64_in _ (by omega)
        have etn : ((j : Int) + 1).toNat = j + 1 := by omega
        have e0n : (0 : Int) ≤ (j : Int) + 1 := by omega
        go_wp2_with fail
        refine wp_region_plan4 (fun W' => W'.rangeAt b (o + j * 32) (bc x) ∧ W'.rangeAt b (o + (j + 1) * 32) (bc y)) (.take 0 (.take 1 (.take 2 (.take 3 (.take 5 (.take 6 (.take 7 (.take 8 (.take 4 (.take 9 (.run 10 (.run 11 (.run 12 (.run 13 (.run 14 .done))))))))))))))) (by kernel_rfl) (by kernel_rfl) ⟨HX.out _ HB.out.drew, HY.out _ HB.out.drew⟩ ?_
        iterate 8 (refine plan4_take (o := ?_) (v := ?_) (by simp only [List.getElem?_toArray, List.getElem?_cons_succ, List.getElem?_cons_zero]; rfl) (yields_run (by rfl) ?_) ?_; rotate_left; (focus (intro w' hw'; go_simp <;> with_reducible rfl)); (simp only [Act.put, List.setIfInBounds_toArray, List.set_cons_zero, List.set_cons_succ]))
        (refine plan4_take (o := ?_) (by simp only [List.getElem?_toArray, List.getElem?_cons_succ, List.getElem?_cons_zero]; rfl) (yieldsIf_load_mid (by rfl) 26 (.tmp 20) rfl b (o + j * 32) rfl (bc x) _ (fun _ h => h.1) Tryd.underlying26 rfl HSZ.out) ?_; (simp only [Act.put, List.setIfInBounds_toArray, List.set_cons_zero, List.set_cons_succ]))
        (refine plan4_take (o := ?_) (by simp only [List.getElem?_toArray, List.getElem?_cons_succ, List.getElem?_cons_zero]; rfl) (yieldsIf_load_mid (by rfl) 26 (.tmp 25) rfl b (o + (j + 1) * 32) rfl (bc y) _ (fun _ h => h.2) Tryd.underlying26 rfl HSZ2.out) ?_; (simp only [Act.put, List.setIfInBounds_toArray, List.set_cons_zero, List.set_cons_succ]))
        clear ewr etn e0n
        refine plan4_run (o := ?_) (by simp only [List.getElem?_toArray, List.getElem?_cons_succ, List.getElem?_cons_zero]; rfl) ?_
        intro R HR
        go_wp2_with fail
        with_reducible refine HTW.out.mono ?_
        rintro e w2 ⟨A2, c2, rfl, h1, h2, h3, h4, h5⟩
        have HS2 := hide (And.intro h1 h4)
        have HB2 := hide (below_one HB.out.drew h5)
        have HO2 := hide (own_below HO.out ((Below.refl _ _).drew.trans h5))
        clear h1 h2 h3 h4 h5 HO HTW
        go_wp2_with fail
        refine HR.out _ _ ⟨HX.out _ HB2.out, HY.out _ HB2.out⟩ ?_
        clear HR
        refine plan4_run (o := ?_) (by simp only [List.getElem?_toArray, List.getElem?_cons_succ, List.getElem?_cons_zero]; rfl) ?_
        intro R HR
        go_wp2_with fail
        with_reducible refine (rsum_any A2 tx.length c2 tx w2 ⟨rfl, HS2.out.1, HS2.out.2⟩ HLN.out).mono ?_
        rintro e w3 ⟨rfl, h5⟩
        have HB3 := hide (below_one HB2.out h5)
        have HO3 := hide (own_below HO2.out h5)
        clear h5 HO2
        go_wp2_with fail
        refine HR.out _ _ ⟨HX.out _ HB3.out, HY.out _ HB3.out⟩ ?_
        clear HR
        rw [← HP.out]
        generalize pairAt L k = d at *
        have hbl : (bc d).length = 32 := by rw [bc_len]; exact HPL.out
        refine plan4_run (o := ?_) (by simp only [List.getElem?_toArray, List.getElem?_cons_succ, List.getElem?_cons_zero]; rfl) ?_
        intro R HR
        go_wp2_with fail
        rw [fold_dv d HPL.out]
        have HBN := hide (Blk.new w3 26 (bc d))
        have HB4 := hide (HB3.out.alloc HB3.out.size (.cells (bc d).toArray 26))
        have HO4 := hide (own_below HO3.out (below_new w3 (.cells (bc d).toArray 26)))
        have hbase := HB4.out.size
        clear HO3
        refine HR.out _ _ ⟨HX.out _ HB4.out, HY.out _ HB4.out⟩ ?_
        clear HR
        refine plan4_run (o := ?_) (by simp only [List.getElem?_toArray, List.getElem?_cons_succ, List.getElem?_cons_zero]; rfl) ?_
        intro R HR
        refine wpList_plain rfl ?_
        intro K' hK'
        refine wp_app26 (.tmp 17) (.tmp 29) rfl w.heap.size _ k ((pairsL sha tagN L).take k) rfl HO4.out (some ⟨w3.heap.size, 0, none⟩) 1 1 [d] rfl (DSrc.one_of HBN.out HPL.out) hkn hbase (k + 1) ((pairsL sha tagN L).take k ++ [d]) rfl rfl ?_
        intro v6 w6 hown hg
        refine hK' _ _ ?_
        have HO6 := hide hown
        have HB6 := hide (below_grow HB4.out hbase HO4.out hg)
        clear hown hg
        obtain ⟨A6, c6, rfl⟩ := own_form0 HO6.out
        refine HR.out _ _ ⟨HX.out _ HB6.out, HY.out _ HB6.out⟩ ?_
        clear HR
        refine plan4_run (o := ?_) (by simp only [List.getElem?_toArray, List.getElem?_cons_succ, List.getElem?_cons_zero]; rfl) ?_
        intro R HR
        go_wp2_with fail
        refine HR.out _ _ ⟨HX.out _ HB6.out, HY.out _ HB6.out⟩ ?_
        clear HR
        refine plan4_done ?_
        go_wp2_with fail
        go_roundw
        case rel => exact ⟨j + 2, k + 1, A6, c6, hide (by have := HJ.out; omega), by omega, by go_num, rfl, hide (by rw [HTK.out]; exact HO6.out), HB6⟩
        case measure => simp [intOf]; omega
      · have hlt2' : ¬ (j : Int) + 1 < (L.length : Int) := by omega
        have HP := hide (show pairAt L k = L[j] from by
          have e := HJ.out
          subst e
          exact pairAt_one hlt hlt2)
        have HXL := hide hx
        rw [HP.out] at HTK HPL
        clear HP
        generalize L[j] = x at *
        have HSZ := hide (show (Tryd.prog.info? 26).map (·.size) = some (bc x).length by rw [bc_len, HXL.out]; exact Tryd.size26)
        have HG := hide (HX.out wr HB.out)
        have hbl : (bc x).length = 32 := by rw [bc_len]; exact hx
        have HBN := hide (Blk.new wr 26 (bc x))
        have HB4 := hide (HB.out.alloc HB.out.size (.cells (bc x).toArray 26))
        have HO4 := hide (own_below HO.out (below_new wr (.cells (bc x).toArray 26)))
        have hbase := HB4.out.size
        clear hx HO
        go_wp2_with (first | (refine wpList_load_mid rfl 26 (.tmp 34) rfl b (o + j * 32) rfl (bc x) _ HG.out Tryd.underlying26 rfl HSZ.out ?_) | (at_builtin; (first | rw [fold_dv x HXL.out] | skip); (refine wpList_plain rfl ?_; intro K' hK'; refine wp_app26 (.tmp 31) (.tmp 36) rfl w.heap.size _ k ((pairsL sha tagN L).take k) rfl HO4.out (some ⟨wr.heap.size, 0, none⟩) 1 1 [x] rfl (DSrc.one_of HBN.out HXL.out) hkn hbase (k + 1) ((pairsL sha tagN L).take k ++ [x]) rfl rfl ?_; intro v6 w6 hown hg; refine hK' _ _ ?_; have HO6 := hide hown; have HB6 := hide (below_grow HB4.out hbase HO4.out hg); clear hown hg)))
        obtain ⟨A6, c6, rfl⟩ := own_form0 HO6.out
        go_roundw
        case rel => exact ⟨j + 2, k + 1, A6, c6, hide (by have := HJ.out; omega), by omega, by go_num, rfl, hide (by rw [HTK.out]; exact HO6.out), HB6⟩
        case measure => simp [intOf]; omega
    · have hlt' : ¬ (j : Int) < (L.length : Int) := by omega
      go_wp2_with fail
      go_ret
      have hk : k = (pairsL sha tagN L).length := by rw [pairsL_len]; have := HJ.out; omega
      rw [hk, List.take_length] at HO
      refine ⟨A, cap', by rw [← hk]; rfl, HO.out, HB.out⟩
end Go.Proofs.YthjfeodclphgaaaDoor
