/- The reference's text and two, saying that the answer lies in new memory. -/
import Derived.Test.YthjfeodclphgaaaDoorRnx
import Derived.Test.YthjfeodclphgaaaDoorMk
import Derived.Test.YthjfeodclphgaaaDoorRsa
import Derived.Test.YthjfeodclphgaaaDoorAppF
import Derived.Deep.AppendLies
import Derived.Test.YthjfeodclphgaaaDoorCm
import Derived.Test.YthjfeodclphgaaaDoorBw
namespace Go.Proofs.YthjfeodclphgaaaDoor
open Go.RowKit
/-- Bytes in new memory that a call hands back. -/
def ByN (l : List UInt8) (w : World) (e : Ending) (w' : World) : Prop :=
  ∃ (g cap : Nat), e = .returned (.slice (some ⟨g, 0, none⟩) l.length cap) ∧ w.heap.size ≤ g ∧ Bs w' g 0 l ∧ l.length ≤ cap ∧ cap ≤ 9223372036854775807 ∧ Below w.heap.size w w'
set_option maxRecDepth 10000 in
set_option maxHeartbeats 1000000 in
theorem rtextN_any (s : ByteArray) (a : Option Addr) (n cap : Nat) (l : List UInt8) (w : World) (hS : Src w a n cap l) (hs : s.size ≤ 600) (hn : n ≤ 90000000) :
    Calls Tryd.prog 87 #[.string s, .slice a n cap] w (ByN (sha s.data.toList ++ l) w) := by
  have HS := hide hS
  have HCP := hide (cv_post s w (by omega))
  have hcv := cv_run s
  clear hS
  go_enter Tryd.func87, Tryd.ntmps87
  go_wp2_with fail
  refine name_world ?_
  intro W2 HW2
  clear hcv
  have HA : Hid (Bs W2 w.heap.size 0 s.data.toList ∧ Below w.heap.size w W2) := by
    have e := HW2.out
    subst e
    exact hide ⟨HCP.out.2.2.1, HCP.out.2.2.2.1⟩
  clear HW2 HCP
  with_reducible refine (rsum_any (some ⟨w.heap.size, 0, none⟩) s.size _ s.data.toList W2 ⟨by simp, Sb.of HA.out.1, fun h => by cases h⟩ (by omega)).mono ?_
  rintro e w3 ⟨rfl, hb⟩
  have HA3 : Hid (Below w.heap.size w w3 ∧ Src w3 a n cap l) := by
    have hb3 := below_one HA.out.2 hb
    exact hide ⟨hb3, HS.out.below hb3⟩
  clear HA hb HS
  have HLS := hide (sha_len s.data.toList)
  generalize sha s.data.toList = D at *
  have HSZ := hide (dv_size _ HLS.out)
  have HZ := hide (show (Tryd.prog.info? 26).map (·.size) = some ((bc D).toArray).size by rw [HSZ.out]; exact Tryd.size26)
  have HO := hide (all_oneCell_toArray (bc_one D))
  have HAFT := hide (show ∀ W4, Hid (W4 = (w3.alloc (.cells (List.replicate 32 (.int .u8 0)).toArray 26)).setRow w3.heap.size (bc D).toArray) →
      (W4.alloc (.cells #[] 5)).ownsRow (w3.heap.size + 1) 5 1 (.slice (some ⟨W4.heap.size, 0, none⟩) 0 0) 0 [] ∧ Src (W4.alloc (.cells #[] 5)) (some ⟨w3.heap.size, 0, none⟩) 32 32 D ∧ w3.heap.size + 1 ≤ (W4.alloc (.cells #[] 5)).heap.size ∧
      ∀ v5 w5, w5.ownsRow (w3.heap.size + 1) 5 1 v5 32 (bc D) → (W4.alloc (.cells #[] 5)).grownBy w5 (Value.slice (some ⟨W4.heap.size, 0, none⟩) 0 0).ownBlock →
        Src w5 a n cap l ∧ w3.heap.size + 1 ≤ w5.heap.size ∧ ∀ v6 w6, w6.ownsRow (w3.heap.size + 1) 5 1 v6 (32 + n) (bc (D ++ l)) → w5.grownBy w6 v5.ownBlock →
          ∃ g c, v6 = .slice (some ⟨g, 0, none⟩) (32 + n) c ∧ Hid (Bs w6 g 0 (D ++ l) ∧ Below w.heap.size w w6 ∧ n = l.length ∧ 32 + n ≤ c ∧ c ≤ 9223372036854775807 ∧ w.heap.size ≤ g) by
    intro W4 HW4
    have e4 := HW4.out
    have hsz4 : W4.heap.size = w3.heap.size + 1 := by rw [e4]; simp
    have hX : Blk W4 w3.heap.size 26 (bc D) := by rw [e4]; exact (Blk.new w3 26 (List.replicate 32 (.int .u8 0))).row _
    have hb4 : Below w3.heap.size w3 W4 := by rw [e4]; exact below_setRow (below_new w3 _) (Nat.le_refl _) _
    have hb4' : Below w3.heap.size w3 (W4.alloc (.cells #[] 5)) := hb4.alloc (by omega) _
    refine ⟨own_empty W4 (w3.heap.size + 1) 5 5 1 rfl (by omega), ⟨HLS.out.symm, Sb.of (hX.alloc _).bs, fun h => by cases h⟩, by simp; omega, fun v5 w5 h5 hg5 => ?_⟩
    have hb5 : Below w3.heap.size w3 w5 := hb4'.grown hg5 (by simp; omega) (fun k hk => by cases hk; show w3.heap.size ≤ W4.heap.size; omega)
    have hs5 : w3.heap.size + 1 ≤ w5.heap.size := Nat.le_trans (by simp; omega) hg5.size
    refine ⟨HA3.out.2.below hb5, hs5, fun v6 w6 h6 hg6 => ?_⟩
    have hb6 : Below w3.heap.size w3 w6 := hb5.grown hg6 (by omega) (fun k hk => by have := (h5.lt k hk).1; omega)
    obtain ⟨g, c, rfl, ho, hbs, hgb, hc1, hc2⟩ := own_form h6 (by omega)
    have hws := HA3.out.1.size
    exact ⟨g, c, rfl, hide ⟨hbs, below_one HA3.out.1 hb6, HA3.out.2.len, hc1, hc2, by omega⟩⟩)
  have hA : 0 + 32 ≤ 1000000000 := by omega
  have hB : 32 + n ≤ 1000000000 := by omega
  go_wp2_with (first | (refine wpList_store_row rfl 26 (.tmp 5) (.tmp 8) rfl w3.heap.size (bc D).toArray rfl rfl 26 _ (heap_alloc_new w3 _) HZ.out (by rw [HSZ.out]; rfl) HO.out ?_; refine name_list ?_; intro W4 HW4; obtain ⟨q1, q2, q3, q4⟩ := HAFT.out W4 HW4; clear HW4) | (refine wpList_of_wp (by rfl) (wp_app5 (.tmp 9) (.tmp 10) rfl (w3.heap.size + 1) _ 0 [] rfl q1 (some ⟨w3.heap.size, 0, none⟩) 32 32 D rfl q2 hA q3 32 D rfl rfl ?_); intro v5 w5 h5 hg5; obtain ⟨r1, r2, r3⟩ := q4 v5 w5 h5 hg5) | (refine wpList_of_wp (by rfl) (wp_app5 (.tmp 11) (.tmp 12) rfl (w3.heap.size + 1) v5 32 D rfl h5 a n cap l rfl r1 hB r2 (32 + n) (D ++ l) rfl rfl ?_); intro v6 w6 h6 hg6; obtain ⟨g, c, rfl, HF⟩ := r3 v6 w6 h6 hg6; clear h6 hg6))
  go_ret
  have hlen : 32 + n = (D ++ l).length := by rw [List.length_append, HLS.out, HF.out.2.2.1]
  refine ⟨g, c, ?_, HF.out.2.2.2.2.2, HF.out.1, ?_, HF.out.2.2.2.2.1, HF.out.2.1⟩
  · rw [← hlen]; rfl
  · rw [← hlen]; exact HF.out.2.2.2.1
theorem rtextN_node (g c : Nat) (l : List UInt8) (w : World) (hl : Bs w g 0 l) (he : 64 = l.length) :
    Calls Tryd.prog 87 #[.string ⟨#[110, 111, 100, 101]⟩, .slice (some ⟨g, 0, none⟩) (64 : Nat) c] w (ByN (tagN ++ l) w) :=
  rtextN_any _ _ _ _ l w ⟨he, Sb.of hl, fun h => by cases h⟩ (by decide) (by decide)
theorem rtextN_leaf (a : Option Addr) (n cap : Nat) (l : List UInt8) (w : World) (hS : Src w a n cap l) (hn : n ≤ 90000000) :
    Calls Tryd.prog 87 #[.string ⟨#[108, 101, 97, 102]⟩, .slice a n cap] w (ByN (tagL ++ l) w) :=
  rtextN_any _ _ _ _ l w hS (by decide) hn
set_option maxRecDepth 10000 in
set_option maxHeartbeats 800000 in
theorem rtwoN_any (a b : List UInt8) (w : World) (ha : a.length = 32) (hb : b.length = 32) :
    Calls Tryd.prog 88 #[dv a, dv b] w (ByN (tagN ++ (a ++ b)) w) := by
  have HD := hide (And.intro ha hb)
  have HAB := hide (show 32 + 32 = (a ++ b).length by rw [List.length_append, ha, hb])
  clear ha hb
  go_enter Tryd.func88, Tryd.ntmps88
  go_wp2_with fail
  refine name_code ?_
  intro W1 HW1
  have HA : Hid (T2 w a b W1.drew) := by
    have e : W1 = ((w.alloc (.cells (bc a).toArray 26)).alloc (.cells (bc b).toArray 26)) := HW1.out
    subst e
    have hx : Blk (w.alloc (.cells (bc a).toArray 26)) w.heap.size 26 (bc a) := Blk.new w 26 (bc a)
    have hy : Blk ((w.alloc (.cells (bc a).toArray 26)).alloc (.cells (bc b).toArray 26)) (w.heap.size + 1) 26 (bc b) := by
      have := Blk.new (w.alloc (.cells (bc a).toArray 26)) 26 (bc b)
      simpa using this
    have hbl : Below w.heap.size w ((w.alloc (.cells (bc a).toArray 26)).alloc (.cells (bc b).toArray 26)) := (below_new w _).alloc (by simp) _
    exact hide ((⟨hx.alloc _, hy, hbl, by simp⟩ : T2 w a b _).keep ((Below.refl _ _).drew))
  clear HW1
  refine wp_region_plan (fun _ => True) (.take 1 (.take 3 (.run 0 (.run 2 (.run 4 (.run 5 (.run 6 .done))))))) (by kernel_rfl) (by kernel_rfl) trivial ?_
  (refine plan_take (o := ?_) (v := ?_) (by simp only [List.getElem?_toArray, List.getElem?_cons_succ, List.getElem?_cons_zero]; rfl) (yields_run (by rfl) ?_) ?_; rotate_left; (focus (intro w' _; go_simp <;> with_reducible rfl)); (simp only [Act.put, List.setIfInBounds_toArray, List.set_cons_zero, List.set_cons_succ]))
  (refine plan_take (o := ?_) (v := ?_) (by simp only [List.getElem?_toArray, List.getElem?_cons_succ, List.getElem?_cons_zero]; rfl) (yields_run (by rfl) ?_) ?_; rotate_left; (focus (intro w' _; go_simp <;> with_reducible rfl)); (simp only [Act.put, List.setIfInBounds_toArray, List.set_cons_zero, List.set_cons_succ]))
  refine plan_run (o := ?_) (by simp only [List.getElem?_toArray, List.getElem?_cons_zero]; rfl) ?_
  intro R HR
  go_wp2_with fail
  refine HR.out _ _ trivial ?_
  clear HR
  have HB := hide (HA.out.keep (below_new W1.drew (.cells #[] 5)))
  have hown := own_empty W1.drew (w.heap.size + 2) 5 5 1 rfl HA.out.sz
  refine plan_run (o := ?_) (by simp only [List.getElem?_toArray, List.getElem?_cons_succ, List.getElem?_cons_zero]; rfl) ?_
  intro R HR
  refine wpList_of_wp (by rfl) (wp_app5 (.tmp 5) (.tmp 6) rfl (w.heap.size + 2) _ 0 [] rfl hown (some ⟨w.heap.size, 0, none⟩) 32 32 a rfl ⟨HD.out.1.symm, Sb.of HB.out.x.bs, fun h => by cases h⟩ (by decide) HB.out.sz 32 a rfl rfl ?_)
  intro v1 wA hA1 hgA
  have HC := hide (HB.out.grow hgA hown)
  clear hgA hown HB HA
  obtain ⟨gA, cA, rfl, hA2, hA3, _, hA4, hA5⟩ := own_form hA1 (by decide)
  refine HR.out _ _ trivial ?_
  clear HR
  try (simp only [Act.put, List.setIfInBounds_toArray, List.set_cons_zero, List.set_cons_succ])
  refine plan_run (o := ?_) (by simp only [List.getElem?_toArray, List.getElem?_cons_succ, List.getElem?_cons_zero]; rfl) ?_
  intro R HR
  refine wpList_of_wp (by rfl) (wp_app5 (.tmp 7) (.tmp 8) rfl (w.heap.size + 2) _ 32 a rfl hA2 (some ⟨w.heap.size + 1, 0, none⟩) 32 32 b rfl ⟨HD.out.2.symm, Sb.of HC.out.y.bs, fun h => by cases h⟩ (by decide) HC.out.sz (32 + 32) (a ++ b) rfl rfl ?_)
  intro v2 wB hB1 hgB
  have HE := hide (HC.out.grow hgB hA2)
  clear hgB hA1 hA2 hA3 hA4 hA5 HC
  obtain ⟨gB, cB, rfl, hB2, hB3, _, hB4, hB5⟩ := own_form hB1 (by decide)
  refine HR.out _ _ trivial ?_
  clear HR
  try (simp only [Act.put, List.setIfInBounds_toArray, List.set_cons_zero, List.set_cons_succ])
  refine plan_run (o := ?_) (by simp only [List.getElem?_toArray, List.getElem?_cons_succ, List.getElem?_cons_zero]; rfl) ?_
  intro R HR
  have HB3 := hide hB3
  clear hB1 hB2 hB3 hB4 hB5
  go_wp2_with fail
  with_reducible refine (rtextN_node gB cB (a ++ b) wB HB3.out HAB.out).mono ?_
  rintro e w4 ⟨g, cap, rfl, hg, hsb, hle, htop, hb4⟩
  have HF := hide (And.intro (Nat.le_trans (Nat.le_trans (Nat.le_add_right _ 2) HE.out.sz) hg) (And.intro hsb (And.intro hle (And.intro htop (below_one HE.out.bel hb4)))))
  clear hb4 HE HB3 hsb hle htop hg
  go_wp2_with fail
  refine HR.out _ _ trivial ?_
  clear HR
  refine plan_run (o := ?_) (by simp only [List.getElem?_toArray, List.getElem?_cons_succ, List.getElem?_cons_zero]; rfl) ?_
  intro R HR
  go_wp2_with fail
  refine HR.out _ _ trivial ?_
  clear HR
  refine plan_done ?_
  go_wp2_with fail
  go_ret
  exact ⟨g, cap, by simp only [List.length_append]; rfl, HF.out.1, HF.out.2.1, HF.out.2.2.1, HF.out.2.2.2.1, HF.out.2.2.2.2⟩
end Go.Proofs.YthjfeodclphgaaaDoor

/- The digests and texts on the way (pure): the first common digest of two ways is commonR. -/
namespace Go.Proofs.YthjfeodclphgaaaDoor
section
variable (H : List UInt8 → List UInt8) (T : List UInt8)
/-- Digests and texts above a place. -/
def wyL (n i : Nat) (d : List UInt8) (p : List (List UInt8)) : List (List UInt8 × List UInt8) :=
  if _h : n ≤ 1 then [] else if aloneB n i then (d, []) :: wyL ((n + 1) / 2) (i / 2) d p else
    (H (stepT T i d (p.headD [])), stepT T i d (p.headD [])) :: wyL ((n + 1) / 2) (i / 2) (H (stepT T i d (p.headD []))) p.tail
termination_by n
decreasing_by all_goals omega
theorem wyL_one {n i : Nat} {d : List UInt8} {p : List (List UInt8)} (h : n ≤ 1) : wyL H T n i d p = [] := by unfold wyL; rw [dif_pos h]
theorem wyL_alone {n i : Nat} {d : List UInt8} {p : List (List UInt8)} (h : 1 < n) (ha : aloneB n i = true) : wyL H T n i d p = (d, []) :: wyL H T ((n + 1) / 2) (i / 2) d p := by conv => lhs; unfold wyL; rw [dif_neg (by omega), if_pos ha]
theorem wyL_two {n i : Nat} {d : List UInt8} {p : List (List UInt8)} (h : 1 < n) (ha : aloneB n i = false) : wyL H T n i d p = (H (stepT T i d (p.headD [])), stepT T i d (p.headD [])) :: wyL H T ((n + 1) / 2) (i / 2) (H (stepT T i d (p.headD []))) p.tail := by
  conv => lhs; unfold wyL; rw [dif_neg (by omega), if_neg (by rw [ha]; decide)]
theorem wyL_len : ∀ (k n i : Nat) (d e : List UInt8) (p q : List (List UInt8)), n ≤ k → (wyL H T n i d p).length = (wyL H T n i e q).length
  | k, n, i, d, e, p, q, hk => by
    by_cases h1 : n ≤ 1
    · rw [wyL_one H T h1, wyL_one H T h1]
    · cases k with
      | zero => omega
      | succ k =>
        cases ha : aloneB n i with
        | true =>
          rw [wyL_alone H T (by omega) ha, wyL_alone H T (by omega) ha, List.length_cons, List.length_cons, wyL_len k _ _ d e p q (by omega)]
        | false =>
          rw [wyL_two H T (by omega) ha, wyL_two H T (by omega) ha, List.length_cons, List.length_cons, wyL_len k _ _ _ (H (stepT T i e (q.headD []))) _ q.tail (by omega)]
/-- The last digest on the way is what climbing leads to. -/
theorem wyL_last : ∀ (k n i : Nat) (d s : List UInt8) (p : List (List UInt8)), n ≤ k → (((d, s) :: wyL H T n i d p).getLast (List.cons_ne_nil _ _)).1 = climbR H T n i d p
  | k, n, i, d, s, p, hk => by
    by_cases h1 : n ≤ 1
    · simp only [wyL_one H T h1, climbR_one H T h1, List.getLast_singleton]
    · cases k with
      | zero => omega
      | succ k =>
        cases ha : aloneB n i with
        | true =>
          simp only [wyL_alone H T (by omega : 1 < n) ha, climbR_alone H T (by omega : 1 < n) ha, List.getLast_cons_cons]
          exact wyL_last k ((n + 1) / 2) (i / 2) d [] p (by omega)
        | false =>
          simp only [wyL_two H T (by omega : 1 < n) ha, climbR_two H T (by omega : 1 < n) ha, List.getLast_cons_cons]
          exact wyL_last k ((n + 1) / 2) (i / 2) _ _ p.tail (by omega)
/-- The texts at the first place where two lists have one digest. -/
def firstEq : List (List UInt8 × List UInt8) → List (List UInt8 × List UInt8) → Option (List UInt8 × List UInt8)
  | a :: l, b :: m => if a.1 = b.1 then some (a.2, b.2) else firstEq l m
  | _, _ => none
theorem first_eq {a b : List UInt8 × List UInt8} {l m : List (List UInt8 × List UInt8)} (h : a.1 = b.1) : firstEq (a :: l) (b :: m) = some (a.2, b.2) := by unfold firstEq; rw [if_pos h]
theorem first_ne {a b : List UInt8 × List UInt8} {l m : List (List UInt8 × List UInt8)} (h : a.1 ≠ b.1) : firstEq (a :: l) (b :: m) = firstEq l m := by conv => lhs; unfold firstEq; rw [if_neg h]
theorem first_way : ∀ (k n i : Nat) (x y : List UInt8) (p q : List (List UInt8)), n ≤ k → H x ≠ H y → climbR H T n i (H x) p = climbR H T n i (H y) q →
    firstEq (wyL H T n i (H x) p) (wyL H T n i (H y) q) = some (commonR H T n i x y p q)
  | k, n, i, x, y, p, q, hk, he, hc => by
    by_cases h1 : n ≤ 1
    · rw [climbR_one H T h1, climbR_one H T h1] at hc
      exact absurd hc he
    · cases k with
      | zero => omega
      | succ k =>
        cases ha : aloneB n i with
        | true =>
          rw [climbR_alone H T (by omega) ha, climbR_alone H T (by omega) ha] at hc
          rw [wyL_alone H T (by omega) ha, wyL_alone H T (by omega) ha, commonR_alone H T (by omega) he ha, first_ne he]
          exact first_way k _ _ x y p q (by omega) he hc
        | false =>
          rw [climbR_two H T (by omega) ha, climbR_two H T (by omega) ha] at hc
          rw [wyL_two H T (by omega) ha, wyL_two H T (by omega) ha, commonR_two H T (by omega) he ha]
          by_cases h2 : H (stepT T i (H x) (p.headD [])) = H (stepT T i (H y) (q.headD []))
          · rw [first_eq h2, commonR_eq H T h2]
          · rw [first_ne h2]
            exact first_way k _ _ _ _ _ _ (by omega) h2 hc
/-- WHAT THE REFERENCE'S Collide SHOWS IS WHAT THE PROGRAM'S DOES. -/
theorem first_common (n i : Nat) (x y : List UInt8) (p q : List (List UInt8)) (hc : climbR H T n i (H x) p = climbR H T n i (H y) q) :
    firstEq ((H x, x) :: wyL H T n i (H x) p) ((H y, y) :: wyL H T n i (H y) q) = some (commonR H T n i x y p q) := by
  by_cases he : H x = H y
  · rw [first_eq he, commonR_eq H T he]
  · rw [first_ne he]
    exact first_way H T n n i x y p q (Nat.le_refl _) he hc
end
end Go.Proofs.YthjfeodclphgaaaDoor

/- The reference's Length. -/
namespace Go.Proofs.YthjfeodclphgaaaDoor
open Go.RowKit Go.Shelf
set_option maxRecDepth 20000 in
set_option maxHeartbeats 1600000 in
theorem rlength_any (n i : Nat) (w : World) (hi : i < n) (hn : n ≤ 65536) :
    Calls Tryd.prog 72 #[.int .i64 (n : Nat), .int .i64 (i : Nat)] w fun e w' => e = .returned (.int .i64 (lenR n i : Nat)) ∧ Below w.heap.size w w' := by
  have h16 : lenR n i ≤ 16 := lenR_le 16 _ _ (by omega)
  generalize hR0 : lenR n i = R at *
  have HR := hide hR0
  clear hR0
  go_enter Tryd.func72, Tryd.ntmps72
  go_wp2_with fail
  go_loopw [0, 1, 5] (fun a b c wr => ∃ (m q k : Nat), a = .int .i64 (m : Nat) ∧ b = .int .i64 (q : Nat) ∧ c = .int .i64 (k : Nat) ∧ q < m ∧ m ≤ 65536 ∧ k ≤ 16 ∧ Hid (k + lenR m q = R) ∧ Hid (Below w.heap.size w wr)) (fun a _ _ _ => (intOf a).toNat)
  case atStart => exact ⟨n, i, 0, rfl, rfl, rfl, hi, hn, by omega, hide (by rw [HR.out, Nat.zero_add]), hide (Below.refl _ _)⟩
  case round =>
    clear HR hi hn
    obtain ⟨m, q, k, rfl, rfl, rfl, hq, hm, hk, HK, HB⟩ := hrel
    by_cases hlt : 1 < m
    · have hlt' : (1 : Int) < (m : Int) := by omega
      have HLM := hide (lenR_more (n := m) (i := q) hlt)
      by_cases hodd : q % 2 = 1
      · have ho : ((q : Int) % 2 == 1) = true := by simp only [beq_iff_eq]; omega
        have HE := hide (show k + 1 + lenR ((m + 1) / 2) (q / 2) = R from by
          have h := HK.out
          rw [HLM.out, if_neg (by unfold aloneB nb; rw [if_pos hodd, decide_eq_true_iff]; omega)] at h
          omega)
        have hk2 : k + 1 ≤ 16 := by have := HE.out; omega
        go_wp2_with fail
        go_roundw
        case rel => exact ⟨(m + 1) / 2, q / 2, k + 1, by go_num, by go_num, by go_num, by omega, by omega, hk2, HE, HB⟩
        case measure => simp [intOf]; omega
      · have ho : ((q : Int) % 2 == 1) = false := by simp only [beq_eq_false_iff_ne, ne_eq]; omega
        by_cases hqx : q + 1 < m
        · have hlt2 : (q : Int) + 1 < (m : Int) := by omega
          have HE := hide (show k + 1 + lenR ((m + 1) / 2) (q / 2) = R from by
            have h := HK.out
            rw [HLM.out, if_neg (by unfold aloneB nb; rw [if_neg hodd, decide_eq_true_iff]; omega)] at h
            omega)
          have hk2 : k + 1 ≤ 16 := by have := HE.out; omega
          go_wp2_with fail
          go_roundw
          case rel => exact ⟨(m + 1) / 2, q / 2, k + 1, by go_num, by go_num, by go_num, by omega, by omega, hk2, HE, HB⟩
          case measure => simp [intOf]; omega
        · have hlt2 : ¬ (q : Int) + 1 < (m : Int) := by omega
          have HE := hide (show k + lenR ((m + 1) / 2) (q / 2) = R from by
            have h := HK.out
            rw [HLM.out, if_pos (by unfold aloneB nb; rw [if_neg hodd, decide_eq_true_iff]; omega)] at h
            omega)
          go_wp2_with fail
          go_roundw
          case rel => exact ⟨(m + 1) / 2, q / 2, k, by go_num, by go_num, rfl, by omega, by omega, hk, HE, HB⟩
          case measure => simp [intOf]; omega
    · have hlt' : ¬ (1 : Int) < (m : Int) := by omega
      obtain rfl : k = R := by have := HK.out; rw [lenR_one (by omega)] at this; omega
      go_wp2_with fail
      go_ret
      exact ⟨rfl, HB.out⟩
end Go.Proofs.YthjfeodclphgaaaDoor

/- The way in memory: a growing row of digests and a growing row of texts. -/
namespace Go.Proofs.YthjfeodclphgaaaDoor
open Go.RowKit Go.Shelf
theorem Sb.keep {W W' : World} {A : Option Addr} {t : List UInt8} (h : Sb W A t) (hk : ∀ ad, A = some ad → W'.heap[ad.block]? = W.heap[ad.block]?) : Sb W' A t := fun hne => by
  obtain ⟨b, o, e, hB⟩ := h hne
  exact ⟨b, o, e, hB.move (hk _ e)⟩
theorem own_grow {W W' : World} {base e size n : Nat} {v : Value} {xs : List Value} {ob : Option Nat} (h : W.ownsRow base e size v n xs) (hg : W.grownBy W' ob) (hne : ∀ k, v.ownBlock = some k → ob ≠ some k) : W'.ownsRow base e size v n xs := by
  have hlt := h.lt
  refine ⟨h.1, h.2.imp id ?_⟩
  rintro ⟨g, cap, cur, e1, e2, e3, e4⟩
  have hk : v.ownBlock = some g := by rw [e1]; rfl
  exact ⟨g, cap, cur, e1, e2, (hg.block g (hlt g hk).2 (fun e => hne g hk e.symm)).trans e3, e4⟩
/-- A text in a cell of a row; ok says where it may lie. -/
def TxAt (ok : Nat → Prop) (W : World) (v : Value) (t : List UInt8) : Prop :=
  ∃ (A : Option Addr) (c : Nat), v = .slice A t.length c ∧ Sb W A t ∧ (A = none → c = 0) ∧ ∀ ad, A = some ad → ok ad.block ∧ ad.block < W.heap.size
theorem TxAt.keep {ok ok' : Nat → Prop} {W W' : World} {v : Value} {t : List UInt8} (h : TxAt ok W v t) (hz : W.heap.size ≤ W'.heap.size) (hk : ∀ k, ok k → k < W.heap.size → W'.heap[k]? = W.heap[k]?) (ho : ∀ k, ok k → k < W.heap.size → ok' k) : TxAt ok' W' v t := by
  obtain ⟨A, c, e, hs, hn, hb⟩ := h
  exact ⟨A, c, e, hs.keep (fun ad ea => hk _ (hb ad ea).1 (hb ad ea).2), hn, fun ad ea => ⟨ho _ (hb ad ea).1 (hb ad ea).2, Nat.lt_of_lt_of_le (hb ad ea).2 hz⟩⟩
/-- Texts in the cells of a row. -/
def TxsAt (ok : Nat → Prop) (W : World) : List Value → List (List UInt8) → Prop
  | [], [] => True
  | v :: vs, t :: ts => TxAt ok W v t ∧ TxsAt ok W vs ts
  | _, _ => False
theorem TxsAt.keep {ok ok' : Nat → Prop} {W W' : World} (hz : W.heap.size ≤ W'.heap.size) (hk : ∀ k, ok k → k < W.heap.size → W'.heap[k]? = W.heap[k]?) (ho : ∀ k, ok k → k < W.heap.size → ok' k) : ∀ {vs : List Value} {ts : List (List UInt8)}, TxsAt ok W vs ts → TxsAt ok' W' vs ts
  | [], [], _ => trivial
  | _ :: _, _ :: _, h => ⟨h.1.keep hz hk ho, TxsAt.keep hz hk ho h.2⟩
  | [], _ :: _, h => h.elim
  | _ :: _, [], h => h.elim
theorem TxsAt.add {ok : Nat → Prop} {W : World} {v : Value} {t : List UInt8} (hv : TxAt ok W v t) : ∀ {vs : List Value} {ts : List (List UInt8)}, TxsAt ok W vs ts → TxsAt ok W (vs ++ [v]) (ts ++ [t])
  | [], [], _ => ⟨hv, trivial⟩
  | _ :: _, _ :: _, h => ⟨h.1, TxsAt.add hv h.2⟩
  | [], _ :: _, h => h.elim
  | _ :: _, [], h => h.elim
theorem TxsAt.len {ok : Nat → Prop} {W : World} : ∀ {vs : List Value} {ts : List (List UInt8)}, TxsAt ok W vs ts → vs.length = ts.length
  | [], [], _ => rfl
  | _ :: _, _ :: _, h => by rw [List.length_cons, List.length_cons, TxsAt.len h.2]
  | [], _ :: _, h => h.elim
  | _ :: _, [], h => h.elim
theorem TxsAt.get {ok : Nat → Prop} {W : World} : ∀ {vs : List Value} {ts : List (List UInt8)}, TxsAt ok W vs ts → ∀ (k : Nat) (h1 : k < vs.length) (h2 : k < ts.length), TxAt ok W vs[k] ts[k]
  | _ :: _, _ :: _, h, 0, _, _ => h.1
  | _ :: _, _ :: _, h, k + 1, h1, h2 => TxsAt.get h.2 k (by simpa using h1) (by simpa using h2)
  | [], _, _, _, h1, _ => by simp at h1
  | _ :: _, [], h, _, _, _ => h.elim
/-- A block that is none of two rows. -/
def okTwo (v u : Value) (k : Nat) : Prop := v.ownBlock ≠ some k ∧ u.ownBlock ≠ some k
/-- Both rows, of digests and of texts. -/
structure WyM (w : World) (LD LT : List (List UInt8)) (v u : Value) (vs : List Value) (W : World) : Prop where
  rl : W.ownsRow w.heap.size 26 32 v LD.length (bc LD.flatten)
  rt : W.ownsRow w.heap.size 22 1 u LT.length vs
  dj : ∀ k, v.ownBlock = some k → u.ownBlock ≠ some k
  tx : TxsAt (okTwo v u) W vs LT
  bel : Below w.heap.size w W
  d32 : D32 LD
theorem WyM.below {w W W' : World} {LD LT : List (List UInt8)} {v u : Value} {vs : List Value} (h : WyM w LD LT v u vs W) (hb : Below W.heap.size W W') : WyM w LD LT v u vs W' :=
  ⟨own_below h.rl hb, own_below h.rt hb, h.dj, h.tx.keep hb.size (fun k _ hk => hb.block k hk) (fun _ h _ => h), below_one h.bel hb, h.d32⟩
/-- A digest more. -/
theorem WyM.addD {w W W' : World} {LD LT : List (List UInt8)} {v u : Value} {vs : List Value} {d : List UInt8} {g c : Nat} (h : WyM w LD LT v u vs W) (hd : d.length = 32)
    (ho : W'.ownsRow w.heap.size 26 32 (.slice (some ⟨g, 0, none⟩) (LD.length + 1) c) (LD.length + 1) (bc (LD ++ [d]).flatten)) (hg : W.grownBy W' v.ownBlock) (hl : v.ownBlock = some g ∨ g = W.heap.size) :
    WyM w (LD ++ [d]) LT (.slice (some ⟨g, 0, none⟩) (LD.length + 1) c) u vs W' := by
  have hgk : ∀ k, (Value.slice (some ⟨g, 0, none⟩) (LD.length + 1) c).ownBlock = some k → g = k := fun k hk => by simpa [Value.ownBlock] using hk
  refine ⟨by rw [List.length_append]; exact ho, own_grow h.rt hg (fun k hk e => h.dj k e hk), ?_, ?_, below_grow h.bel h.bel.size h.rl hg, ?_⟩
  · intro k hk hu
    obtain rfl := hgk k hk
    rcases hl with hl | hl
    · exact h.dj g hl hu
    · have := (h.rt.lt g hu).2; omega
  · refine h.tx.keep hg.size (fun k ok hk => hg.block k hk (fun e => ok.1 e.symm)) (fun k ok hk => ⟨fun e => ?_, ok.2⟩)
    obtain rfl := hgk k e
    rcases hl with hl | hl
    · exact ok.1 hl
    · omega
  · intro x hx
    rcases List.mem_append.1 hx with h1 | h1
    · exact h.d32 x h1
    · rw [List.mem_singleton.1 h1]; exact hd
/-- A text more. -/
theorem WyM.addT {w W W' : World} {LD LT : List (List UInt8)} {v u x : Value} {vs : List Value} {t : List UInt8} {g c : Nat} (h : WyM w LD LT v u vs W) (hx : TxAt (okTwo v u) W x t)
    (ho : W'.ownsRow w.heap.size 22 1 (.slice (some ⟨g, 0, none⟩) (LT.length + 1) c) (LT.length + 1) (vs ++ [x])) (hg : W.grownBy W' u.ownBlock) (hl : u.ownBlock = some g ∨ g = W.heap.size) :
    WyM w LD (LT ++ [t]) v (.slice (some ⟨g, 0, none⟩) (LT.length + 1) c) (vs ++ [x]) W' := by
  have hgk : ∀ k, (Value.slice (some ⟨g, 0, none⟩) (LT.length + 1) c).ownBlock = some k → g = k := fun k hk => by simpa [Value.ownBlock] using hk
  refine ⟨own_grow h.rl hg (fun k hk e => h.dj k hk e), by rw [List.length_append]; exact ho, ?_, ?_, below_grow h.bel h.bel.size h.rt hg, h.d32⟩
  · intro k hk hu
    obtain rfl := hgk k hu
    rcases hl with hl | hl
    · exact h.dj g hk hl
    · have := (h.rl.lt g hk).2; omega
  · refine (TxsAt.add hx h.tx).keep hg.size (fun k ok hk => hg.block k hk (fun e => ok.2 e.symm)) (fun k ok hk => ⟨ok.1, fun e => ?_⟩)
    obtain rfl := hgk k e
    rcases hl with hl | hl
    · exact ok.2 hl
    · omega
/-- A text of ByN is none of the rows. -/
theorem WyM.new {w W W' : World} {LD LT : List (List UInt8)} {v u : Value} {vs : List Value} {g c : Nat} {t : List UInt8} (h : WyM w LD LT v u vs W) (hB : Bs W' g 0 t) (h0 : 0 < t.length) (hg : W.heap.size ≤ g) (_hb : Below W.heap.size W W') :
    TxAt (okTwo v u) W' (.slice (some ⟨g, 0, none⟩) t.length c) t :=
  ⟨some ⟨g, 0, none⟩, c, rfl, Sb.of hB, (fun h => by cases h), fun ad e => by
    cases e
    exact ⟨⟨fun e => by have := (h.rl.lt g e).2; omega, fun e => by have := (h.rt.lt g e).2; omega⟩, hB.lt h0⟩⟩
end Go.Proofs.YthjfeodclphgaaaDoor

/- The reference's way. -/
namespace Go.Proofs.YthjfeodclphgaaaDoor
open Go.RowKit Go.Shelf
theorem wyL_le (H : List UInt8 → List UInt8) (T : List UInt8) : ∀ (k n i : Nat) (d : List UInt8) (p : List (List UInt8)), n ≤ 2 ^ k → (wyL H T n i d p).length ≤ k
  | 0, n, i, d, p, h => by rw [wyL_one H T (by simpa using h)]; exact Nat.le_refl _
  | k + 1, n, i, d, p, h => by
    by_cases h1 : n ≤ 1
    · rw [wyL_one H T h1]; exact Nat.zero_le _
    · have h2 : (n + 1) / 2 ≤ 2 ^ k := by rw [Nat.pow_succ] at h; omega
      cases ha : aloneB n i with
      | true => rw [wyL_alone H T (by omega) ha, List.length_cons]; have := wyL_le H T k ((n + 1) / 2) (i / 2) d p h2; omega
      | false => rw [wyL_two H T (by omega) ha, List.length_cons]; have := wyL_le H T k ((n + 1) / 2) (i / 2) (H (stepT T i d (p.headD []))) p.tail h2; omega
/-- What way answers. -/
def WayP (FD FT : List (List UInt8)) (w : World) (e : Ending) (w' : World) : Prop :=
  ∃ (gl cl gt ct : Nat) (vs : List Value), e = .returned (.tuple #[.slice (some ⟨gl, 0, none⟩) FD.length cl, .slice (some ⟨gt, 0, none⟩) FT.length ct]) ∧
    WyM w FD FT (.slice (some ⟨gl, 0, none⟩) FD.length cl) (.slice (some ⟨gt, 0, none⟩) FT.length ct) vs w'
/-- What lies between two rounds. -/
def WyI (w : World) (p FD FT : List (List UInt8)) (m q kk gl cl gt ct nD nT : Nat) (W : World) : Prop :=
  ∃ (LD LT : List (List UInt8)) (d : List UInt8) (vs : List Value), nD = LD.length ∧ nT = LT.length ∧ nT = nD ∧ 1 ≤ nD ∧ LD.getLast? = some d ∧ WyM w LD LT (.slice (some ⟨gl, 0, none⟩) nD cl) (.slice (some ⟨gt, 0, none⟩) nT ct) vs W ∧
    LD ++ (wyL sha tagN m q d (p.drop kk)).map (·.1) = FD ∧ LT ++ (wyL sha tagN m q d (p.drop kk)).map (·.2) = FT ∧ kk + lenR m q = p.length
theorem way_first {w w1 w2 : World} {t0 : List UInt8} {g c : Nat} (_h0 : 0 < t0.length) (hg : w.heap.size ≤ g) (hB : Bs w1 g 0 t0) (hb1 : Below w.heap.size w w1) (hb2 : Below w1.heap.size w1 w2) (hgs : g < w1.heap.size) :
    WyM w [sha t0] [t0] (.slice (some ⟨w2.heap.size, 0, none⟩) 1 1) (.slice (some ⟨w2.heap.size + 1, 0, none⟩) 1 1) [.slice (some ⟨g, 0, none⟩) t0.length c]
      ((w2.alloc (.cells (bc (sha t0)).toArray 26)).alloc (.cells #[.slice (some ⟨g, 0, none⟩) t0.length c] 22)) := by
  have hz1 := hb1.size
  have hz2 := hb2.size
  have hbl : (bc (sha t0)).length = 32 := by rw [bc_len]; exact sha_len _
  have hB2 := hb2
  refine ⟨⟨by simp [hbl], .inr ⟨w2.heap.size, 1, (bc (sha t0)).toArray, rfl, by omega, ?_, Nat.le_refl _, by decide, by simp [hbl], by simp; exact List.take_of_length_le (Nat.le_of_eq hbl)⟩⟩, ⟨rfl, .inr ⟨w2.heap.size + 1, 1, #[.slice (some ⟨g, 0, none⟩) t0.length c], rfl, by omega, ?_, Nat.le_refl _, by decide, rfl, by simp⟩⟩, ?_, ?_, ?_, ?_⟩
  · exact ((Blk.new w2 26 (bc (sha t0))).alloc _)
  · have h := Blk.new (w2.alloc (.cells (bc (sha t0)).toArray 26)) 22 [.slice (some ⟨g, 0, none⟩) t0.length c]
    rw [World.size_alloc] at h
    exact h
  · intro k hk hu
    have e1 : w2.heap.size = k := by simpa [Value.ownBlock] using hk
    have e2 : w2.heap.size + 1 = k := by simpa [Value.ownBlock] using hu
    omega
  · refine ⟨⟨some ⟨g, 0, none⟩, c, rfl, (((Sb.of hB).below hb2).below (below_new w2 _)).below (below_new _ _), (fun h => by cases h), fun ad e => ?_⟩, trivial⟩
    cases e
    refine ⟨⟨fun e => ?_, fun e => ?_⟩, by simp; show g < _; omega⟩
    · have : w2.heap.size = g := by simpa [Value.ownBlock] using e
      omega
    · have : w2.heap.size + 1 = g := by simpa [Value.ownBlock] using e
      omega
  · exact ((below_one hb1 hb2).alloc (by omega) _).alloc (by simp; omega) _
  · intro x hx
    rw [List.mem_singleton.1 hx]; exact sha_len _
theorem info22w : (Tryd.prog.info? 22).map (fun i => (i.zero, i.size, i.bytes)) = some (some (.slice none 0 0), 1, 24) := by kernel_rfl
theorem hinfo22w : ∃ i0, Tryd.prog.info? 22 = some i0 ∧ i0.zero = some (Value.slice none 0 0) ∧ i0.size = 1 ∧ i0.bytes = 24 := by
  obtain ⟨i0, hi, hz0, hz1, hz2⟩ := info_parts info22w
  exact ⟨i0, hi, hz0, hz1, hz2⟩
/-- append of a digest to the first row. -/
theorem wpList_addD {ops : Array Oper} {rest : List Oper} {o : Oper} {a : Act} {Q : Exit → Act → World → Prop} {w W : World} {LD LT : List (List UInt8)} {u : Value} {vs : List Value} {gl cl X : Nat} {d : List UInt8} (hgd : o.guard = none) (s x : Operand)
    (ho : o.op = .call { callee := .builtin .append, args := #[s, x], argTypes := #[30, 30] }) (h : WyM w LD LT (.slice (some ⟨gl, 0, none⟩) LD.length cl) u vs W) (hs : a.eval s = .slice (some ⟨gl, 0, none⟩) LD.length cl) (hx : a.eval x = .slice (some ⟨X, 0, none⟩) 1 1)
    (hB : Blk W X 26 (bc d)) (hd : d.length = 32) (hn : LD.length ≤ 100)
    (hk : ∀ g c W', WyM w (LD ++ [d]) LT (.slice (some ⟨g, 0, none⟩) (LD.length + 1) c) u vs W' → Below w.heap.size w W' → (∀ x t, TxAt (okTwo (.slice (some ⟨gl, 0, none⟩) LD.length cl) u) W x t → TxAt (okTwo (.slice (some ⟨g, 0, none⟩) (LD.length + 1) c) u) W' x t) → wpList Tryd.prog ops Q rest (a.put o.dst (.slice (some ⟨g, 0, none⟩) (LD.length + 1) c)) W') : wpList Tryd.prog ops Q (o :: rest) a W := by
  refine wpList_plain hgd fun K hK => ?_
  refine wp_app26f s x ho w.heap.size gl LD.length cl LD hs h.rl (some ⟨X, 0, none⟩) 1 1 [d] hx (DSrc.one_of hB hd) (by omega) h.bel.size (LD.length + 1) (LD ++ [d]) rfl rfl ?_
  intro g c W' h1 h2 h3
  have hm := h.addD hd h1 h2 (by rcases h3 with rfl | h3; exact .inl rfl; exact .inr h3)
  refine hK _ _ (hk g c W' hm hm.bel fun x t hx => hx.keep h2.size (fun k ok hk => h2.block k hk (fun e => ok.1 e.symm)) (fun k ok hk => ⟨fun e => ?_, ok.2⟩))
  obtain rfl : g = k := by simpa [Value.ownBlock] using e
  rcases h3 with rfl | h3
  · exact ok.1 rfl
  · omega
/-- append of a text to the second row. -/
theorem wpList_addT {ops : Array Oper} {rest : List Oper} {o : Oper} {a : Act} {Q : Exit → Act → World → Prop} {w W : World} {LD LT : List (List UInt8)} {v xv : Value} {vs : List Value} {gt ct X : Nat} {t : List UInt8} (hgd : o.guard = none) (s x : Operand)
    (ho : o.op = .call { callee := .builtin .append, args := #[s, x], argTypes := #[24, 24] }) (h : WyM w LD LT v (.slice (some ⟨gt, 0, none⟩) LT.length ct) vs W) (hs : a.eval s = .slice (some ⟨gt, 0, none⟩) LT.length ct) (hx : a.eval x = .slice (some ⟨X, 0, none⟩) 1 1)
    (hB : Blk W X 22 [xv]) (ht : TxAt (okTwo v (.slice (some ⟨gt, 0, none⟩) LT.length ct)) W xv t) (hn : LT.length ≤ 100)
    (hk : ∀ g c W', WyM w LD (LT ++ [t]) v (.slice (some ⟨g, 0, none⟩) (LT.length + 1) c) (vs ++ [xv]) W' → Below w.heap.size w W' → wpList Tryd.prog ops Q rest (a.put o.dst (.slice (some ⟨g, 0, none⟩) (LT.length + 1) c)) W') : wpList Tryd.prog ops Q (o :: rest) a W := by
  obtain ⟨i0, hi⟩ := hinfo22w
  have hone : xv.oneCell' = true := by obtain ⟨A, c, rfl, _⟩ := ht; rfl
  refine wpList_append_lies W hgd s x 24 ho w.heap.size 22 i0 _ 1 24 Tryd.underlying24 hi.1 hi.2.1 hi.2.2.1 hi.2.2.2 rfl (by decide) _ LT.length vs hs h.rt ⟨X, 0, none⟩ 1 1 [xv] hx rfl ?_ ?_ (by decide) (by unfold maxLen; omega) (by omega) h.bel.size W.heap.size rfl ?_
  · intro j y hj
    rw [Addr.add_mid, Nat.zero_add]
    exact (hB.cell j).trans hj
  · intro y hy
    rw [List.mem_singleton.1 hy]; exact hone
  · intro g c W' h1 h2 h3 _
    have hm := h.addT ht h1 h2 h3
    exact hk g c W' hm hm.bel
set_option maxRecDepth 20000 in
set_option maxHeartbeats 6400000 in
theorem rway_any (n i : Nat) (LA : Option Addr) (leaf : List UInt8) (lc : Nat) (A : Option Addr) (c : Nat) (p : List (List UInt8)) (w : World) (hl : Src w LA leaf.length lc leaf) (hlf : leaf.length ≤ 80000000) (hp : DSrc w A p.length c p) (hi : i < n) (hn : n ≤ 65536) (hpl : p.length = lenR n i) :
    Calls Tryd.prog 73 #[.int .i64 (n : Nat), .int .i64 (i : Nat), .slice LA leaf.length lc, .slice A p.length c] w
      (WayP (sha (tagL ++ leaf) :: (wyL sha tagN n i (sha (tagL ++ leaf)) p).map (·.1)) ((tagL ++ leaf) :: (wyL sha tagN n i (sha (tagL ++ leaf)) p).map (·.2)) w) := by
  have HP := hide hp
  have HT := hide (rtextN_leaf LA leaf.length lc leaf w hl (by omega))
  have HL0 := hide (show 0 < (tagL ++ leaf).length ∧ (tagL ++ leaf).length ≤ 100000000 by rw [List.length_append, sha_len]; omega)
  have HPL := hide hpl
  have HP16 := hide (show p.length ≤ 16 by rw [hpl]; exact lenR_le 16 _ _ (by omega))
  clear hl hp hpl
  generalize tagL ++ leaf = t0 at *
  have HDL := hide (sha_len t0)
  have HWL := hide (wyL_le sha tagN 16 n i (sha t0) p (by omega))
  obtain ⟨FD, hFD⟩ : ∃ FD, FD = sha t0 :: (wyL sha tagN n i (sha t0) p).map (·.1) := ⟨_, rfl⟩
  obtain ⟨FT, hFT⟩ : ∃ FT, FT = t0 :: (wyL sha tagN n i (sha t0) p).map (·.2) := ⟨_, rfl⟩
  rw [← hFD, ← hFT]
  have HF := hide (And.intro hFD hFT)
  have HFL := hide (show FD.length ≤ 17 ∧ FT.length ≤ 17 from by rw [hFD, hFT]; simp; have := HWL.out; omega)
  clear hFD hFT HWL
  go_enter Tryd.func73, Tryd.ntmps73
  go_wp2_with fail
  with_reducible refine HT.out.mono ?_
  rintro e w1 ⟨g, c1, rfl, hg, hB, hle, htop, hb1⟩
  have H1 := hide (And.intro hg (And.intro hB hb1))
  have HG := hide (hB.lt HL0.out.1)
  clear hg hB hle htop hb1 HT
  go_wp2_with fail
  with_reducible refine (rsum_any (some ⟨g, 0, none⟩) t0.length c1 t0 w1 ⟨rfl, Sb.of H1.out.2.1, fun h => by cases h⟩ HL0.out.2).mono ?_
  rintro e w2 ⟨rfl, hb2⟩
  have HW := hide (way_first (c := c1) HL0.out.1 H1.out.1 H1.out.2.1 H1.out.2.2 hb2 HG.out)
  clear hb2
  have HWI := hide (show WyI w p FD FT n i 0 w2.heap.size 1 (w2.heap.size + 1) 1 1 1 ((w2.alloc (.cells (bc (sha t0)).toArray 26)).alloc (.cells #[.slice (some ⟨g, 0, none⟩) t0.length c1] 22)) from
    ⟨[sha t0], [t0], sha t0, _, rfl, rfl, rfl, Nat.le_refl _, rfl, HW.out, by rw [HF.out.1]; rfl, by rw [HF.out.2]; rfl, by rw [Nat.zero_add]; exact HPL.out.symm⟩)
  clear HW HF H1 HG
  generalize sha t0 = d0 at *
  have hbl : (bc d0).length = 32 := by rw [bc_len]; exact HDL.out
  go_wp2_with fail
  rw [fold_dv d0 HDL.out]
  revert HWI
  generalize (w2.alloc (.cells (bc d0).toArray 26)).alloc (.cells #[.slice (some ⟨g, 0, none⟩) t0.length c1] 22) = W2
  intro HWI
  go_loopw [0, 1, 10, 11, 12, 13] (fun a b _ v u k wr => ∃ (m q kk gl cl gt ct nD nT : Nat), a = .int .i64 (m : Nat) ∧ b = .int .i64 (q : Nat) ∧ v = .slice (some ⟨gl, 0, none⟩) nD cl ∧ u = .slice (some ⟨gt, 0, none⟩) nT ct ∧ k = .int .i64 (kk : Nat) ∧ q < m ∧ m ≤ 65536 ∧ kk ≤ 17 ∧ Hid (WyI w p FD FT m q kk gl cl gt ct nD nT wr)) (fun a _ _ _ _ _ _ => (intOf a).toNat)
  case atStart => exact ⟨n, i, 0, w2.heap.size, 1, w2.heap.size + 1, 1, 1, 1, rfl, rfl, rfl, rfl, rfl, hi, hn, by omega, HWI⟩
  case round =>
    clear HWI hi hn HPL
    obtain ⟨m, q, kk, gl, cl, gt, ct, nD, nT, rfl, rfl, rfl, rfl, rfl, hq, hm, hkk, HI⟩ := hrel
    by_cases hlt : 1 < m
    · have hlt' : (1 : Int) < (m : Int) := by omega
      obtain ⟨LD, LT, d, vs, rfl, rfl, e3, e4, e5, e6, e7, e8, e9⟩ := HI.out
      have HM := hide e6
      have H3 := hide e3
      have H789 := hide (And.intro e7 (And.intro e8 e9))
      have hld1 : (1 : Int) ≤ (LD.length : Int) := by omega
      have hbd : LD.length ≤ 17 ∧ LT.length ≤ 17 := by
        have h1 := congrArg List.length e7
        have h2 := congrArg List.length e8
        rw [List.length_append] at h1 h2
        have := HFL.out
        omega
      have hlast : LD.length - 1 < LD.length := by omega
      have hd0 : LD[LD.length - 1] = d := by
        rw [List.getLast?_eq_getElem?, List.getElem?_eq_getElem hlast] at e5
        exact Option.some.inj e5
      have HDD := hide (show d.length = 32 by rw [← hd0]; exact e6.d32 _ (List.getElem_mem hlast))
      have HG := hide (show wr.rangeAt gl ((LD.length - 1) * 32) (bc d) by
        obtain ⟨g', eg, _, _, hB⟩ := row_form e6.rl e6.d32 e4
        cases eg
        have h := bs_range (ds_el e6.d32 hB hlast)
        rw [hd0, Nat.zero_add] at h
        exact h)
      have hb17 := hbd.1
      have hbt17 := hbd.2
      clear HI e3 e5 e6 e7 e8 e9 hd0 hbd
      have HSZ := hide (dv_size _ HDD.out)
      have HZ := hide (show (Tryd.prog.info? 26).map (·.size) = some ((bc d).toArray).size by rw [HSZ.out]; exact Tryd.size26)
      have HZL := hide (show (Tryd.prog.info? 26).map (·.size) = some (bc d).length by rw [bc_len, HDD.out]; exact Tryd.size26)
      have HO := hide (all_oneCell_toArray (bc_one d))
      have HAFT := hide (show ∀ W3, Hid (W3 = (wr.alloc (.cells (List.replicate 32 (.int .u8 0)).toArray 26)).setRow wr.heap.size (bc d).toArray) → Blk W3 wr.heap.size 26 (bc d) ∧ Below wr.heap.size wr W3 from by
        intro W3 HW3
        have e := HW3.out
        subst e
        exact ⟨(Blk.new wr 26 (List.replicate 32 (.int .u8 0))).row _, below_setRow (below_new wr _) (Nat.le_refl _) _⟩)
      have ewr : IntKind.i64.wrap ((LD.length : Int) - 1) = (LD.length : Int) - 1 := IntWalk.i64_in _ (by omega)
      have etn : ((LD.length : Int) - 1).toNat = LD.length - 1 := by omega
      have e0n : (0 : Int) ≤ (LD.length : Int) - 1 := by omega
      have e1n : (LD.length : Int) - 1 < (LD.length : Int) := by omega
      go_upto_region 7 with (first | (refine wpList_load_mid rfl 26 (.tmp 28) rfl gl ((LD.length - 1) * 32) rfl (bc d) _ HG.out Tryd.underlying26 rfl HZL.out ?_) | (refine wpList_store_row rfl 26 (.tmp 14) (.tmp 29) rfl wr.heap.size (bc d).toArray rfl rfl 26 _ (heap_alloc_new wr _) HZ.out (by rw [HSZ.out]; rfl) HO.out ?_))
      refine name_code ?_
      intro W3 HW3
      have HB3 := hide (HAFT.out W3 HW3)
      have HM3 := hide (HM.out.below HB3.out.2)
      clear HW3 HAFT HM ewr etn e0n e1n HG
      generalize wr.heap.size = X at *
      by_cases hodd : q % 2 = 1
      · have ho : ((q : Int) % 2 == 1) = true := by simp only [beq_iff_eq]; omega
        have ha : aloneB m q = false := by unfold aloneB nb; rw [if_pos hodd]; exact decide_eq_false (by omega)
        have hk1 : kk < p.length := by
          have h := H789.out.2.2
          rw [lenR_more hlt, ha] at h
          simp at h
          omega
        obtain ⟨bp, op, rfl, hBp⟩ := HP.out.ds.at HP.out.d32 (by omega)
        have hbp : bp < w.heap.size := hBp.lt (by rw [HP.out.d32.flat]; omega)
        have HPE := hide (fun (W' : World) (h : Below w.heap.size w W') => bs_range (ds_el HP.out.d32 (hBp.below h hbp) hk1))
        have HEL := hide (HP.out.d32 _ (List.getElem_mem hk1))
        have HDR := hide (List.drop_eq_getElem_cons hk1)
        have hk1' : (kk : Int) < (p.length : Int) := by omega
        clear hBp
        generalize p[kk] = e at *
        have HZE := hide (show (Tryd.prog.info? 26).map (·.size) = some (bc e).length by rw [bc_len, HEL.out]; exact Tryd.size26)
        have HST := hide (show stepT tagN q d ((p.drop kk).headD []) = tagN ++ (e ++ d) ∧ (p.drop kk).tail = p.drop (kk + 1) from by
          rw [HDR.out]
          refine ⟨?_, rfl⟩
          show stepT tagN q d e = _
          unfold stepT nb
          rw [if_pos hodd]
          first | rw [if_pos (by omega)] | rw [if_neg (by omega)]
          rfl)
        have HTW := hide (rtwoN_any e d W3.drew HEL.out HDD.out)
        have HLT := hide (show 0 < (tagN ++ (e ++ d)).length ∧ (tagN ++ (e ++ d)).length ≤ 100000000 by rw [List.length_append, List.length_append, sha_len, HEL.out, HDD.out]; omega)
        have HW7 := hide (show LD ++ [sha (tagN ++ (e ++ d))] ++ (wyL sha tagN ((m + 1) / 2) (q / 2) (sha (tagN ++ (e ++ d))) (p.drop (kk + 1))).map (·.1) = FD ∧ LT ++ [tagN ++ (e ++ d)] ++ (wyL sha tagN ((m + 1) / 2) (q / 2) (sha (tagN ++ (e ++ d))) (p.drop (kk + 1))).map (·.2) = FT ∧ kk + 1 + lenR ((m + 1) / 2) (q / 2) = p.length from by
          have h7 := H789.out.1
          have h8 := H789.out.2.1
          have h9 := H789.out.2.2
          rw [wyL_two sha tagN hlt ha, HST.out.1, HST.out.2, List.map_cons] at h7 h8
          rw [lenR_more hlt, ha] at h9
          refine ⟨by rw [List.append_assoc]; exact h7, by rw [List.append_assoc]; exact h8, by simp at h9; omega⟩)
        generalize tagN ++ (e ++ d) = tx at *
        clear HST H789 HDR
        have HGX := hide (fun (W' : World) (h : Below W3.heap.size W3 W') => range_below (bs_range HB3.out.1.bs) h HB3.out.1.lt)
        go_wp2_with fail
        refine wp_region_plan4 (fun W' => W'.rangeAt bp (op + kk * 32) (bc e) ∧ W'.rangeAt X 0 (bc d)) (.take 0 (.take 1 (.take 2 (.take 3 (.take 4 (.run 5 (.run 6 .done))))))) (by kernel_rfl) (by kernel_rfl) ⟨HPE.out _ HM3.out.bel.drew, HGX.out _ ((Below.refl _ _).drew)⟩ ?_
        (refine plan4_take (o := ?_) (v := ?_) (by simp only [List.getElem?_toArray, List.getElem?_cons_zero]; rfl) (yields_run (by rfl) ?_) ?_; rotate_left; (focus (intro w' hw'; go_simp <;> with_reducible rfl)); (simp only [Act.put, List.setIfInBounds_toArray, List.set_cons_zero, List.set_cons_succ]))
        (refine plan4_take (o := ?_) (v := ?_) (by simp only [List.getElem?_toArray, List.getElem?_cons_succ, List.getElem?_cons_zero]; rfl) (yields_run (by rfl) ?_) ?_; rotate_left; (focus (intro w' hw'; go_simp <;> with_reducible rfl)); (simp only [Act.put, List.setIfInBounds_toArray, List.set_cons_zero, List.set_cons_succ]))
        (refine plan4_take (o := ?_) (v := ?_) (by simp only [List.getElem?_toArray, List.getElem?_cons_succ, List.getElem?_cons_zero]; rfl) (yields_run (by rfl) ?_) ?_; rotate_left; (focus (intro w' hw'; go_simp <;> with_reducible rfl)); (simp only [Act.put, List.setIfInBounds_toArray, List.set_cons_zero, List.set_cons_succ]))
        (refine plan4_take (o := ?_) (by simp only [List.getElem?_toArray, List.getElem?_cons_succ, List.getElem?_cons_zero]; rfl) (yieldsIf_load_mid (by rfl) 26 (.tmp 44) rfl bp (op + kk * 32) rfl (bc e) _ (fun _ h => h.1) Tryd.underlying26 rfl HZE.out) ?_; (simp only [Act.put, List.setIfInBounds_toArray, List.set_cons_zero, List.set_cons_succ]))
        (refine plan4_take (o := ?_) (by simp only [List.getElem?_toArray, List.getElem?_cons_succ, List.getElem?_cons_zero]; rfl) (yieldsIf_load_mid (by rfl) 26 (.tmp 14) rfl X (0) rfl (bc d) _ (fun _ h => h.2) Tryd.underlying26 rfl HZL.out) ?_; (simp only [Act.put, List.setIfInBounds_toArray, List.set_cons_zero, List.set_cons_succ]))
        refine plan4_run (o := ?_) (by simp only [List.getElem?_toArray, List.getElem?_cons_succ, List.getElem?_cons_zero]; rfl) ?_
        intro R HR
        go_wp2_with fail
        with_reducible refine HTW.out.mono ?_
        rintro ee w5 ⟨g5, c5, rfl, hg5, hB5, _, _, hb5⟩
        have HM5 := hide (HM3.out.below (((Below.refl _ W3).drew).trans hb5))
        have HX5 := hide (HM3.out.new (c := c5) hB5 HLT.out.1 hg5 (((Below.refl _ W3).drew).trans hb5))
        have HS5 := hide (show w5.rangeAt bp (op + kk * 32) (bc e) ∧ w5.rangeAt X 0 (bc d) ∧ Bs w5 g5 0 tx from ⟨HPE.out _ HM5.out.bel, HGX.out _ (((Below.refl _ W3).drew).trans hb5), hB5⟩)
        clear hg5 hB5 hb5 HTW
        go_wp2_with fail
        refine HR.out _ _ ⟨HS5.out.1, HS5.out.2.1⟩ ?_
        clear HR
        refine plan4_run (o := ?_) (by simp only [List.getElem?_toArray, List.getElem?_cons_succ, List.getElem?_cons_zero]; rfl) ?_
        intro R HR
        go_wp2_with fail
        refine HR.out _ _ ⟨HS5.out.1, HS5.out.2.1⟩ ?_
        clear HR
        refine plan4_done ?_
        go_wp2_with fail
        with_reducible refine (rsum_any (some ⟨g5, 0, none⟩) tx.length c5 tx w5 ⟨rfl, Sb.of HS5.out.2.2, fun h => by cases h⟩ HLT.out.2).mono ?_
        rintro ee w6 ⟨rfl, hb6⟩
        have HM6 := hide (HM5.out.below hb6)
        have HX6 := hide (HX5.out.keep hb6.size (fun k _ hk => hb6.block k hk) (fun _ h _ => h))
        have HDS := hide (sha_len tx)
        clear hb6 HM5 HX5
        generalize sha tx = d2 at *
        have hbl2 : (bc d2).length = 32 := by rw [bc_len]; exact HDS.out
        have HBN := hide (Blk.new w6 26 (bc d2))
        have HM7 := hide (HM6.out.below (below_new w6 (.cells (bc d2).toArray 26)))
        have HX7 := hide (HX6.out.keep (below_new w6 (.cells (bc d2).toArray 26)).size (fun k _ hk => (below_new w6 (.cells (bc d2).toArray 26)).block k hk) (fun _ h _ => h))
        go_upto_region 12 with (at_builtin; (first | rw [fold_dv d2 HDS.out] | skip); (refine wpList_addD rfl (.tmp 54) (.tmp 57) rfl HM7.out rfl rfl HBN.out HDS.out (by omega) ?_; intro g8 c8 W8 hm8 hb8 hx8; have HM8 := hide hm8; have HX8 := hide (hx8 _ _ HX7.out); clear hm8 hb8 hx8))
        have HBN9 := hide (Blk.new W8 22 [.slice (some ⟨g5, 0, none⟩) tx.length c5])
        have HM9 := hide (HM8.out.below (below_new W8 (.cells #[.slice (some ⟨g5, 0, none⟩) tx.length c5] 22)))
        have HX9 := hide (HX8.out.keep (below_new W8 (.cells #[.slice (some ⟨g5, 0, none⟩) tx.length c5] 22)).size (fun k _ hk => (below_new W8 (.cells #[.slice (some ⟨g5, 0, none⟩) tx.length c5] 22)).block k hk) (fun _ h _ => h))
        have hkw : (kk : Int) + 1 ≤ 20 := by omega
        go_wp2_with (at_builtin; refine wpList_addT rfl (.tmp 59) (.tmp 61) rfl HM9.out rfl rfl HBN9.out HX9.out (by omega) ?_; intro g10 c10 W10 hm10 hb10; have HM10 := hide hm10; clear hm10 hb10)
        go_roundw
        case rel =>
          refine ⟨(m + 1) / 2, q / 2, kk + 1, g8, c8, g10, c10, LD.length + 1, LT.length + 1, by go_num, by go_num, rfl, rfl, by go_num, by omega, by omega, ?_, hide ⟨LD ++ [d2], LT ++ [tx], d2, _, by rw [List.length_append]; rfl, by rw [List.length_append]; rfl, by rw [H3.out], by omega, by simp, HM10.out, HW7.out.1, HW7.out.2.1, HW7.out.2.2⟩⟩
          have := HP16.out
          omega
        case measure => simp [intOf]; omega
      · have ho : ((q : Int) % 2 == 1) = false := by simp only [beq_eq_false_iff_ne, ne_eq]; omega
        by_cases hqx : q + 1 < m
        · have hlt2 : (q : Int) + 1 < (m : Int) := by omega
          have ha : aloneB m q = false := by unfold aloneB nb; rw [if_neg hodd]; exact decide_eq_false (by omega)
          have hk1 : kk < p.length := by
            have h := H789.out.2.2
            rw [lenR_more hlt, ha] at h
            simp at h
            omega
          obtain ⟨bp, op, rfl, hBp⟩ := HP.out.ds.at HP.out.d32 (by omega)
          have hbp : bp < w.heap.size := hBp.lt (by rw [HP.out.d32.flat]; omega)
          have HPE := hide (fun (W' : World) (h : Below w.heap.size w W') => bs_range (ds_el HP.out.d32 (hBp.below h hbp) hk1))
          have HEL := hide (HP.out.d32 _ (List.getElem_mem hk1))
          have HDR := hide (List.drop_eq_getElem_cons hk1)
          have hk1' : (kk : Int) < (p.length : Int) := by omega
          clear hBp
          generalize p[kk] = e at *
          have HZE := hide (show (Tryd.prog.info? 26).map (·.size) = some (bc e).length by rw [bc_len, HEL.out]; exact Tryd.size26)
          have HST := hide (show stepT tagN q d ((p.drop kk).headD []) = tagN ++ (d ++ e) ∧ (p.drop kk).tail = p.drop (kk + 1) from by
            rw [HDR.out]
            refine ⟨?_, rfl⟩
            show stepT tagN q d e = _
            unfold stepT nb
            rw [if_neg hodd]
            first | rw [if_pos (by omega)] | rw [if_neg (by omega)]
            rfl)
          have HTW := hide (rtwoN_any d e W3.drew HDD.out HEL.out)
          have HLT := hide (show 0 < (tagN ++ (d ++ e)).length ∧ (tagN ++ (d ++ e)).length ≤ 100000000 by rw [List.length_append, List.length_append, sha_len, HEL.out, HDD.out]; omega)
          have HW7 := hide (show LD ++ [sha (tagN ++ (d ++ e))] ++ (wyL sha tagN ((m + 1) / 2) (q / 2) (sha (tagN ++ (d ++ e))) (p.drop (kk + 1))).map (·.1) = FD ∧ LT ++ [tagN ++ (d ++ e)] ++ (wyL sha tagN ((m + 1) / 2) (q / 2) (sha (tagN ++ (d ++ e))) (p.drop (kk + 1))).map (·.2) = FT ∧ kk + 1 + lenR ((m + 1) / 2) (q / 2) = p.length from by
            have h7 := H789.out.1
            have h8 := H789.out.2.1
            have h9 := H789.out.2.2
            rw [wyL_two sha tagN hlt ha, HST.out.1, HST.out.2, List.map_cons] at h7 h8
            rw [lenR_more hlt, ha] at h9
            refine ⟨by rw [List.append_assoc]; exact h7, by rw [List.append_assoc]; exact h8, by simp at h9; omega⟩)
          generalize tagN ++ (d ++ e) = tx at *
          clear HST H789 HDR
          have HGX := hide (fun (W' : World) (h : Below W3.heap.size W3 W') => range_below (bs_range HB3.out.1.bs) h HB3.out.1.lt)
          go_wp2_with fail
          refine wp_region_plan4 (fun W' => W'.rangeAt bp (op + kk * 32) (bc e) ∧ W'.rangeAt X 0 (bc d)) (.take 0 (.take 1 (.take 2 (.take 3 (.take 4 (.run 5 (.run 6 .done))))))) (by kernel_rfl) (by kernel_rfl) ⟨HPE.out _ HM3.out.bel.drew, HGX.out _ ((Below.refl _ _).drew)⟩ ?_
          (refine plan4_take (o := ?_) (by simp only [List.getElem?_toArray, List.getElem?_cons_zero]; rfl) (yieldsIf_load_mid (by rfl) 26 (.tmp 14) rfl X (0) rfl (bc d) _ (fun _ h => h.2) Tryd.underlying26 rfl HZL.out) ?_; (simp only [Act.put, List.setIfInBounds_toArray, List.set_cons_zero, List.set_cons_succ]))
          (refine plan4_take (o := ?_) (v := ?_) (by simp only [List.getElem?_toArray, List.getElem?_cons_succ, List.getElem?_cons_zero]; rfl) (yields_run (by rfl) ?_) ?_; rotate_left; (focus (intro w' hw'; go_simp <;> with_reducible rfl)); (simp only [Act.put, List.setIfInBounds_toArray, List.set_cons_zero, List.set_cons_succ]))
          (refine plan4_take (o := ?_) (v := ?_) (by simp only [List.getElem?_toArray, List.getElem?_cons_succ, List.getElem?_cons_zero]; rfl) (yields_run (by rfl) ?_) ?_; rotate_left; (focus (intro w' hw'; go_simp <;> with_reducible rfl)); (simp only [Act.put, List.setIfInBounds_toArray, List.set_cons_zero, List.set_cons_succ]))
          (refine plan4_take (o := ?_) (v := ?_) (by simp only [List.getElem?_toArray, List.getElem?_cons_succ, List.getElem?_cons_zero]; rfl) (yields_run (by rfl) ?_) ?_; rotate_left; (focus (intro w' hw'; go_simp <;> with_reducible rfl)); (simp only [Act.put, List.setIfInBounds_toArray, List.set_cons_zero, List.set_cons_succ]))
          (refine plan4_take (o := ?_) (by simp only [List.getElem?_toArray, List.getElem?_cons_succ, List.getElem?_cons_zero]; rfl) (yieldsIf_load_mid (by rfl) 26 (.tmp 51) rfl bp (op + kk * 32) rfl (bc e) _ (fun _ h => h.1) Tryd.underlying26 rfl HZE.out) ?_; (simp only [Act.put, List.setIfInBounds_toArray, List.set_cons_zero, List.set_cons_succ]))
          refine plan4_run (o := ?_) (by simp only [List.getElem?_toArray, List.getElem?_cons_succ, List.getElem?_cons_zero]; rfl) ?_
          intro R HR
          go_wp2_with fail
          with_reducible refine HTW.out.mono ?_
          rintro ee w5 ⟨g5, c5, rfl, hg5, hB5, _, _, hb5⟩
          have HM5 := hide (HM3.out.below (((Below.refl _ W3).drew).trans hb5))
          have HX5 := hide (HM3.out.new (c := c5) hB5 HLT.out.1 hg5 (((Below.refl _ W3).drew).trans hb5))
          have HS5 := hide (show w5.rangeAt bp (op + kk * 32) (bc e) ∧ w5.rangeAt X 0 (bc d) ∧ Bs w5 g5 0 tx from ⟨HPE.out _ HM5.out.bel, HGX.out _ (((Below.refl _ W3).drew).trans hb5), hB5⟩)
          clear hg5 hB5 hb5 HTW
          go_wp2_with fail
          refine HR.out _ _ ⟨HS5.out.1, HS5.out.2.1⟩ ?_
          clear HR
          refine plan4_run (o := ?_) (by simp only [List.getElem?_toArray, List.getElem?_cons_succ, List.getElem?_cons_zero]; rfl) ?_
          intro R HR
          go_wp2_with fail
          refine HR.out _ _ ⟨HS5.out.1, HS5.out.2.1⟩ ?_
          clear HR
          refine plan4_done ?_
          go_wp2_with fail
          with_reducible refine (rsum_any (some ⟨g5, 0, none⟩) tx.length c5 tx w5 ⟨rfl, Sb.of HS5.out.2.2, fun h => by cases h⟩ HLT.out.2).mono ?_
          rintro ee w6 ⟨rfl, hb6⟩
          have HM6 := hide (HM5.out.below hb6)
          have HX6 := hide (HX5.out.keep hb6.size (fun k _ hk => hb6.block k hk) (fun _ h _ => h))
          have HDS := hide (sha_len tx)
          clear hb6 HM5 HX5
          generalize sha tx = d2 at *
          have hbl2 : (bc d2).length = 32 := by rw [bc_len]; exact HDS.out
          have HBN := hide (Blk.new w6 26 (bc d2))
          have HM7 := hide (HM6.out.below (below_new w6 (.cells (bc d2).toArray 26)))
          have HX7 := hide (HX6.out.keep (below_new w6 (.cells (bc d2).toArray 26)).size (fun k _ hk => (below_new w6 (.cells (bc d2).toArray 26)).block k hk) (fun _ h _ => h))
          go_upto_region 12 with (at_builtin; (first | rw [fold_dv d2 HDS.out] | skip); (refine wpList_addD rfl (.tmp 54) (.tmp 57) rfl HM7.out rfl rfl HBN.out HDS.out (by omega) ?_; intro g8 c8 W8 hm8 hb8 hx8; have HM8 := hide hm8; have HX8 := hide (hx8 _ _ HX7.out); clear hm8 hb8 hx8))
          have HBN9 := hide (Blk.new W8 22 [.slice (some ⟨g5, 0, none⟩) tx.length c5])
          have HM9 := hide (HM8.out.below (below_new W8 (.cells #[.slice (some ⟨g5, 0, none⟩) tx.length c5] 22)))
          have HX9 := hide (HX8.out.keep (below_new W8 (.cells #[.slice (some ⟨g5, 0, none⟩) tx.length c5] 22)).size (fun k _ hk => (below_new W8 (.cells #[.slice (some ⟨g5, 0, none⟩) tx.length c5] 22)).block k hk) (fun _ h _ => h))
          have hkw : (kk : Int) + 1 ≤ 20 := by omega
          go_wp2_with (at_builtin; refine wpList_addT rfl (.tmp 59) (.tmp 61) rfl HM9.out rfl rfl HBN9.out HX9.out (by omega) ?_; intro g10 c10 W10 hm10 hb10; have HM10 := hide hm10; clear hm10 hb10)
          go_roundw
          case rel =>
            refine ⟨(m + 1) / 2, q / 2, kk + 1, g8, c8, g10, c10, LD.length + 1, LT.length + 1, by go_num, by go_num, rfl, rfl, by go_num, by omega, by omega, ?_, hide ⟨LD ++ [d2], LT ++ [tx], d2, _, by rw [List.length_append]; rfl, by rw [List.length_append]; rfl, by rw [H3.out], by omega, by simp, HM10.out, HW7.out.1, HW7.out.2.1, HW7.out.2.2⟩⟩
            have := HP16.out
            omega
          case measure => simp [intOf]; omega
        · have hlt2 : ¬ (q : Int) + 1 < (m : Int) := by omega
          have ha : aloneB m q = true := by unfold aloneB nb; rw [if_neg hodd]; exact decide_eq_true (by omega)
          have HGX := hide (show W3.rangeAt X 0 (bc d) from bs_range HB3.out.1.bs)
          have HBN := hide (Blk.new W3 26 (bc d))
          have HM4 := hide (HM3.out.below (below_new W3 (.cells (bc d).toArray 26)))
          have hbl2 : (bc d).length = 32 := by rw [bc_len]; exact HDD.out
          go_upto_region 15 with (first | (refine wpList_load_mid rfl 26 (.tmp 14) rfl X 0 rfl (bc d) _ HGX.out Tryd.underlying26 rfl HZL.out ?_) | (at_builtin; (first | rw [fold_dv d HDD.out] | skip); (refine wpList_addD rfl (.tmp 65) (.tmp 67) rfl HM4.out rfl rfl HBN.out HDD.out (by omega) ?_; intro g4 c4 W5 hm5 hb5 _; have HM5 := hide hm5; clear hm5 hb5)))
          have HBN6 := hide (Blk.new W5 22 [.slice none 0 0])
          have HM6 := hide (HM5.out.below (below_new W5 (.cells #[.slice none 0 0] 22)))
          have HT6 := hide (show TxAt (okTwo (.slice (some ⟨g4, 0, none⟩) (LD.length + 1) c4) (.slice (some ⟨gt, 0, none⟩) LT.length ct)) (W5.alloc (.cells #[.slice none 0 0] 22)) (.slice none 0 0) [] from ⟨none, 0, rfl, (fun h => absurd rfl h), fun _ => rfl, fun ad h => by cases h⟩)
          go_wp2_with (at_builtin; refine wpList_addT rfl (.tmp 69) (.tmp 70) rfl HM6.out rfl rfl HBN6.out HT6.out (by omega) ?_; intro g7 c7 W7 hm7 hb7; have HM7 := hide hm7; clear hm7 hb7)
          go_roundw
          case rel =>
            refine ⟨(m + 1) / 2, q / 2, kk, g4, c4, g7, c7, LD.length + 1, LT.length + 1, by go_num, by go_num, rfl, rfl, rfl, by omega, by omega, hkk, hide ⟨LD ++ [d], LT ++ [[]], d, _, by rw [List.length_append]; rfl, by rw [List.length_append]; rfl, by rw [H3.out], by omega, by simp, HM7.out, ?_, ?_, ?_⟩⟩
            · have h := H789.out.1; rw [wyL_alone sha tagN hlt ha, List.map_cons] at h; rw [List.append_assoc]; exact h
            · have h := H789.out.2.1; rw [wyL_alone sha tagN hlt ha, List.map_cons] at h; rw [List.append_assoc]; exact h
            · have h := H789.out.2.2; rw [lenR_more hlt, ha] at h; simpa using h
          case measure => simp [intOf]; omega
    · have hlt' : ¬ (1 : Int) < (m : Int) := by omega
      go_wp2_with fail
      obtain ⟨LD, LT, d, vs, e1, e2, e3, e4, e5, e6, e7, e8, e9⟩ := HI.out
      rw [wyL_one sha tagN (by omega), List.map_nil, List.append_nil] at e7 e8
      subst e7 e8
      refine bodyPost_ret (results_tmp2 rfl _ _ _) rfl ⟨gl, cl, gt, ct, vs, ?_, ?_⟩
      · rw [← e1, ← e2]; rfl
      · rw [← e1, ← e2]; exact e6
end Go.Proofs.YthjfeodclphgaaaDoor

/- The reference's Climb. -/
namespace Go.Proofs.YthjfeodclphgaaaDoor
open Go.RowKit Go.Shelf
theorem fd_last (l : List (List UInt8 × List UInt8)) (h : l ≠ []) (hk : (l.map (·.1)).length - 1 < (l.map (·.1)).length) : (l.map (·.1))[(l.map (·.1)).length - 1] = (l.getLast h).1 := by
  simp [List.getLast_eq_getElem]
set_option maxRecDepth 20000 in
set_option maxHeartbeats 1600000 in
theorem rclimb_no (n i : Int) (LA : Option Addr) (ln lc : Nat) (A : Option Addr) (m c : Nat) (w : World) (h : leafB n i = false) :
    Calls Tryd.prog 42 #[.int .i64 n, .int .i64 i, .slice LA ln lc, .slice A m c] w fun e w' => e = .returned (.tuple #[dv zero32, .int .i64 1]) ∧ Below w.heap.size w w' := by
  have HB := hide (below_new w (.cells (List.replicate 32 (.int .u8 0)).toArray 26))
  have HR := hide (Blk.new w 26 (List.replicate 32 (.int .u8 0)))
  have HZ := hide (show (Tryd.prog.info? 26).map (·.size) = some ((bc zero32).toArray).size by rw [dv_size _ zero32_len]; exact Tryd.size26)
  have HO := hide (all_oneCell_toArray (bc_one zero32))
  have HS := hide (dv_size _ zero32_len)
  have HL := hide h
  clear h
  go_enter Tryd.func42, Tryd.ntmps42
  by_cases h1 : (65536 : Int) < n
  · go_wp2_with (refine wpList_store_row rfl 26 (.tmp 8) (.tmp 23) rfl w.heap.size (bc zero32).toArray rfl rfl 26 _ HR.out HZ.out (by rw [HS.out]; rfl) HO.out ?_)
    refine bodyPost_ret (v := .tuple #[dv zero32, .int .i64 1]) (results_cell_row_tmp rfl _ _ w.heap.size 26 _ (0, 0) _ _ rfl rfl (setRow_heap _ _ _ _ _ _ HR.out) Tryd.underlying26 rfl HZ.out) rfl ⟨rfl, below_setRow HB.out (Nat.le_refl _) _⟩
  · by_cases h2 : i < 0
    · go_wp2_with (refine wpList_store_row rfl 26 (.tmp 8) (.tmp 23) rfl w.heap.size (bc zero32).toArray rfl rfl 26 _ HR.out HZ.out (by rw [HS.out]; rfl) HO.out ?_)
      refine bodyPost_ret (v := .tuple #[dv zero32, .int .i64 1]) (results_cell_row_tmp rfl _ _ w.heap.size 26 _ (0, 0) _ _ rfl rfl (setRow_heap _ _ _ _ _ _ HR.out) Tryd.underlying26 rfl HZ.out) rfl ⟨rfl, below_setRow HB.out (Nat.le_refl _) _⟩
    · have h3 : n ≤ i := by
        have := HL.out
        unfold leafB at this
        simp at this
        omega
      go_wp2_with (refine wpList_store_row rfl 26 (.tmp 8) (.tmp 23) rfl w.heap.size (bc zero32).toArray rfl rfl 26 _ HR.out HZ.out (by rw [HS.out]; rfl) HO.out ?_)
      refine bodyPost_ret (v := .tuple #[dv zero32, .int .i64 1]) (results_cell_row_tmp rfl _ _ w.heap.size 26 _ (0, 0) _ _ rfl rfl (setRow_heap _ _ _ _ _ _ HR.out) Tryd.underlying26 rfl HZ.out) rfl ⟨rfl, below_setRow HB.out (Nat.le_refl _) _⟩
set_option maxRecDepth 20000 in
set_option maxHeartbeats 1600000 in
theorem rclimb_len (n i : Nat) (LA : Option Addr) (ln lc : Nat) (A : Option Addr) (m c : Nat) (w : World) (hi : i < n) (hn : n ≤ 65536) (hm : m ≠ lenR n i) :
    Calls Tryd.prog 42 #[.int .i64 (n : Nat), .int .i64 (i : Nat), .slice LA ln lc, .slice A m c] w fun e w' => e = .returned (.tuple #[dv zero32, .int .i64 70]) ∧ Below w.heap.size w w' := by
  have HB := hide (below_new w (.cells (List.replicate 32 (.int .u8 0)).toArray 26))
  have HR := hide (Blk.new w 26 (List.replicate 32 (.int .u8 0)))
  have HZ := hide (show (Tryd.prog.info? 26).map (·.size) = some ((bc zero32).toArray).size by rw [dv_size _ zero32_len]; exact Tryd.size26)
  have HO := hide (all_oneCell_toArray (bc_one zero32))
  have HS := hide (dv_size _ zero32_len)
  have HLN := hide (rlength_any n i (w.alloc (.cells (List.replicate 32 (.int .u8 0)).toArray 26)) hi hn)
  generalize lenR n i = k at *
  have hm' : ((m : Int) == (k : Int)) = false := by simp only [beq_eq_false_iff_ne, ne_eq]; omega
  have hn1 : ¬ (65536 : Int) < (n : Int) := by omega
  have hn2 : ¬ (i : Int) < 0 := by omega
  have hn3 : ¬ (n : Int) ≤ (i : Int) := by omega
  clear hm
  go_enter Tryd.func42, Tryd.ntmps42
  go_wp2_with fail
  refine HLN.out.mono ?_
  rintro e w3 ⟨rfl, hb⟩
  have HR3 := hide (HR.out.below hb HR.out.lt)
  have HB3 := hide (below_one HB.out hb)
  clear hb HLN
  go_wp2_with (refine wpList_store_row rfl 26 (.tmp 8) (.tmp 30) rfl w.heap.size (bc zero32).toArray rfl rfl 26 _ HR3.out HZ.out (by rw [HS.out]; rfl) HO.out ?_)
  refine bodyPost_ret (v := .tuple #[dv zero32, .int .i64 70]) (results_cell_row_tmp rfl _ _ w.heap.size 26 _ (0, 0) _ _ rfl rfl (setRow_heap _ _ _ _ _ _ HR3.out) Tryd.underlying26 rfl HZ.out) rfl ⟨rfl, below_setRow HB3.out (Nat.le_refl _) _⟩
set_option maxRecDepth 20000 in
set_option maxHeartbeats 1600000 in
theorem rclimb_yes (n i : Nat) (LA : Option Addr) (leaf : List UInt8) (lc : Nat) (A : Option Addr) (c : Nat) (p : List (List UInt8)) (w : World) (hl : Src w LA leaf.length lc leaf) (hlf : leaf.length ≤ 80000000) (hp : DSrc w A p.length c p) (hi : i < n) (hn : n ≤ 65536) (hpl : p.length = lenR n i) :
    Calls Tryd.prog 42 #[.int .i64 (n : Nat), .int .i64 (i : Nat), .slice LA leaf.length lc, .slice A p.length c] w fun e w' => e = .returned (.tuple #[dv (climbR sha tagN n i (sha (tagL ++ leaf)) p), .int .i64 0]) ∧ Below w.heap.size w w' := by
  have HB := hide (below_new w (.cells (List.replicate 32 (.int .u8 0)).toArray 26))
  have HR := hide (Blk.new w 26 (List.replicate 32 (.int .u8 0)))
  have HLN := hide (rlength_any n i (w.alloc (.cells (List.replicate 32 (.int .u8 0)).toArray 26)) hi hn)
  rw [← hpl] at HLN
  have HWY := hide (fun (W : World) (h : Below w.heap.size w W) => rway_any n i LA leaf lc A c p W (hl.below h) hlf (hp.below h) hi hn hpl)
  have HLA := hide (wyL_last sha tagN n n i (sha (tagL ++ leaf)) (tagL ++ leaf) p (Nat.le_refl _))
  have HFL := hide (show ∀ hk, (sha (tagL ++ leaf) :: (wyL sha tagN n i (sha (tagL ++ leaf)) p).map (·.1))[(sha (tagL ++ leaf) :: (wyL sha tagN n i (sha (tagL ++ leaf)) p).map (·.1)).length - 1]'hk = climbR sha tagN n i (sha (tagL ++ leaf)) p from fun hk => by
    rw [← HLA.out]
    exact fd_last ((sha (tagL ++ leaf), tagL ++ leaf) :: wyL sha tagN n i (sha (tagL ++ leaf)) p) (List.cons_ne_nil _ _) hk)
  have HF1 := hide (show 1 ≤ (sha (tagL ++ leaf) :: (wyL sha tagN n i (sha (tagL ++ leaf)) p).map (·.1)).length ∧ (sha (tagL ++ leaf) :: (wyL sha tagN n i (sha (tagL ++ leaf)) p).map (·.1)).length ≤ 17 from by
    have := wyL_le sha tagN 16 n i (sha (tagL ++ leaf)) p (by omega)
    simp
    omega)
  have hn1 : ¬ (65536 : Int) < (n : Int) := by omega
  have hn2 : ¬ (i : Int) < 0 := by omega
  have hn3 : ¬ (n : Int) ≤ (i : Int) := by omega
  clear hl hp hpl HLA
  generalize sha (tagL ++ leaf) :: (wyL sha tagN n i (sha (tagL ++ leaf)) p).map (·.1) = FD at *
  generalize (tagL ++ leaf) :: (wyL sha tagN n i (sha (tagL ++ leaf)) p).map (·.2) = FT at *
  generalize climbR sha tagN n i (sha (tagL ++ leaf)) p = r at *
  go_enter Tryd.func42, Tryd.ntmps42
  go_wp2_with fail
  refine HLN.out.mono ?_
  rintro e w3 ⟨rfl, hb⟩
  have HR3 := hide (HR.out.below hb HR.out.lt)
  have HB3 := hide (below_one HB.out hb)
  clear hb HLN
  go_wp2_with fail
  refine (HWY.out w3 HB3.out).mono ?_
  rintro e w4 ⟨gl, cl, gt, ct, vs, rfl, hM⟩
  have hlast : FD.length - 1 < FD.length := by have := HF1.out.1; omega
  have hr : FD[FD.length - 1] = r := HFL.out hlast
  have HRL := hide (show r.length = 32 by rw [← hr]; exact hM.d32 _ (List.getElem_mem hlast))
  have HG := hide (show w4.rangeAt gl ((FD.length - 1) * 32) (bc r) by
    obtain ⟨g', eg, _, _, hB⟩ := row_form hM.rl hM.d32 HF1.out.1
    cases eg
    have h := bs_range (ds_el hM.d32 hB hlast)
    rw [hr, Nat.zero_add] at h
    exact h)
  have HR4 := hide (HR3.out.below hM.bel HR3.out.lt)
  have HB4 := hide (below_one HB3.out hM.bel)
  clear hM hr HFL HWY
  have h1 := HF1.out.1
  have h17 := HF1.out.2
  have ewr : IntKind.i64.wrap ((FD.length : Int) - 1) = (FD.length : Int) - 1 := IntWalk.i64_in _ (by omega)
  have etn : ((FD.length : Int) - 1).toNat = FD.length - 1 := by omega
  have e0n : (0 : Int) ≤ (FD.length : Int) - 1 := by omega
  have e1n : (FD.length : Int) - 1 < (FD.length : Int) := by omega
  have HS := hide (dv_size _ HRL.out)
  have HZ := hide (show (Tryd.prog.info? 26).map (·.size) = some ((bc r).toArray).size by rw [HS.out]; exact Tryd.size26)
  have HZL := hide (show (Tryd.prog.info? 26).map (·.size) = some (bc r).length by rw [bc_len, HRL.out]; exact Tryd.size26)
  have HO := hide (all_oneCell_toArray (bc_one r))
  go_wp2_with (first | (refine wpList_load_mid rfl 26 (.tmp 43) rfl gl ((FD.length - 1) * 32) rfl (bc r) _ HG.out Tryd.underlying26 rfl HZL.out ?_) | (refine wpList_store_row rfl 26 (.tmp 8) (.tmp 44) rfl w.heap.size (bc r).toArray rfl rfl 26 _ HR4.out HZ.out (by rw [HS.out]; rfl) HO.out ?_))
  refine bodyPost_ret (v := .tuple #[dv r, .int .i64 0]) (results_cell_row_tmp rfl _ _ w.heap.size 26 _ (0, 0) _ _ rfl rfl (setRow_heap _ _ _ _ _ _ HR4.out) Tryd.underlying26 rfl HZ.out) rfl ⟨rfl, below_setRow HB4.out (Nat.le_refl _) _⟩
/-- The reference's Climb answers as the program's. -/
theorem rClimb_any (n i : Int) (LA : Option Addr) (leaf : List UInt8) (lc : Nat) (A : Option Addr) (c : Nat) (p : List (List UInt8)) (w : World) (hl : Src w LA leaf.length lc leaf) (hlf : leaf.length ≤ 80000000) (hp : DSrc w A p.length c p) :
    Calls Tryd.prog 42 #[.int .i64 n, .int .i64 i, .slice LA leaf.length lc, .slice A p.length c] w fun e w' => e = .returned (.tuple #[dv (climbAns n i leaf p).1, .int .i64 (climbAns n i leaf p).2]) ∧ Below w.heap.size w w' := by
  cases hb : leafB n i with
  | false =>
    rw [climbAns_no hb]
    exact rclimb_no n i LA leaf.length lc A p.length c w hb
  | true =>
    have hb' := hb
    unfold leafB at hb'
    simp at hb'
    obtain ⟨N, rfl⟩ : ∃ N : Nat, n = (N : Nat) := ⟨n.toNat, by omega⟩
    obtain ⟨I, rfl⟩ : ∃ I : Nat, i = (I : Nat) := ⟨i.toNat, by omega⟩
    by_cases hpl : p.length = lenR N I
    · rw [climbAns_yes hb (by simpa using hpl)]
      exact rclimb_yes N I LA leaf lc A c p w hl hlf hp (by omega) (by omega) hpl
    · rw [climbAns_len hb (by simpa using hpl)]
      exact rclimb_len N I LA leaf.length lc A p.length c w (by omega) (by omega) hpl
end Go.Proofs.YthjfeodclphgaaaDoor

/- The reference's Collide. -/
namespace Go.Proofs.YthjfeodclphgaaaDoor
open Go.RowKit Go.Shelf
set_option maxRecDepth 20000 in
set_option maxHeartbeats 6400000 in
/-- Nothing is shown. -/
theorem rcollide_none (n i : Int) (LA LB : Option Addr) (lca lcb : Nat) (la lb : List UInt8) (A A2 : Option Addr) (c c2 : Nat) (p q : List (List UInt8)) (w : World) (hla : Src w LA la.length lca la) (hlb : Src w LB lb.length lcb lb) (ha : la.length ≤ 80000000) (hb : lb.length ≤ 80000000)
    (hp : DSrc w A p.length c p) (hq : DSrc w A2 q.length c2 q) (hno : (climbAns n i la p).2 ≠ 0 ∨ (climbAns n i lb q).2 ≠ 0 ∨ (climbAns n i la p).1 ≠ (climbAns n i lb q).1 ∨ la = lb) :
    Calls Tryd.prog 44 #[.int .i64 n, .int .i64 i, .slice LA la.length lca, .slice LB lb.length lcb, .slice A p.length c, .slice A2 q.length c2] w fun e w' => e = .returned (.tuple #[.slice none 0 0, .slice none 0 0, .bool false]) ∧ Below w.heap.size w w' := by
  have HZ := hide (fun (r : List UInt8) (hr : r.length = 32) => show (Tryd.prog.info? 26).map (·.size) = some ((bc r).toArray).size by rw [dv_size _ hr]; exact Tryd.size26)
  have HC1 := hide (rClimb_any n i LA la lca A c p w hla ha hp)
  have HC2 := hide (fun (W : World) (h : Below w.heap.size w W) => rClimb_any n i LB lb lcb A2 c2 q W (hlb.below h) hb (hq.below h))
  have HD := hide (And.intro (climbAns_32 n i la p) (climbAns_32 n i lb q))
  have HCV := hide (fun (W : World) (h : Below w.heap.size w W) => And.intro (sb_conv (cap := lca) (hla.sb.below h)) (sb_conv (cap := lcb) (hlb.sb.below h)))
  have HNO := hide hno
  clear hla hlb hp hq hno
  generalize climbAns n i la p = r1 at *
  generalize climbAns n i lb q = r2 at *
  obtain ⟨d1, e1⟩ := r1
  obtain ⟨d2, e2⟩ := r2
  simp only at HC1 HC2 HD HNO
  go_enter Tryd.func44, Tryd.ntmps44
  go_wp2_with fail
  refine HC1.out.mono ?_
  rintro e w2 ⟨rfl, hb⟩
  have HB2 := hide hb
  clear hb HC1
  go_wp2_with (refine wpList_store_row rfl 26 (.tmp 15) (.tmp 30) rfl w2.heap.size (bc d1).toArray rfl rfl 26 _ (heap_alloc_new w2 _) (HZ.out _ HD.out.1) (by rw [dv_size _ HD.out.1]; rfl) (all_oneCell_toArray (bc_one d1)) ?_)
  refine name_world ?_
  intro W3 hW
  have e := hW.out
  have H3 := hide (box_set HB2.out d1 e)
  clear hW e HB2
  refine (HC2.out W3 H3.out.2.1).mono ?_
  rintro e w4 ⟨rfl, hb⟩
  have H4 := hide (And.intro (H3.out.1.below hb H3.out.1.lt) (below_one H3.out.2.1 hb))
  clear hb HC2 H3
  go_upto_region 3 with (refine wpList_store_row rfl 26 (.tmp 17) (.tmp 38) rfl w4.heap.size (bc d2).toArray rfl rfl 26 _ (heap_alloc_new w4 _) (HZ.out _ HD.out.2) (by rw [dv_size _ HD.out.2]; rfl) (all_oneCell_toArray (bc_one d2)) ?_)
  refine name_code ?_
  intro W5 hW
  have e := hW.out
  have H5 := hide (show Blk W5 w2.heap.size 26 (bc d1) ∧ Blk W5 w4.heap.size 26 (bc d2) ∧ Below w.heap.size w W5 from ⟨H4.out.1.below (box_set H4.out.2 d2 e).2.2 H4.out.1.lt, (box_set H4.out.2 d2 e).1, (box_set H4.out.2 d2 e).2.1⟩)
  clear hW e H4
  by_cases h1 : e1 = 0
  · subst h1
    by_cases h2 : e2 = 0
    · subst h2
      by_cases hd : d1 = d2
      · have hv : false = !(d1 == d2) := by simp [hd]
        have HVE := hide hv
        have hab : la = lb := by
          rcases HNO.out with h | h | h | h
          · exact absurd rfl h
          · exact absurd rfl h
          · exact absurd hd h
          · exact h
        have hst := str_is la lb hab
        obtain ⟨hv0, hv1⟩ := HCV.out W5 H5.out.2.2
        clear hd hv hab HNO
        generalize str la = s1 at *
        generalize str lb = s2 at *
        go_wp2_with (first | (refine wpList_load_w rfl 26 (.tmp 15) rfl w2.heap.size rfl 26 _ (0, 0) _ H5.out.1 Tryd.underlying26 rfl (HZ.out d1 HD.out.1) ?_) | (refine wpList_load_w rfl 26 (.tmp 17) rfl w4.heap.size rfl 26 _ (0, 0) _ H5.out.2.1 Tryd.underlying26 rfl (HZ.out d2 HD.out.2) ?_) | (refine wpList_neq2 rfl (.tmp 47) (.tmp 48) 26 rfl d1 d2 rfl rfl HD.out.1 HD.out.2 _ HVE.out ?_))
        exact bodyPost_ret (results_tmp3 rfl _ _ _) rfl ⟨rfl, H5.out.2.2⟩
      · have hv : true = !(d1 == d2) := by simp [hd]
        have HVE := hide hv
        clear hd hv HNO
        go_wp2_with (first | (refine wpList_load_w rfl 26 (.tmp 15) rfl w2.heap.size rfl 26 _ (0, 0) _ H5.out.1 Tryd.underlying26 rfl (HZ.out d1 HD.out.1) ?_) | (refine wpList_load_w rfl 26 (.tmp 17) rfl w4.heap.size rfl 26 _ (0, 0) _ H5.out.2.1 Tryd.underlying26 rfl (HZ.out d2 HD.out.2) ?_) | (refine wpList_neq2 rfl (.tmp 47) (.tmp 48) 26 rfl d1 d2 rfl rfl HD.out.1 HD.out.2 _ HVE.out ?_))
        exact bodyPost_ret (results_tmp3 rfl _ _ _) rfl ⟨rfl, H5.out.2.2⟩
    · have h2' : (e2 != 0) = true := by simp [h2]
      clear h2 HNO
      go_wp2_with fail
      exact bodyPost_ret (results_tmp3 rfl _ _ _) rfl ⟨rfl, H5.out.2.2⟩
  · have h1' : (e1 != 0) = true := by simp [h1]
    clear h1 HNO
    go_wp2_with fail
    exact bodyPost_ret (results_tmp3 rfl _ _ _) rfl ⟨rfl, H5.out.2.2⟩
end Go.Proofs.YthjfeodclphgaaaDoor

/- The reference's Collide: what it shows. -/
namespace Go.Proofs.YthjfeodclphgaaaDoor
open Go.RowKit Go.Shelf
set_option maxRecDepth 20000 in
set_option maxHeartbeats 6400000 in
theorem rcollide_some (n i : Nat) (LA LB : Option Addr) (lca lcb : Nat) (la lb : List UInt8) (A A2 : Option Addr) (c c2 : Nat) (p q : List (List UInt8)) (w : World) (hla : Src w LA la.length lca la) (hlb : Src w LB lb.length lcb lb) (ha : la.length ≤ 80000000) (hb : lb.length ≤ 80000000)
    (hp : DSrc w A p.length c p) (hq : DSrc w A2 q.length c2 q) (hi : i < n) (hn : n ≤ 65536) (hpl : p.length = lenR n i) (hql : q.length = lenR n i) (hc : climbR sha tagN n i (sha (tagL ++ la)) p = climbR sha tagN n i (sha (tagL ++ lb)) q) (hab : la ≠ lb) :
    Calls Tryd.prog 44 #[.int .i64 (n : Nat), .int .i64 (i : Nat), .slice LA la.length lca, .slice LB lb.length lcb, .slice A p.length c, .slice A2 q.length c2] w fun e w' => ∃ (X Y : Option Addr) (cx cy : Nat), e = .returned (.tuple #[.slice X (commonR sha tagN n i (tagL ++ la) (tagL ++ lb) p q).1.length cx, .slice Y (commonR sha tagN n i (tagL ++ la) (tagL ++ lb) p q).2.length cy, .bool true]) ∧
      Sb w' X (commonR sha tagN n i (tagL ++ la) (tagL ++ lb) p q).1 ∧ Sb w' Y (commonR sha tagN n i (tagL ++ la) (tagL ++ lb) p q).2 ∧ Below w.heap.size w w' := by
  have HZ := hide (fun (r : List UInt8) (hr : r.length = 32) => show (Tryd.prog.info? 26).map (·.size) = some ((bc r).toArray).size by rw [dv_size _ hr]; exact Tryd.size26)
  have HC1 := hide (rclimb_yes n i LA la lca A c p w hla ha hp hi hn hpl)
  have HC2 := hide (fun (W : World) (h : Below w.heap.size w W) => rclimb_yes n i LB lb lcb A2 c2 q W (hlb.below h) hb (hq.below h) hi hn hql)
  have HW1 := hide (fun (W : World) (h : Below w.heap.size w W) => rway_any n i LA la lca A c p W (hla.below h) ha (hp.below h) hi hn hpl)
  have HW2 := hide (fun (W : World) (h : Below w.heap.size w W) => rway_any n i LB lb lcb A2 c2 q W (hlb.below h) hb (hq.below h) hi hn hql)
  have HCV := hide (fun (W : World) (h : Below w.heap.size w W) => And.intro (sb_conv (cap := lca) (hla.sb.below h)) (sb_conv (cap := lcb) (hlb.sb.below h)))
  have HFC := hide (first_common sha tagN n i (tagL ++ la) (tagL ++ lb) p q hc)
  have HLE := hide (show (wyL sha tagN n i (sha (tagL ++ la)) p).length ≤ 16 ∧ (wyL sha tagN n i (sha (tagL ++ la)) p).length = (wyL sha tagN n i (sha (tagL ++ lb)) q).length from ⟨wyL_le sha tagN 16 n i _ p (by omega), wyL_len sha tagN n n i _ _ p q (Nat.le_refl _)⟩)
  have HD0 : Hid ((climbR sha tagN n i (sha (tagL ++ la)) p).length = 32) := by
    have h := climbAns_32 n i la p
    rw [climbAns_yes (by unfold leafB; simp; omega) (by simpa using hpl)] at h
    exact hide (by simpa using h)
  have HD := hide HD0.out
  clear HD0 hla hlb hp hq hpl hql hi hn
  rw [← hc] at HC2
  clear hc
  generalize climbR sha tagN n i (sha (tagL ++ la)) p = d1 at *
  have hst := str_ne la lb hab
  clear hab
  generalize commonR sha tagN n i (tagL ++ la) (tagL ++ lb) p q = R at *
  obtain ⟨l1, hl1⟩ : ∃ l1, l1 = (sha (tagL ++ la), tagL ++ la) :: wyL sha tagN n i (sha (tagL ++ la)) p := ⟨_, rfl⟩
  obtain ⟨l2, hl2⟩ : ∃ l2, l2 = (sha (tagL ++ lb), tagL ++ lb) :: wyL sha tagN n i (sha (tagL ++ lb)) q := ⟨_, rfl⟩
  rw [← hl1, ← hl2] at HFC
  have HLL := hide (show l1.length ≤ 17 ∧ l1.length = l2.length from by rw [hl1, hl2, List.length_cons, List.length_cons]; have := HLE.out; omega)
  have HV1 := hide (show ∀ W, Below w.heap.size w W → Calls Tryd.prog 73 #[.int .i64 (n : Nat), .int .i64 (i : Nat), .slice LA la.length lca, .slice A p.length c] W (WayP (l1.map (·.1)) (l1.map (·.2)) W) from fun W h => by rw [hl1]; exact HW1.out W h)
  have HV2 := hide (show ∀ W, Below w.heap.size w W → Calls Tryd.prog 73 #[.int .i64 (n : Nat), .int .i64 (i : Nat), .slice LB lb.length lcb, .slice A2 q.length c2] W (WayP (l2.map (·.1)) (l2.map (·.2)) W) from fun W h => by rw [hl2]; exact HW2.out W h)
  clear HW1 HW2 hl1 hl2 HLE
  go_enter Tryd.func44, Tryd.ntmps44
  go_wp2_with fail
  refine HC1.out.mono ?_
  rintro e w2 ⟨rfl, hb⟩
  have HB2 := hide hb
  clear hb HC1
  go_wp2_with (refine wpList_store_row rfl 26 (.tmp 15) (.tmp 30) rfl w2.heap.size (bc d1).toArray rfl rfl 26 _ (heap_alloc_new w2 _) (HZ.out _ HD.out) (by rw [dv_size _ HD.out]; rfl) (all_oneCell_toArray (bc_one d1)) ?_)
  refine name_world ?_
  intro W3 hW
  have e := hW.out
  have H3 := hide (box_set HB2.out d1 e)
  clear hW e HB2
  refine (HC2.out W3 H3.out.2.1).mono ?_
  rintro e w4 ⟨rfl, hb⟩
  have H4 := hide (And.intro (H3.out.1.below hb H3.out.1.lt) (below_one H3.out.2.1 hb))
  clear hb HC2 H3
  go_upto_region 3 with (refine wpList_store_row rfl 26 (.tmp 17) (.tmp 38) rfl w4.heap.size (bc d1).toArray rfl rfl 26 _ (heap_alloc_new w4 _) (HZ.out _ HD.out) (by rw [dv_size _ HD.out]; rfl) (all_oneCell_toArray (bc_one d1)) ?_)
  refine name_code ?_
  intro W5 hW
  have e := hW.out
  have H5 := hide (show Blk W5 w2.heap.size 26 (bc d1) ∧ Blk W5 w4.heap.size 26 (bc d1) ∧ Below w.heap.size w W5 from ⟨H4.out.1.below (box_set H4.out.2 d1 e).2.2 H4.out.1.lt, (box_set H4.out.2 d1 e).1, (box_set H4.out.2 d1 e).2.1⟩)
  clear hW e H4
  have hv : false = !(d1 == d1) := by simp
  have HVE := hide hv
  obtain ⟨hv0, hv1⟩ := HCV.out W5 H5.out.2.2
  clear hv HCV
  generalize str la = s1 at *
  generalize str lb = s2 at *
  go_wp2_with (first | (refine wpList_load_w rfl 26 (.tmp 15) rfl w2.heap.size rfl 26 _ (0, 0) _ H5.out.1 Tryd.underlying26 rfl (HZ.out d1 HD.out) ?_) | (refine wpList_load_w rfl 26 (.tmp 17) rfl w4.heap.size rfl 26 _ (0, 0) _ H5.out.2.1 Tryd.underlying26 rfl (HZ.out d1 HD.out) ?_) | (refine wpList_neq2 rfl (.tmp 47) (.tmp 48) 26 rfl d1 d1 rfl rfl HD.out HD.out _ HVE.out ?_))
  clear hv0 hv1 hst HVE
  refine (HV1.out W5 H5.out.2.2).mono ?_
  rintro e w6 ⟨g1, k1, g2, k2, vs1, rfl, hM1⟩
  have H6 := hide (And.intro hM1 (below_one H5.out.2.2 hM1.bel))
  clear hM1 HV1 H5
  go_wp2_with fail
  refine (HV2.out w6 H6.out.2).mono ?_
  rintro e w7 ⟨g3, k3, g4, k4, vs2, rfl, hM2⟩
  have H7 := hide (And.intro (H6.out.1.below hM2.bel) (And.intro hM2 (below_one H6.out.2 hM2.bel)))
  clear hM2 HV2 H6
  simp only [List.length_map] at H7 ⊢
  go_wp2_with fail
  go_loopw [23] (fun kv wr => ∃ k : Nat, kv = .int .i64 (k : Nat) ∧ k ≤ l1.length ∧ Hid (firstEq (l1.drop k) (l2.drop k) = some R) ∧ Hid (Below w7.heap.size w7 wr)) (fun kv _ => l1.length - (intOf kv).toNat)
  case atStart => exact ⟨0, rfl, by omega, hide (by rw [List.drop_zero, List.drop_zero]; exact HFC.out), hide (Below.refl _ _)⟩
  case round =>
    obtain ⟨k, rfl, hk, HF, HB⟩ := hrel
    have hlt : k < l1.length := by
      rcases Nat.lt_or_ge k l1.length with h | h
      · exact h
      · have h2 := HF.out
        rw [List.drop_eq_nil_of_le h] at h2
        simp [firstEq] at h2
    have hl17 : l1.length ≤ 17 := HLL.out.1
    have hlt2 : k < l2.length := by have := HLL.out.2; omega
    have hltI : (k : Int) < (l1.length : Int) := by omega
    have hltJ : (k : Int) < (l2.length : Int) := by omega
    have HX := hide (show ∀ W', Below w7.heap.size w7 W' → W'.rangeAt g1 (k * 32) (bc (l1[k]).1) from fun W' h => by
      have hM := H7.out.1.below h
      obtain ⟨g', eg, _, _, hB⟩ := row_form (by simpa using hM.rl) hM.d32 (by simp; omega)
      cases eg
      have h := bs_range (ds_el hM.d32 hB (by simpa using hlt))
      rw [List.getElem_map, Nat.zero_add] at h
      exact h)
    have HY := hide (show ∀ W', Below w7.heap.size w7 W' → W'.rangeAt g3 (k * 32) (bc (l2[k]).1) from fun W' h => by
      have hM := H7.out.2.1.below h
      obtain ⟨g', eg, _, _, hB⟩ := row_form (by simpa using hM.rl) hM.d32 (by simp; omega)
      cases eg
      have h := bs_range (ds_el hM.d32 hB (by simpa using hlt2))
      rw [List.getElem_map, Nat.zero_add] at h
      exact h)
    have HXL := hide (show (l1[k]).1.length = 32 from H7.out.1.d32 _ (List.mem_map.2 ⟨_, List.getElem_mem hlt, rfl⟩))
    have HYL := hide (show (l2[k]).1.length = 32 from H7.out.2.1.d32 _ (List.mem_map.2 ⟨_, List.getElem_mem hlt2, rfl⟩))
    have HDR := hide (And.intro (List.drop_eq_getElem_cons hlt) (List.drop_eq_getElem_cons hlt2))
    generalize hx : l1[k] = x at *
    generalize hy : l2[k] = y at *
    have HXY := hide (And.intro hx hy)
    clear hx hy
    have HZX := hide (show (Tryd.prog.info? 26).map (·.size) = some (bc x.1).length by rw [bc_len, HXL.out]; exact Tryd.size26)
    have HZY := hide (show (Tryd.prog.info? 26).map (·.size) = some (bc y.1).length by rw [bc_len, HYL.out]; exact Tryd.size26)
    go_wp2_with fail
    refine wp_region_plan4 (fun W' => W'.rangeAt g1 (k * 32) (bc x.1) ∧ W'.rangeAt g3 (k * 32) (bc y.1)) (.take 0 (.take 1 (.take 2 (.take 4 (.take 5 (.take 6 (.take 3 (.take 7 (.take 8 .done))))))))) (by kernel_rfl) (by kernel_rfl) ⟨HX.out _ HB.out.drew, HY.out _ HB.out.drew⟩ ?_
    (refine plan4_take (o := ?_) (v := ?_) (by simp only [List.getElem?_toArray, List.getElem?_cons_zero]; rfl) (yields_run (by rfl) ?_) ?_; rotate_left; (focus (intro w' hw'; go_simp <;> with_reducible rfl)); (simp only [Act.put, List.setIfInBounds_toArray, List.set_cons_zero, List.set_cons_succ]))
    (refine plan4_take (o := ?_) (v := ?_) (by simp only [List.getElem?_toArray, List.getElem?_cons_succ, List.getElem?_cons_zero]; rfl) (yields_run (by rfl) ?_) ?_; rotate_left; (focus (intro w' hw'; go_simp <;> with_reducible rfl)); (simp only [Act.put, List.setIfInBounds_toArray, List.set_cons_zero, List.set_cons_succ]))
    (refine plan4_take (o := ?_) (v := ?_) (by simp only [List.getElem?_toArray, List.getElem?_cons_succ, List.getElem?_cons_zero]; rfl) (yields_run (by rfl) ?_) ?_; rotate_left; (focus (intro w' hw'; go_simp <;> with_reducible rfl)); (simp only [Act.put, List.setIfInBounds_toArray, List.set_cons_zero, List.set_cons_succ]))
    (refine plan4_take (o := ?_) (v := ?_) (by simp only [List.getElem?_toArray, List.getElem?_cons_succ, List.getElem?_cons_zero]; rfl) (yields_run (by rfl) ?_) ?_; rotate_left; (focus (intro w' hw'; go_simp <;> with_reducible rfl)); (simp only [Act.put, List.setIfInBounds_toArray, List.set_cons_zero, List.set_cons_succ]))
    (refine plan4_take (o := ?_) (v := ?_) (by simp only [List.getElem?_toArray, List.getElem?_cons_succ, List.getElem?_cons_zero]; rfl) (yields_run (by rfl) ?_) ?_; rotate_left; (focus (intro w' hw'; go_simp <;> with_reducible rfl)); (simp only [Act.put, List.setIfInBounds_toArray, List.set_cons_zero, List.set_cons_succ]))
    (refine plan4_take (o := ?_) (v := ?_) (by simp only [List.getElem?_toArray, List.getElem?_cons_succ, List.getElem?_cons_zero]; rfl) (yields_run (by rfl) ?_) ?_; rotate_left; (focus (intro w' hw'; go_simp <;> with_reducible rfl)); (simp only [Act.put, List.setIfInBounds_toArray, List.set_cons_zero, List.set_cons_succ]))
    (refine plan4_take (o := ?_) (by simp only [List.getElem?_toArray, List.getElem?_cons_succ, List.getElem?_cons_zero]; rfl) (yieldsIf_load_mid (by rfl) 26 (.tmp 82) rfl g1 (k * 32) rfl (bc x.1) _ (fun _ h => h.1) Tryd.underlying26 rfl HZX.out) ?_; (simp only [Act.put, List.setIfInBounds_toArray, List.set_cons_zero, List.set_cons_succ]))
    (refine plan4_take (o := ?_) (by simp only [List.getElem?_toArray, List.getElem?_cons_succ, List.getElem?_cons_zero]; rfl) (yieldsIf_load_mid (by rfl) 26 (.tmp 86) rfl g3 (k * 32) rfl (bc y.1) _ (fun _ h => h.2) Tryd.underlying26 rfl HZY.out) ?_; (simp only [Act.put, List.setIfInBounds_toArray, List.set_cons_zero, List.set_cons_succ]))
    (refine plan4_take (o := ?_) (by simp only [List.getElem?_toArray, List.getElem?_cons_succ, List.getElem?_cons_zero]; rfl) (yields_eql (by rfl) (.tmp 83) (.tmp 87) 26 rfl x.1 y.1 rfl rfl HXL.out HYL.out _ rfl) ?_; (simp only [Act.put, List.setIfInBounds_toArray, List.set_cons_zero, List.set_cons_succ]))
    refine plan4_done ?_
    by_cases he : x.1 = y.1
    · have hv : (x.1 == y.1) = true := by simp [he]
      obtain rfl : R = (x.2, y.2) := by
        have h := HF.out
        rw [HDR.out.1, HDR.out.2, first_eq he] at h
        exact (Option.some.inj h).symm
      have hM1 := H7.out.1.below (HB.out.drew.drew)
      have hM2 := H7.out.2.1.below (HB.out.drew.drew)
      have hv1 : k < vs1.length := by rw [hM1.tx.len]; simpa using hlt
      have hv2 : k < vs2.length := by rw [hM2.tx.len]; simpa using hlt2
      have ht1 := hM1.tx.get k hv1 (by simpa using hlt)
      have ht2 := hM2.tx.get k hv2 (by simpa using hlt2)
      rw [List.getElem_map, HXY.out.1] at ht1
      rw [List.getElem_map, HXY.out.2] at ht2
      obtain ⟨X, cx, ex, hsx, _, _⟩ := ht1
      obtain ⟨Y, cy, ey, hsy, _, _⟩ := ht2
      have HC := hide (show wr.drew.drew.cell? ⟨g2, k, none⟩ = some (.slice X x.2.length cx) ∧ wr.drew.drew.cell? ⟨g4, k, none⟩ = some (.slice Y y.2.length cy) from by
        have q1 := hM1.rt
        have q2 := hM2.rt
        rw [List.length_map] at q1 q2
        have c1 := World.ownsRow.cellAt q1 k (by omega)
        have c2 := World.ownsRow.cellAt q2 k (by omega)
        refine ⟨c1.trans ?_, c2.trans ?_⟩
        · rw [List.getElem?_eq_getElem hv1, ex]
        · rw [List.getElem?_eq_getElem hv2, ey])
      have HSX := hide (And.intro hsx hsy)
      have HBE := hide (show Below w.heap.size w wr.drew.drew from below_one H7.out.2.2 (HB.out.drew.drew))
      clear hM1 hM2 hv1 hv2 ex ey hsx hsy
      rw [hv]
      clear he hv
      go_wp2_with fail
      refine wp_region_plan4 (fun W' => W'.cell? ⟨g2, k, none⟩ = some (.slice X x.2.length cx) ∧ W'.cell? ⟨g4, k, none⟩ = some (.slice Y y.2.length cy)) (.take 0 (.take 1 (.take 2 (.take 4 (.take 5 (.take 6 (.take 3 (.take 7 (.run 8 (.run 9 (.run 10 .done))))))))))) (by kernel_rfl) (by kernel_rfl) HC.out ?_
      (refine plan4_take (o := ?_) (v := ?_) (by simp only [List.getElem?_toArray, List.getElem?_cons_zero]; rfl) (yields_run (by rfl) ?_) ?_; rotate_left; (focus (intro w' hw'; obtain ⟨s0, s1⟩ := hw'; go_simp <;> with_reducible rfl)); (simp only [Act.put, List.setIfInBounds_toArray, List.set_cons_zero, List.set_cons_succ]))
      (refine plan4_take (o := ?_) (v := ?_) (by simp only [List.getElem?_toArray, List.getElem?_cons_succ, List.getElem?_cons_zero]; rfl) (yields_run (by rfl) ?_) ?_; rotate_left; (focus (intro w' hw'; obtain ⟨s0, s1⟩ := hw'; go_simp <;> with_reducible rfl)); (simp only [Act.put, List.setIfInBounds_toArray, List.set_cons_zero, List.set_cons_succ]))
      (refine plan4_take (o := ?_) (v := ?_) (by simp only [List.getElem?_toArray, List.getElem?_cons_succ, List.getElem?_cons_zero]; rfl) (yields_run (by rfl) ?_) ?_; rotate_left; (focus (intro w' hw'; obtain ⟨s0, s1⟩ := hw'; go_simp <;> with_reducible rfl)); (simp only [Act.put, List.setIfInBounds_toArray, List.set_cons_zero, List.set_cons_succ]))
      (refine plan4_take (o := ?_) (v := ?_) (by simp only [List.getElem?_toArray, List.getElem?_cons_succ, List.getElem?_cons_zero]; rfl) (yields_run (by rfl) ?_) ?_; rotate_left; (focus (intro w' hw'; obtain ⟨s0, s1⟩ := hw'; go_simp <;> with_reducible rfl)); (simp only [Act.put, List.setIfInBounds_toArray, List.set_cons_zero, List.set_cons_succ]))
      (refine plan4_take (o := ?_) (v := ?_) (by simp only [List.getElem?_toArray, List.getElem?_cons_succ, List.getElem?_cons_zero]; rfl) (yields_run (by rfl) ?_) ?_; rotate_left; (focus (intro w' hw'; obtain ⟨s0, s1⟩ := hw'; go_simp <;> with_reducible rfl)); (simp only [Act.put, List.setIfInBounds_toArray, List.set_cons_zero, List.set_cons_succ]))
      (refine plan4_take (o := ?_) (v := ?_) (by simp only [List.getElem?_toArray, List.getElem?_cons_succ, List.getElem?_cons_zero]; rfl) (yields_run (by rfl) ?_) ?_; rotate_left; (focus (intro w' hw'; obtain ⟨s0, s1⟩ := hw'; go_simp <;> with_reducible rfl)); (simp only [Act.put, List.setIfInBounds_toArray, List.set_cons_zero, List.set_cons_succ]))
      (refine plan4_take (o := ?_) (v := ?_) (by simp only [List.getElem?_toArray, List.getElem?_cons_succ, List.getElem?_cons_zero]; rfl) (yields_run (by rfl) ?_) ?_; rotate_left; (focus (intro w' hw'; obtain ⟨s0, s1⟩ := hw'; go_simp <;> with_reducible rfl)); (simp only [Act.put, List.setIfInBounds_toArray, List.set_cons_zero, List.set_cons_succ]))
      (refine plan4_take (o := ?_) (v := ?_) (by simp only [List.getElem?_toArray, List.getElem?_cons_succ, List.getElem?_cons_zero]; rfl) (yields_run (by rfl) ?_) ?_; rotate_left; (focus (intro w' hw'; obtain ⟨s0, s1⟩ := hw'; go_simp <;> with_reducible rfl)); (simp only [Act.put, List.setIfInBounds_toArray, List.set_cons_zero, List.set_cons_succ]))
      refine plan4_run (o := ?_) (by simp only [List.getElem?_toArray, List.getElem?_cons_succ, List.getElem?_cons_zero]; rfl) ?_
      intro R' HR
      go_wp2_with fail
      refine HR.out _ _ ⟨HC.out.1, HC.out.2⟩ ?_
      clear HR
      refine plan4_run (o := ?_) (by simp only [List.getElem?_toArray, List.getElem?_cons_succ, List.getElem?_cons_zero]; rfl) ?_
      intro R' HR
      go_wp2_with fail
      refine HR.out _ _ ⟨HC.out.1, HC.out.2⟩ ?_
      clear HR
      refine plan4_run (o := ?_) (by simp only [List.getElem?_toArray, List.getElem?_cons_succ, List.getElem?_cons_zero]; rfl) ?_
      intro R' HR
      go_wp2_with fail
      refine HR.out _ _ ⟨HC.out.1, HC.out.2⟩ ?_
      clear HR
      refine plan4_done ?_
      go_wp2_with fail
      refine bodyPost_ret (results_tmp3 rfl _ _ _) rfl ?_
      exact ⟨X, Y, ⟨cx, cy, rfl⟩, HSX.out.1, HSX.out.2, HBE.out⟩
    · have hv : (x.1 == y.1) = false := by simp [he]
      have HF2 := hide (show firstEq (l1.drop (k + 1)) (l2.drop (k + 1)) = some R from by
        have h := HF.out
        rw [HDR.out.1, HDR.out.2, first_ne he] at h
        exact h)
      rw [hv]
      clear he hv
      go_wp2_with fail
      go_roundw
      case rel => exact ⟨k + 1, by go_num, by omega, HF2, hide HB.out.drew⟩
      case measure => simp [intOf]; omega
end Go.Proofs.YthjfeodclphgaaaDoor

/- Collide, the program's and the reference's: both answer collAns. -/
namespace Go.Proofs.YthjfeodclphgaaaDoor
open Go.RowKit Go.Shelf
/-- What both answer, nothing shown or something. -/
def CoU (R : Option (List UInt8 × List UInt8)) (w : World) (e : Ending) (w' : World) : Prop := ∃ (A B : Option Addr) (ca cb : Nat), e = .returned (.tuple #[.slice A (R.getD ([], [])).1.length ca, .slice B (R.getD ([], [])).2.length cb, .bool R.isSome]) ∧ Sb w' A (R.getD ([], [])).1 ∧ Sb w' B (R.getD ([], [])).2 ∧ Below w.heap.size w w'
theorem cou_of {R : Option (List UInt8 × List UInt8)} {w w' : World} {e : Ending} (h : CoP R w e w') : CoU R w e w' := by
  cases R with
  | none =>
    obtain ⟨rfl, hb⟩ := h
    exact ⟨none, none, 0, 0, rfl, fun h => absurd rfl h, fun h => absurd rfl h, hb⟩
  | some R0 =>
    obtain ⟨A, B, ca, cb, rfl, a1, a2, _, _, _, _, hb⟩ := h
    exact ⟨A, B, ca, cb, rfl, a1, a2, hb⟩
theorem leaf_nat {n i : Int} (h : leafB n i = true) : ∃ n' i' : Nat, n = n' ∧ i = i' ∧ i' < n' ∧ n' ≤ 65536 := by
  unfold leafB at h
  simp only [Bool.and_eq_true, decide_eq_true_eq] at h
  exact ⟨n.toNat, i.toNat, by omega, by omega, by omega, by omega⟩
theorem rCollide_any (n i : Int) (LA LB : Option Addr) (lca lcb : Nat) (la lb : List UInt8) (A A2 : Option Addr) (c c2 : Nat) (p q : List (List UInt8)) (w : World) (hla : Src w LA la.length lca la) (hlb : Src w LB lb.length lcb lb) (ha : la.length ≤ 80000000) (hb : lb.length ≤ 80000000)
    (hp : DSrc w A p.length c p) (hq : DSrc w A2 q.length c2 q) :
    Calls Tryd.prog 44 #[.int .i64 n, .int .i64 i, .slice LA la.length lca, .slice LB lb.length lcb, .slice A p.length c, .slice A2 q.length c2] w (CoU (collAns n i la lb p q) w) := by
  by_cases hno : (climbAns n i la p).2 ≠ 0 ∨ (climbAns n i lb q).2 ≠ 0 ∨ (climbAns n i la p).1 ≠ (climbAns n i lb q).1 ∨ la = lb
  · have e : collAns n i la lb p q = none := if_pos hno
    rw [e]
    exact (rcollide_none n i LA LB lca lcb la lb A A2 c c2 p q w hla hlb ha hb hp hq hno).mono fun e w' h => cou_of (R := none) h
  · have e : collAns n i la lb p q = some (commonR sha tagN n.toNat i.toNat (tagL ++ la) (tagL ++ lb) p q) := if_neg hno
    rw [e]
    simp only [not_or, Decidable.not_not] at hno
    obtain ⟨h1, h2, h3, h4⟩ := hno
    obtain ⟨l1, l2⟩ := climb_zero h1
    obtain ⟨_, l3⟩ := climb_zero h2
    rw [climbAns_yes l1 l2, climbAns_yes l1 l3] at h3
    obtain ⟨n', i', rfl, rfl, hi, hn⟩ := leaf_nat l1
    simp only [Int.toNat_natCast] at h3 l2 l3 ⊢
    exact (rcollide_some n' i' LA LB lca lcb la lb A A2 c c2 p q w hla hlb ha hb hp hq hi hn l2 l3 h3 h4).mono fun e w' ⟨X, Y, cx, cy, h5, h6, h7, h8⟩ => ⟨X, Y, cx, cy, h5, h6, h7, h8⟩
end Go.Proofs.YthjfeodclphgaaaDoor
