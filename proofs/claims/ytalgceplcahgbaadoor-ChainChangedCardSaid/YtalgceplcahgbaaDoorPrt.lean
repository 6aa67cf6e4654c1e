/- Part. -/
import Derived.Test.YtalgceplcahgbaaDoorFir
import Derived.BigQuiet
namespace Go.Proofs.YtalgceplcahgbaaDoor
open Go.RowKit Go.Shelf

theorem firstD_take (a b : List Ln) (n : Nat) : ∀ k, k ≤ n → firstD (a.take n) b k = firstD a b k
  | 0, _ => rfl
  | k + 1, hk => by
    simp only [firstD, firstD_take a b n k (by omega), List.getElem?_take, if_pos (show k < n by omega)]
/-- What Part answers. -/
def partA (a b : List Ln) : Int × Bool × Int :=
  if chkA hd0 hdL a ≠ 0 then (0, false, chkA hd0 hdL a)
  else if chkA hd0 hdL b ≠ 0 then (0, false, chkA hd0 hdL b)
  else if 0 < a.length ∧ 0 < b.length ∧ (a.getD 0 ⟨0, 0, [], []⟩).node ≠ (b.getD 0 ⟨0, 0, [], []⟩).node then (0, false, 80)
  else ((fdA (firstD a b (min a.length b.length))).1, (fdA (firstD a b (min a.length b.length))).2, 0)

theorem twoB (w : World) (c0 c1 : List Value) (t0 t1 : Nat) {W : World} (hW : W = (w.alloc (.cells c0.toArray t0)).alloc (.cells c1.toArray t1)) :
    Blk W w.heap.size t0 c0 ∧ Blk W (w.heap.size + 1) t1 c1 ∧ W.heap.size = w.heap.size + 2 ∧ Below w.heap.size w W := by
  subst hW
  generalize h1 : w.alloc (.cells c0.toArray t0) = w1
  have z1 : w1.heap.size = w.heap.size + 1 := by rw [← h1]; simp
  have b1 := h1 ▸ Blk.new w t0 c0
  have B1 := h1 ▸ below_new w (.cells c0.toArray t0)
  generalize h2 : w1.alloc (.cells c1.toArray t1) = w2
  have z2 : w2.heap.size = w.heap.size + 2 := by rw [← h2]; simp [z1]
  have b2 := h2 ▸ Blk.new w1 t1 c1
  have B2 := h2 ▸ below_new w1 (.cells c1.toArray t1)
  rw [z1] at b2
  exact ⟨b1.below B2 (by omega), b2, z2, below_one B1 B2⟩
set_option maxRecDepth 20000 in
set_option maxHeartbeats 3200000 in
theorem part_any (A B : Option Addr) (l m : List Lr) (ca cb : Nat) (w : World) (hT : Tab w) (hl : Lks w A l) (hm : Lks w B m) (hlc : l.length ≤ ca) (hcx : ca ≤ 9223372036854775807) (hmc : m.length ≤ cb) (hcy : cb ≤ 9223372036854775807) (hs : Short l) (ht : Short m) (hA : A = none → ca = 0) :
    Calls Tryd.prog 41 #[.slice A l.length ca, .slice B m.length cb] w fun e w' => e = .returned (.tuple #[.int .i64 (partA (lnks l) (lnks m)).1, .bool (partA (lnks l) (lnks m)).2.1, .int .i64 (partA (lnks l) (lnks m)).2.2]) ∧ Below w.heap.size w w' := by
  have HT := hide hT
  have HL := hide hl
  have HM := hide hm
  have HS := hide (And.intro hs ht)
  have HA := hide hA
  clear hT hl hm hs ht hA
  generalize hR : partA (lnks l) (lnks m) = R
  have HR := hide hR
  clear hR
  go_enter Tryd.func41, Tryd.ntmps41
  go_wp2_with fail
  refine name_code ?_
  intro V hV
  obtain ⟨p0, p1, hz, hB⟩ := twoB w [.slice B m.length cb] [.slice A l.length ca, .slice B m.length cb] 49 49 hV.out
  have HX := hide p0
  have HY := hide p1
  have HZ := hide hz
  have HB := hide hB
  clear p0 p1 hz hB hV
  go_loopw [14] (fun i wr => ∃ k : Nat, k ≤ 2 ∧ i = .int .i64 k ∧ Hid (Below V.heap.size V wr) ∧ Hid (1 ≤ k → chkA hd0 hdL (lnks l) = 0) ∧ Hid (2 ≤ k → chkA hd0 hdL (lnks m) = 0)) (fun i _ => 2 - (intOf i).toNat)
  case atStart => exact ⟨0, by omega, rfl, hide (Below.refl _ _), hide (fun h => absurd h (by omega)), hide (fun h => absurd h (by omega))⟩
  case round =>
    obtain ⟨k, hk, rfl, hb, hq1, hq2⟩ := hrel
    have HBR := hide (below_one HB.out hb.out)
    have cX : wr.cell? ⟨w.heap.size, 0, none⟩ = some (.slice B m.length cb) := (HX.out.below hb.out HX.out.lt).cell 0
    have cY0 : wr.cell? ⟨w.heap.size + 1, 0, none⟩ = some (.slice A l.length ca) := (HY.out.below hb.out HY.out.lt).cell 0
    have cY1 : wr.cell? ⟨w.heap.size + 1, 1, none⟩ = some (.slice B m.length cb) := (HY.out.below hb.out HY.out.lt).cell 1
    rcases (show k = 0 ∨ k = 1 ∨ k = 2 by omega) with rfl | rfl | rfl
    · have HC := hide (check_any A l ca wr (HT.out.below HBR.out) (HL.out.below HBR.out) hlc hcx HS.out.1)
      generalize hv : chkA hd0 hdL (lnks l) = v at *
      by_cases h0 : v = 0
      · subst h0
        go_wp2_with fail
        refine HC.out.mono ?_
        rintro e w2 ⟨rfl, hb2⟩
        have HB2 := hide (below_one hb.out hb2)
        clear hb2
        go_wp2_with fail
        go_roundw
        case rel => exact ⟨1, by omega, by go_num, HB2, hide (fun _ => by simp), hide (fun h => absurd h (by omega))⟩
        case measure => simp [intOf]
      · have h0b : (v != 0) = true := by simpa using h0
        have HP := hide (show partA (lnks l) (lnks m) = (0, false, v) by unfold partA; rw [hv, if_pos h0])
        go_wp2_with fail
        refine HC.out.mono ?_
        rintro e w2 ⟨rfl, hb2⟩
        have HB2 := hide (below_one HBR.out hb2)
        clear hb2
        go_wp2_with fail
        go_ret3
        exact ⟨by rw [← HR.out, HP.out]; rfl, HB2.out⟩
    · have HC := hide (check_any B m cb wr (HT.out.below HBR.out) (HM.out.below HBR.out) hmc hcy HS.out.2)
      have HQ1 := hide (hq1.out (Nat.le_refl _))
      generalize hv : chkA hd0 hdL (lnks m) = v at *
      by_cases h0 : v = 0
      · subst h0
        go_wp2_with fail
        refine HC.out.mono ?_
        rintro e w2 ⟨rfl, hb2⟩
        have HB2 := hide (below_one hb.out hb2)
        clear hb2
        go_wp2_with fail
        go_roundw
        case rel => exact ⟨2, by omega, by go_num, HB2, hide (fun _ => HQ1.out), hide (fun _ => by simp)⟩
        case measure => simp [intOf]
      · have h0b : (v != 0) = true := by simpa using h0
        have HP := hide (show partA (lnks l) (lnks m) = (0, false, v) by unfold partA; rw [HQ1.out, if_neg (by simp), hv, if_pos h0])
        go_wp2_with fail
        refine HC.out.mono ?_
        rintro e w2 ⟨rfl, hb2⟩
        have HB2 := hide (below_one HBR.out hb2)
        clear hb2
        go_wp2_with fail
        go_ret3
        exact ⟨by rw [← HR.out, HP.out]; rfl, HB2.out⟩
    · have HPA := hide (show partA (lnks l) (lnks m) = if 0 < (lnks l).length ∧ 0 < (lnks m).length ∧ ((lnks l).getD 0 ⟨0, 0, [], []⟩).node ≠ ((lnks m).getD 0 ⟨0, 0, [], []⟩).node then (0, false, 80) else ((fdA (firstD (lnks l) (lnks m) (min (lnks l).length (lnks m).length))).1, (fdA (firstD (lnks l) (lnks m) (min (lnks l).length (lnks m).length))).2, 0) by
        unfold partA
        rw [hq1.out (by omega), if_neg (by simp), hq2.out (by omega), if_neg (by simp)])
      clear hq1 hq2
      have HLL := hide (And.intro (lnks_len l) (lnks_len m))
      have HXL := hide (And.intro (HX.out.below hb.out HX.out.lt) (HL.out.below HBR.out))
      have HXM := hide (HM.out.below HBR.out)
      have HTL := hide (show (l.take (min l.length m.length)).length = min l.length m.length by rw [List.length_take]; omega)
      by_cases hl0 : l = []
      · have hl1 : ¬ (0 : Int) < ((l.length : Nat) : Int) := by subst hl0; simp
        have hl2 : decide (0 < l.length) = false := decide_eq_false (by omega)
        have HPF := hide (show partA (lnks l) (lnks m) = ((fdA (firstD (lnks l) (lnks m) (min l.length m.length))).1, (fdA (firstD (lnks l) (lnks m) (min l.length m.length))).2, 0) by
          rw [HPA.out, if_neg (by rw [HLL.out.1]; intro h; have := h.1; omega), HLL.out.1, HLL.out.2])
        clear hl0
        go_wp2_with fail
        go_quiet (fail)
        go_wp2_with fail
        have HBD := hide (below_drewN HBR.out nq)
        have HFA := hide (first_any _ _ (l.take (min l.length m.length)) m ca cb w.heap.size (wr.drewN nq) ((HL.out.below HBD.out).take _) (HM.out.below HBD.out) (by rw [List.length_take]; omega) (by omega) ((HX.out.below (below_drewN hb.out nq) HX.out.lt).cell 0) ((HX.out.below (below_drewN hb.out nq) HX.out.lt).lt))
        rw [HTL.out, show lnks (l.take (min l.length m.length)) = (lnks l).take (min l.length m.length) from by simp [lnks], firstD_take _ _ _ _ (Nat.le_refl _)] at HFA
        rw [show (min ((l.length : Nat) : Int) ((m.length : Nat) : Int)).toNat = min l.length m.length by omega]
        refine HFA.out.mono ?_
        rintro e w3 ⟨rfl, hb3⟩
        have HB3 := hide (below_one HBD.out hb3)
        clear hb3
        go_wp2_with fail
        go_ret3
        exact ⟨by rw [← HR.out, HPF.out]; rfl, HB3.out⟩
      · have hl1 : (0 : Int) < ((l.length : Nat) : Int) := by have := List.length_pos_iff.2 hl0; omega
        have hl2 : decide (0 < l.length) = true := decide_eq_true (by omega)
        have hl3 : 0 < l.length := by omega
        by_cases hm0 : m = []
        · have hm1 : ¬ (0 : Int) < ((m.length : Nat) : Int) := by subst hm0; simp
          have hm2 : decide (0 < m.length) = false := decide_eq_false (by omega)
          have HPF := hide (show partA (lnks l) (lnks m) = ((fdA (firstD (lnks l) (lnks m) (min l.length m.length))).1, (fdA (firstD (lnks l) (lnks m) (min l.length m.length))).2, 0) by
            rw [HPA.out, if_neg (by rw [HLL.out.2]; intro h; have := h.2.1; omega), HLL.out.1, HLL.out.2])
          clear hl0 hm0
          go_wp2_with fail
          go_quiet (fail)
          go_wp2_with fail
          have HBD := hide (below_drewN HBR.out nq)
          have HFA := hide (first_any _ _ (l.take (min l.length m.length)) m ca cb w.heap.size (wr.drewN nq) ((HL.out.below HBD.out).take _) (HM.out.below HBD.out) (by rw [List.length_take]; omega) (by omega) ((HX.out.below (below_drewN hb.out nq) HX.out.lt).cell 0) ((HX.out.below (below_drewN hb.out nq) HX.out.lt).lt))
          rw [HTL.out, show lnks (l.take (min l.length m.length)) = (lnks l).take (min l.length m.length) from by simp [lnks], firstD_take _ _ _ _ (Nat.le_refl _)] at HFA
          rw [show (min ((l.length : Nat) : Int) ((m.length : Nat) : Int)).toNat = min l.length m.length by omega]
          refine HFA.out.mono ?_
          rintro e w3 ⟨rfl, hb3⟩
          have HB3 := hide (below_one HBD.out hb3)
          clear hb3
          go_wp2_with fail
          go_ret3
          exact ⟨by rw [← HR.out, HPF.out]; rfl, HB3.out⟩
        · have hm1 : (0 : Int) < ((m.length : Nat) : Int) := by have := List.length_pos_iff.2 hm0; omega
          have hm2 : decide (0 < m.length) = true := decide_eq_true (by omega)
          have hm3 : 0 < m.length := by omega
          obtain ⟨b, o, hAe, hz0, hrg, hz1⟩ := HXL.out.2.at (List.length_pos_iff.2 hl0)
          obtain ⟨b', o', hBe, hz2, hrg', hz3⟩ := HXM.out.at (List.length_pos_iff.2 hm0)
          have c0 : wr.cell? ⟨b, o, none⟩ = some (.int .i64 (l[0]'(List.length_pos_iff.2 hl0)).x.node) := by
            have := hrg 0 _ (Lr.c0 _)
            simpa using this
          have c1 : wr.cell? ⟨b', o', none⟩ = some (.int .i64 (m[0]'(List.length_pos_iff.2 hm0)).x.node) := by
            have := hrg' 0 _ (Lr.c0 _)
            simpa using this
          have hn1 : ((lnks l).getD 0 ⟨0, 0, [], []⟩).node = (l[0]'(List.length_pos_iff.2 hl0)).x.node := by
            cases l with
            | nil => exact absurd rfl hl0
            | cons r l => rfl
          have hn2 : ((lnks m).getD 0 ⟨0, 0, [], []⟩).node = (m[0]'(List.length_pos_iff.2 hm0)).x.node := by
            cases m with
            | nil => exact absurd rfl hm0
            | cons r m => rfl
          rw [hn1, hn2] at HPA
          clear hrg hrg' hn1 hn2 hz0 hz1 hz2 hz3
          generalize (l[0]'(List.length_pos_iff.2 hl0)).x.node = x at *
          generalize (m[0]'(List.length_pos_iff.2 hm0)).x.node = y at *
          by_cases hxy : x = y
          · have hxb : (x != y) = false := by simp [hxy]
            have HPF := hide (show partA (lnks l) (lnks m) = ((fdA (firstD (lnks l) (lnks m) (min l.length m.length))).1, (fdA (firstD (lnks l) (lnks m) (min l.length m.length))).2, 0) by
              rw [HPA.out, if_neg (fun h => h.2.2 hxy), HLL.out.1, HLL.out.2])
            clear hl0 hm0 hxy
            subst hAe
            subst hBe
            go_wp2_with fail
            go_quiet (fail)
            go_wp2_with fail
            have HBD := hide (below_drewN HBR.out nq)
            have HFA := hide (first_any _ _ (l.take (min l.length m.length)) m ca cb w.heap.size (wr.drewN nq) ((HL.out.below HBD.out).take _) (HM.out.below HBD.out) (by rw [List.length_take]; omega) (by omega) ((HX.out.below (below_drewN hb.out nq) HX.out.lt).cell 0) ((HX.out.below (below_drewN hb.out nq) HX.out.lt).lt))
            rw [HTL.out, show lnks (l.take (min l.length m.length)) = (lnks l).take (min l.length m.length) from by simp [lnks], firstD_take _ _ _ _ (Nat.le_refl _)] at HFA
            rw [show (min ((l.length : Nat) : Int) ((m.length : Nat) : Int)).toNat = min l.length m.length by omega]
            refine HFA.out.mono ?_
            rintro e w3 ⟨rfl, hb3⟩
            have HB3 := hide (below_one HBD.out hb3)
            clear hb3
            go_wp2_with fail
            go_ret3
            exact ⟨by rw [← HR.out, HPF.out]; rfl, HB3.out⟩
          · have hxb : (x != y) = true := by simpa using hxy
            have HPF := hide (show partA (lnks l) (lnks m) = (0, false, 80) by
              rw [HPA.out, if_pos ⟨by rw [HLL.out.1]; omega, by rw [HLL.out.2]; omega, hxy⟩])
            clear hl0 hm0 hxy
            subst hAe
            subst hBe
            go_wp2_with fail
            go_quiet (fail)
            go_wp2_with fail
            go_ret3
            exact ⟨by rw [← HR.out, HPF.out]; rfl, below_drewN HBR.out _⟩
end Go.Proofs.YtalgceplcahgbaaDoor
