/- DigestNext. -/
import Derived.Test.YtnopibpakchejaaDoorAppF
import Derived.Test.YtnopibpakchejaaDoorPlanT
import Derived.Test.YtnopibpakchejaaDoorHalves
namespace Go.Proofs.YtnopibpakchejaaDoor
open Go.RowKit
theorem plan3_namedN {P : Program} {ops : Array Oper} {Q : Exit → Act → World → Prop} {S : World → Prop} {p : Plan3} {a : Act} {w : World} (h : ∀ W, Hid (W = w) → wpPlan3 P ops Q S p a W) : wpPlan3 P ops Q S p a w := h w rfl

/-- The block that a value names. -/
def bkOf : Value → Option Nat
  | .pointer (some a) => some a.block
  | .slice (some a) _ _ => some a.block
  | _ => none
/-- Three blocks lie apart. -/
structure Tri (u v z : Value) (W : World) : Prop where
  bu : ∀ X, bkOf u = some X → X < W.heap.size
  bv : ∀ X, bkOf v = some X → X < W.heap.size
  bz : ∀ X, bkOf z = some X → X < W.heap.size
  uv : ∀ X, bkOf u = some X → ¬ bkOf v = some X
  uz : ∀ X, bkOf u = some X → ¬ bkOf z = some X
  vz : ∀ X, bkOf v = some X → ¬ bkOf z = some X
theorem Tri.zero (W : World) : Tri undef undef undef W := ⟨fun X e => (by cases e), fun X e => (by cases e), fun X e => (by cases e), fun X e => (by cases e), fun X e => (by cases e), fun X e => (by cases e)⟩
theorem Tri.size {u v z : Value} {W W' : World} (h : Tri u v z W) (hb : W.heap.size ≤ W'.heap.size) : Tri u v z W' := ⟨fun X e => Nat.lt_of_lt_of_le (h.bu X e) hb, fun X e => Nat.lt_of_lt_of_le (h.bv X e) hb, fun X e => Nat.lt_of_lt_of_le (h.bz X e) hb, h.uv, h.uz, h.vz⟩
theorem Tri.below {u v z : Value} {W W' : World} (h : Tri u v z W) (hb : Below W.heap.size W W') : Tri u v z W' := h.size hb.size
theorem bk_ptr (X : Nat) : bkOf (ptr X) = some X := rfl
theorem Tri.newU {u v z : Value} {W : World} (h : Tri u v z W) (o : Obj) : Tri (ptr W.heap.size) v z (W.alloc o) :=
  ⟨fun X e => by have := Option.some.inj (bk_ptr _ ▸ e); simp; omega, fun X e => by have := h.bv X e; simp; omega, fun X e => by have := h.bz X e; simp; omega, fun X e f => by have := Option.some.inj (bk_ptr _ ▸ e); have := h.bv X f; omega, fun X e f => by have := Option.some.inj (bk_ptr _ ▸ e); have := h.bz X f; omega, h.vz⟩
theorem Tri.newV {u v z : Value} {W : World} (h : Tri u v z W) (o : Obj) : Tri u (ptr W.heap.size) z (W.alloc o) :=
  ⟨fun X e => by have := h.bu X e; simp; omega, fun X e => by have := Option.some.inj (bk_ptr _ ▸ e); simp; omega, fun X e => by have := h.bz X e; simp; omega, fun X e f => by have := Option.some.inj (bk_ptr _ ▸ f); have := h.bu X e; omega, h.uz, fun X e f => by have := Option.some.inj (bk_ptr _ ▸ e); have := h.bz X f; omega⟩
theorem bk_sl (X n c : Nat) : bkOf (.slice (some ⟨X, 0, none⟩) n c) = some X := rfl
theorem Tri.newZ {u v z : Value} {W : World} (h : Tri u v z W) (o : Obj) (n c : Nat) : Tri u v (.slice (some ⟨W.heap.size, 0, none⟩) n c) (W.alloc o) :=
  ⟨fun X e => by have := h.bu X e; simp; omega, fun X e => by have := h.bv X e; simp; omega, fun X e => by have := Option.some.inj (bk_sl _ _ _ ▸ e); simp; omega, h.uv, fun X e f => by have := Option.some.inj (bk_sl _ _ _ ▸ f); have := h.bu X e; omega, fun X e f => by have := Option.some.inj (bk_sl _ _ _ ▸ f); have := h.bv X e; omega⟩
theorem Tri.set {u v z : Value} {W : World} (h : Tri u v z W) (b : Nat) (vs : List Value) : Tri u v z (W.setCells b 0 vs) := h.size (by rw [size_setCells]; exact Nat.le_refl _)
/-- A slice of one digest of its own. -/
def M27 (b : Nat) (d : List UInt8) (v : Value) (W : World) : Prop := ∃ X, v = .slice (some ⟨X, 0, none⟩) 1 1 ∧ b ≤ X ∧ Blk W X 26 (bc d)
theorem M27.below {b : Nat} {d : List UInt8} {v : Value} {W W' : World} (h : M27 b d v W) (hb : Below W.heap.size W W') : M27 b d v W' := by
  obtain ⟨X, e, h1, h2⟩ := h
  exact ⟨X, e, h1, h2.below hb h2.lt⟩
theorem M27.set {b X : Nat} {d : List UInt8} {v : Value} {W : World} (h : M27 b d v W) (hne : ¬ bkOf v = some X) (vs : List Value) : M27 b d v (W.setCells X 0 vs) := by
  obtain ⟨Y, e, h1, h2⟩ := h
  subst e
  exact ⟨Y, rfl, h1, h2.setCellsOther (fun e => hne (by rw [bk_sl, e])) _ _⟩

/-- A full list and one element more. -/
theorem hp_next {q j : Nat} (hq : q = 2 ^ j) : hp (q + 1) = q := hp_of hq (by omega) (by have := Nat.two_pow_pos j; omega)
theorem path_next {l : List (List UInt8)} {d : List UInt8} {q j : Nat} (hq : q = 2 ^ j) (hl : l.length = q) : pathL (l ++ [d]) q = [treeL l] := by
  have hp1 := hp_next hq
  have h1 : 1 ≤ q := by rw [hq]; exact Nat.two_pow_pos j
  have hL : (l ++ [d]).length = q + 1 := by simp [hl]
  have h2 : (l ++ [d]).drop q = [d] := by rw [List.drop_append_of_le_length (by omega), ← hl, List.drop_length, List.nil_append]
  have h3 : (l ++ [d]).take q = l := by rw [List.take_append_of_le_length (by omega), ← hl, List.take_length]
  rw [pathL_right (by omega) (by rw [hL, hp1]; exact Nat.le_refl _), hL, hp1, h2, h3, pathL_one (by simp), List.nil_append]
theorem tree_next {l : List (List UInt8)} {d : List UInt8} {q j : Nat} (hq : q = 2 ^ j) (hl : l.length = q) : treeL (l ++ [d]) = tagd tNode (treeL l ++ treeL [d]) := by
  have hp1 := hp_next hq
  have h1 : 1 ≤ q := by rw [hq]; exact Nat.two_pow_pos j
  have hL : (l ++ [d]).length = q + 1 := by simp [hl]
  have h2 : (l ++ [d]).drop q = [d] := by rw [List.drop_append_of_le_length (by omega), ← hl, List.drop_length, List.nil_append]
  have h3 : (l ++ [d]).take q = l := by rw [List.take_append_of_le_length (by omega), ← hl, List.take_length]
  rw [treeL_more (by omega), hL, hp1, h2, h3]

/-- What the law knows. -/
structure TN (w : World) (d : List UInt8) (A : Option Addr) (N c : Nat) (L : List (List UInt8)) (W : World) : Prop where
  k3 : Blk W w.heap.size 26 (bc d)
  bel : Below w.heap.size w W
  src : DSrc W A N c L
  tab : Tab W
theorem TN.below {w W W' : World} {d : List UInt8} {A : Option Addr} {N c : Nat} {L : List (List UInt8)} (h : TN w d A N c L W) (hb : Below W.heap.size W W') : TN w d A N c L W' :=
  ⟨h.k3.below hb h.k3.lt, below_one h.bel hb, h.src.below hb, h.tab.below hb⟩

set_option maxRecDepth 10000 in
set_option maxHeartbeats 4000000 in
theorem next_walk (a : Option Addr) (n cap : Nat) (l : List UInt8) (d : List UInt8) (w : World) (hT : Tab w) (hS : Src w a n cap l) (hn : n ≤ 9223372036854775807) (hd : d.length = 32) :
    Calls Tryd.prog 8 #[.slice a n cap, dv d] w (LawPost w) := by
  have HT := hide hT
  have HD := hide hd
  have HSA := hide (fun (W : World) (hW : Below w.heap.size w W) => sane_any W (hT.below hW))
  have HDG := hide (fun (W : World) (hW : Below w.heap.size w W) => digestsOf_any a n cap l W (hS.sb.below hW) hS.len hn)
  have HDL := hide (And.intro (digsOf_len l) (digsOf_d32 l))
  have hk24 := digsOf_len l
  have HSD := hide (show (Tryd.prog.info? 26).map (·.size) = some (bc d).length by rw [bc_len, hd]; exact Tryd.size26)
  clear hT hS
  generalize digsOf l = L at *
  obtain ⟨N, hN⟩ : ∃ N, L.length = N := ⟨_, rfl⟩
  have HN := hide hN
  rw [hN] at hk24
  clear hN hd
  go_enter Tryd.func8, Tryd.ntmps8
  go_wp2_with fail
  with_reducible refine (HSA.out _ (below_new w _)).mono ?_
  rintro e w1 ⟨rfl, hb⟩
  have HB1 : Hid (Blk w1 w.heap.size 26 (bc d) ∧ Below w.heap.size w w1) := hide ⟨(Blk.new w 26 (bc d)).below hb (Blk.new w 26 (bc d)).lt, below_one (below_new w _) hb⟩
  clear hb
  go_wp2_with fail
  with_reducible refine (HDG.out _ HB1.out.2).mono ?_
  rintro e w2 ⟨v, rfl, hown, hb⟩
  obtain ⟨A, c, rfl, hD⟩ := own_dsrc hown HDL.out.2 rfl
  rw [HN.out]
  rw [HN.out] at hD
  have HT0 : Hid (TN w d A N c L w2) := hide ⟨HB1.out.1.below hb HB1.out.1.lt, below_one HB1.out.2 hb, hD, HT.out.below (below_one HB1.out.2 hb)⟩
  clear hown hb hD HB1 HSA HDG
  go_wp2_with fail
  go_loopw [6, 7, 8, 27] (fun i x7 x8 x27 wr => ∃ q j : Nat, i = .int .i64 q ∧ q = 2 ^ j ∧ q ≤ 48 ∧ Hid (TN w d A N c L wr ∧ Tri x7 x8 x27 wr)) (fun i _ _ _ _ => 48 - (intOf i).toNat)
  case atStart => exact ⟨1, 0, rfl, rfl, by omega, hide ⟨HT0.out, Tri.zero _⟩⟩
  case round =>
    clear HT0
    obtain ⟨q, j, rfl, hq, hq48, HJ⟩ := hrel
    have HQ := hide hq
    have hq1 : 1 ≤ q := by rw [hq]; exact Nat.two_pow_pos j
    clear hq
    by_cases hle : q ≤ N
    · have hleI : (q : Int) ≤ (N : Int) := by omega
      go_wp2_with fail
      obtain ⟨b, o, rfl, hBs⟩ := HJ.out.1.src.ds.at HJ.out.1.src.d32 (by rw [HN.out]; omega)
      have hqN : q ≤ N := hle
      have blt : b < wr.heap.size := hBs.lt (by rw [HJ.out.1.src.d32.flat, HN.out]; omega)
      have HTL := hide (fun (W : World) (hW : Below wr.heap.size wr W) => tree_any (L.take q) q c (some ⟨b, o, none⟩) W (HJ.out.1.tab.below hW) (HJ.out.1.src.d32.take _) (Ds.of (bs_take HJ.out.1.src.d32 (hBs.below hW blt) _)) (by rw [List.length_take, HN.out]; omega) (by omega) (by have := HJ.out.1.src.le; omega) HJ.out.1.src.top)
      have HTD := hide (fun (X : Nat) (W : World) (hW : Below wr.heap.size wr W) (hB : Blk W X 26 (bc d)) => tree_any [d] 1 1 (some ⟨X, 0, none⟩) W (HJ.out.1.tab.below hW) (D32.one HD.out) (DSrc.one_of hB HD.out).ds rfl (by decide) (by decide) (by decide))
      have HTK := hide (show (L.take q).length = q by rw [List.length_take, HN.out]; omega)
      have HQ0 := HQ
      clear hBs
      have i1 : (0 : Int) ≤ (q : Int) := by omega
      have i2 : (q : Int) ≤ (c : Int) := by have := HJ.out.1.src.le; omega
      have hd32 : (bc d).length = 32 := by rw [bc_len, HD.out]
      refine wp_region_inv (fun ac W => ∃ x7 x8 x22 x23 x24 x25 x26 x27 x28 : Value, ac = ⟨#[Value.slice a n cap, dv d, undef, Value.pointer (some { block := w.heap.size, off := 0 }), u4, Value.slice (some ⟨b, o, none⟩) N c, Value.int IntKind.i64 (q : Int), x7, x8, u9, u10, u11, Value.bool true, Value.bool false, Value.slice a n cap, Value.slice (some ⟨b, o, none⟩) N c, Value.int IntKind.i64 (q : Int), Value.slice (some ⟨b, o, none⟩) N c, Value.int IntKind.i64 (N : Int), Value.bool true, u20, u21, x22, x23, x24, x25, x26, x27, x28, u29, u30, u31, u32, u33, u34, u35, u36, u37, u38, u39, u40, u41, u42, u43, u44, u45, u46, u47, u48, u49, u50, u51, u52, u53, u54, u55, u56, u57, u58, u59, u60, u61, u62, u63, u64, u65, u66, u67], []⟩ ∧ Below wr.heap.size wr W ∧ Tri x7 x8 x27 W)
        (fun i ac W => match i with
        | 0 => ac.eval (.tmp 22) = .slice (some ⟨b, o, none⟩) N c
        | 1 => ac.eval (.tmp 23) = .int .i64 (q : Nat)
        | 2 => ac.eval (.tmp 24) = .slice (some ⟨b, o, none⟩) q c
        | 3 => ac.eval (.tmp 25) = dv (treeL (L.take q))
        | 4 => ac.eval (.tmp 26) = dv d
        | 5 => M27 wr.heap.size d (ac.eval (.tmp 27)) W
        | 6 => ac.eval (.tmp 28) = dv (treeL [d])
        | 7 => M8 wr.heap.size (ac.eval (.tmp 7)) W
        | 8 => M8 wr.heap.size (ac.eval (.tmp 8)) W
        | 9 => M10 wr.heap.size (treeL (L.take q)) (ac.eval (.tmp 7)) W
        | 10 => M10 wr.heap.size (treeL [d]) (ac.eval (.tmp 8)) W
        | _ => True)
        (by kernel_rfl) (by kernel_rfl) ⟨_, _, _, _, _, _, _, _, _, rfl, (Below.refl _ _).drew, HJ.out.2.below (Below.refl _ _).drew⟩ ?_ ?_
      · intro i op ho ac W hB hdep R HR
        obtain ⟨x7, x8, x22, x23, x24, x25, x26, x27, x28, rfl, hbel, htri⟩ := hB
        match i, ho with
        | 0, ho =>
          simp only [List.getElem?_cons_zero, Option.some.injEq] at ho
          subst ho
          go_wp2_with fail
          exact HR.out _ _ ⟨_, _, _, _, _, _, _, _, _, rfl, hbel, htri⟩ rfl (fun j hj hne hno hI => by
            match j, hj, hne, hno, hI with
            | 0, _, hne, _, _ => exact absurd rfl hne
            | 1, _, _, hno, hI => exact hI
            | 2, _, _, hno, hI => exact hI
            | 3, _, _, hno, hI => exact hI
            | 4, _, _, hno, hI => exact hI
            | 5, _, _, hno, hI => exact hI
            | 6, _, _, hno, hI => exact hI
            | 7, _, _, hno, hI => exact hI
            | 8, _, _, hno, hI => exact hI
            | 9, _, _, hno, hI => exact hI
            | 10, _, _, hno, hI => exact hI
            | j + 11, hj, _, _, _ => exact absurd hj (by simp))
        | 1, ho =>
          simp only [List.getElem?_cons_succ, List.getElem?_cons_zero, Option.some.injEq] at ho
          subst ho
          go_wp2_with fail
          exact HR.out _ _ ⟨_, _, _, _, _, _, _, _, _, rfl, hbel, htri⟩ rfl (fun j hj hne hno hI => by
            match j, hj, hne, hno, hI with
            | 0, _, _, hno, hI => exact hI
            | 1, _, hne, _, _ => exact absurd rfl hne
            | 2, _, _, hno, hI => exact hI
            | 3, _, _, hno, hI => exact hI
            | 4, _, _, hno, hI => exact hI
            | 5, _, _, hno, hI => exact hI
            | 6, _, _, hno, hI => exact hI
            | 7, _, _, hno, hI => exact hI
            | 8, _, _, hno, hI => exact hI
            | 9, _, _, hno, hI => exact hI
            | 10, _, _, hno, hI => exact hI
            | j + 11, hj, _, _, _ => exact absurd hj (by simp))
        | 2, ho =>
          simp only [List.getElem?_cons_succ, List.getElem?_cons_zero, Option.some.injEq] at ho
          subst ho
          obtain rfl : x22 = Value.slice (some ⟨b, o, none⟩) N c := hdep ⟨0, .data⟩ (by simp) rfl
          obtain rfl : x23 = Value.int .i64 (q : Nat) := hdep ⟨1, .data⟩ (by simp) rfl
          go_wp2_with fail
          exact HR.out _ _ ⟨_, _, _, _, _, _, _, _, _, rfl, hbel, htri⟩ rfl (fun j hj hne hno hI => by
            match j, hj, hne, hno, hI with
            | 0, _, _, hno, hI => exact hI
            | 1, _, _, hno, hI => exact hI
            | 2, _, hne, _, _ => exact absurd rfl hne
            | 3, _, _, hno, hI => exact hI
            | 4, _, _, hno, hI => exact hI
            | 5, _, _, hno, hI => exact hI
            | 6, _, _, hno, hI => exact hI
            | 7, _, _, hno, hI => exact hI
            | 8, _, _, hno, hI => exact hI
            | 9, _, _, hno, hI => exact hI
            | 10, _, _, hno, hI => exact hI
            | j + 11, hj, _, _, _ => exact absurd hj (by simp))
        | 3, ho =>
          simp only [List.getElem?_cons_succ, List.getElem?_cons_zero, Option.some.injEq] at ho
          subst ho
          obtain rfl : x24 = Value.slice (some ⟨b, o, none⟩) q c := hdep ⟨2, .data⟩ (by simp) rfl
          have hbelH := hide hbel
          have htriH := hide htri
          clear hbel htri
          go_wp2_with fail
          with_reducible refine (HTL.out _ (hbelH.out)).mono ?_
          rintro e W' ⟨rfl, hbw⟩
          have HBW := hide hbw
          clear hbw
          go_wp2_with fail
          have hbw := HBW.out
          exact HR.out _ _ ⟨_, _, _, _, _, _, _, _, _, rfl, below_one hbelH.out hbw, htriH.out.below hbw⟩ rfl (fun j hj hne hno hI => by
            match j, hj, hne, hno, hI with
            | 0, _, _, hno, hI => exact hI
            | 1, _, _, hno, hI => exact hI
            | 2, _, _, hno, hI => exact hI
            | 3, _, hne, _, _ => exact absurd rfl hne
            | 4, _, _, hno, hI => exact hI
            | 5, _, _, hno, hI => exact M27.below hI hbw
            | 6, _, _, hno, hI => exact hI
            | 7, _, _, hno, hI => exact M8.below hI hbw
            | 8, _, _, hno, hI => exact M8.below hI hbw
            | 9, _, _, hno, hI => exact M10.below hI hbw
            | 10, _, _, hno, hI => exact M10.below hI hbw
            | j + 11, hj, _, _, _ => exact absurd hj (by simp))
        | 4, ho =>
          simp only [List.getElem?_cons_succ, List.getElem?_cons_zero, Option.some.injEq] at ho
          subst ho
          refine wpList_load_mid rfl 26 (.tmp 3) rfl w.heap.size 0 rfl (bc d) _ (bs_range (HJ.out.1.below hbel).k3.bs) Tryd.underlying26 rfl HSD.out ?_
          exact HR.out _ _ ⟨_, _, _, _, _, _, _, _, _, rfl, hbel, htri⟩ rfl (fun j hj hne hno hI => by
            match j, hj, hne, hno, hI with
            | 0, _, _, hno, hI => exact hI
            | 1, _, _, hno, hI => exact hI
            | 2, _, _, hno, hI => exact hI
            | 3, _, _, hno, hI => exact hI
            | 4, _, hne, _, _ => exact absurd rfl hne
            | 5, _, _, hno, hI => exact hI
            | 6, _, _, hno, hI => exact hI
            | 7, _, _, hno, hI => exact hI
            | 8, _, _, hno, hI => exact hI
            | 9, _, _, hno, hI => exact hI
            | 10, _, _, hno, hI => exact hI
            | j + 11, hj, _, _, _ => exact absurd hj (by simp))
        | 5, ho =>
          simp only [List.getElem?_cons_succ, List.getElem?_cons_zero, Option.some.injEq] at ho
          subst ho
          obtain rfl : x26 = dv d := hdep ⟨4, .data⟩ (by simp) rfl
          go_wp2_with fail
          rw [fold_dv d HD.out]
          exact HR.out _ _ ⟨_, _, _, _, _, _, _, _, _, rfl, below_one hbel (below_new _ _), htri.newZ _ _ _⟩ ⟨_, rfl, hbel.size, Blk.new _ _ _⟩ (fun j hj hne hno hI => by
            match j, hj, hne, hno, hI with
            | 0, _, _, hno, hI => exact hI
            | 1, _, _, hno, hI => exact hI
            | 2, _, _, hno, hI => exact hI
            | 3, _, _, hno, hI => exact hI
            | 4, _, _, hno, hI => exact hI
            | 5, _, hne, _, _ => exact absurd rfl hne
            | 6, _, _, hno, hI => exact hI
            | 7, _, _, hno, hI => exact M8.below hI (below_new _ _)
            | 8, _, _, hno, hI => exact M8.below hI (below_new _ _)
            | 9, _, _, hno, hI => exact M10.below hI (below_new _ _)
            | 10, _, _, hno, hI => exact M10.below hI (below_new _ _)
            | j + 11, hj, _, _, _ => exact absurd hj (by simp))
        | 6, ho =>
          simp only [List.getElem?_cons_succ, List.getElem?_cons_zero, Option.some.injEq] at ho
          subst ho
          obtain ⟨X, hX, hbX, hBX⟩ : M27 wr.heap.size d x27 W := hdep ⟨5, .data⟩ (by simp) rfl
          obtain rfl : x27 = .slice (some ⟨X, 0, none⟩) 1 1 := hX
          have hbelH := hide hbel
          have htriH := hide htri
          have hBXH := hide hBX
          clear hbel htri hBX hbX
          go_wp2_with fail
          with_reducible refine (HTD.out X _ hbelH.out hBXH.out).mono ?_
          rintro e W' ⟨rfl, hbw⟩
          have HBW := hide hbw
          clear hbw
          go_wp2_with fail
          have hbw := HBW.out
          exact HR.out _ _ ⟨_, _, _, _, _, _, _, _, _, rfl, below_one hbelH.out hbw, htriH.out.below hbw⟩ rfl (fun j hj hne hno hI => by
            match j, hj, hne, hno, hI with
            | 0, _, _, hno, hI => exact hI
            | 1, _, _, hno, hI => exact hI
            | 2, _, _, hno, hI => exact hI
            | 3, _, _, hno, hI => exact hI
            | 4, _, _, hno, hI => exact hI
            | 5, _, _, hno, hI => exact M27.below hI hbw
            | 6, _, hne, _, _ => exact absurd rfl hne
            | 7, _, _, hno, hI => exact M8.below hI hbw
            | 8, _, _, hno, hI => exact M8.below hI hbw
            | 9, _, _, hno, hI => exact M10.below hI hbw
            | 10, _, _, hno, hI => exact M10.below hI hbw
            | j + 11, hj, _, _, _ => exact absurd hj (by simp))
        | 7, ho =>
          simp only [List.getElem?_cons_succ, List.getElem?_cons_zero, Option.some.injEq] at ho
          subst ho
          go_wp2_with fail
          exact HR.out _ _ ⟨_, _, _, _, _, _, _, _, _, rfl, below_one hbel (below_new _ _), htri.newU _⟩ (M8.new _ _ _ rfl hbel.size (List.replicate 32 (.int .u8 0)) (by simp)) (fun j hj hne hno hI => by
            match j, hj, hne, hno, hI with
            | 0, _, _, hno, hI => exact hI
            | 1, _, _, hno, hI => exact hI
            | 2, _, _, hno, hI => exact hI
            | 3, _, _, hno, hI => exact hI
            | 4, _, _, hno, hI => exact hI
            | 5, _, _, hno, hI => exact M27.below hI (below_new _ _)
            | 6, _, _, hno, hI => exact hI
            | 7, _, hne, _, _ => exact absurd rfl hne
            | 8, _, _, hno, hI => exact M8.below hI (below_new _ _)
            | 9, _, _, hno, hI => exact absurd rfl (hno _ rfl ⟨7, .data⟩ (by simp) rfl)
            | 10, _, _, hno, hI => exact M10.below hI (below_new _ _)
            | j + 11, hj, _, _, _ => exact absurd hj (by simp))
        | 8, ho =>
          simp only [List.getElem?_cons_succ, List.getElem?_cons_zero, Option.some.injEq] at ho
          subst ho
          go_wp2_with fail
          exact HR.out _ _ ⟨_, _, _, _, _, _, _, _, _, rfl, below_one hbel (below_new _ _), htri.newV _⟩ (M8.new _ _ _ rfl hbel.size (List.replicate 32 (.int .u8 0)) (by simp)) (fun j hj hne hno hI => by
            match j, hj, hne, hno, hI with
            | 0, _, _, hno, hI => exact hI
            | 1, _, _, hno, hI => exact hI
            | 2, _, _, hno, hI => exact hI
            | 3, _, _, hno, hI => exact hI
            | 4, _, _, hno, hI => exact hI
            | 5, _, _, hno, hI => exact M27.below hI (below_new _ _)
            | 6, _, _, hno, hI => exact hI
            | 7, _, _, hno, hI => exact M8.below hI (below_new _ _)
            | 8, _, hne, _, _ => exact absurd rfl hne
            | 9, _, _, hno, hI => exact M10.below hI (below_new _ _)
            | 10, _, _, hno, hI => exact absurd rfl (hno _ rfl ⟨8, .data⟩ (by simp) rfl)
            | j + 11, hj, _, _, _ => exact absurd hj (by simp))
        | 9, ho =>
          simp only [List.getElem?_cons_succ, List.getElem?_cons_zero, Option.some.injEq] at ho
          subst ho
          obtain ⟨X, hX, hbX, cs, hBX, hcs⟩ : M8 wr.heap.size x7 W := hdep ⟨7, .data⟩ (by simp) rfl
          obtain rfl : x7 = ptr X := hX
          obtain rfl : x25 = dv (treeL (L.take q)) := hdep ⟨3, .data⟩ (by simp) rfl
          have hlen : (bc (treeL (L.take q))).length = 32 := by rw [bc_len, treeL_len]
          have hsz : (bc (treeL (L.take q))).toArray.size = 32 := dv_size _ (treeL_len _)
          refine wpList_store_mid rfl 26 (.tmp 7) (.tmp 25) rfl X 0 (bc (treeL (L.take q))).toArray rfl rfl (by rw [hsz]; exact hBX.there hcs) (by rw [hsz]; exact Tryd.size26) (all_oneCell_toArray (bc_one _)) ?_
          exact HR.out _ _ ⟨_, _, _, _, _, _, _, _, _, rfl, below_setCells hbel hbX _ _, htri.set _ _⟩ ⟨X, rfl, hbX, hBX.setAll (by rw [hcs, hlen])⟩ (fun j hj hne hno hI => by
            match j, hj, hne, hno, hI with
            | 0, _, _, hno, hI => exact hI
            | 1, _, _, hno, hI => exact hI
            | 2, _, _, hno, hI => exact hI
            | 3, _, _, hno, hI => exact hI
            | 4, _, _, hno, hI => exact hI
            | 5, _, _, hno, hI => exact M27.set hI (htri.uz X rfl) _
            | 6, _, _, hno, hI => exact hI
            | 7, _, _, hno, hI => exact M8.set hI (by rw [bc_len, treeL_len])
            | 8, _, _, hno, hI => exact M8.set hI (by rw [bc_len, treeL_len])
            | 9, _, hne, _, _ => exact absurd rfl hne
            | 10, _, _, hno, hI => exact M10.set hI (fun Y e h => htri.uv X rfl (by have e' : x8 = ptr Y := e; rw [e', h]; rfl)) _
            | j + 11, hj, _, _, _ => exact absurd hj (by simp))
        | 10, ho =>
          simp only [List.getElem?_cons_succ, List.getElem?_cons_zero, Option.some.injEq] at ho
          subst ho
          obtain ⟨X, hX, hbX, cs, hBX, hcs⟩ : M8 wr.heap.size x8 W := hdep ⟨8, .data⟩ (by simp) rfl
          obtain rfl : x8 = ptr X := hX
          obtain rfl : x28 = dv (treeL [d]) := hdep ⟨6, .data⟩ (by simp) rfl
          have hlen : (bc (treeL [d])).length = 32 := by rw [bc_len, treeL_len]
          have hsz : (bc (treeL [d])).toArray.size = 32 := dv_size _ (treeL_len _)
          refine wpList_store_mid rfl 26 (.tmp 8) (.tmp 28) rfl X 0 (bc (treeL [d])).toArray rfl rfl (by rw [hsz]; exact hBX.there hcs) (by rw [hsz]; exact Tryd.size26) (all_oneCell_toArray (bc_one _)) ?_
          exact HR.out _ _ ⟨_, _, _, _, _, _, _, _, _, rfl, below_setCells hbel hbX _ _, htri.set _ _⟩ ⟨X, rfl, hbX, hBX.setAll (by rw [hcs, hlen])⟩ (fun j hj hne hno hI => by
            match j, hj, hne, hno, hI with
            | 0, _, _, hno, hI => exact hI
            | 1, _, _, hno, hI => exact hI
            | 2, _, _, hno, hI => exact hI
            | 3, _, _, hno, hI => exact hI
            | 4, _, _, hno, hI => exact hI
            | 5, _, _, hno, hI => exact M27.set hI (htri.vz X rfl) _
            | 6, _, _, hno, hI => exact hI
            | 7, _, _, hno, hI => exact M8.set hI (by rw [bc_len, treeL_len])
            | 8, _, _, hno, hI => exact M8.set hI (by rw [bc_len, treeL_len])
            | 9, _, _, hno, hI => exact M10.set hI (fun Y e h => htri.uv X (by have e' : x7 = ptr Y := e; rw [e', h]; rfl) rfl) _
            | 10, _, hne, _, _ => exact absurd rfl hne
            | j + 11, hj, _, _, _ => exact absurd hj (by simp))
        | i + 11, ho => simp at ho
      · intro ac W hB hI
        obtain ⟨x7, x8, x22, x23, x24, x25, x26, x27, x28, rfl, hbel, htri⟩ := hB
        obtain rfl : x22 = Value.slice (some ⟨b, o, none⟩) N c := hI 0 (by simp)
        obtain rfl : x23 = Value.int .i64 (q : Nat) := hI 1 (by simp)
        obtain rfl : x24 = Value.slice (some ⟨b, o, none⟩) q c := hI 2 (by simp)
        obtain rfl : x25 = dv (treeL (L.take q)) := hI 3 (by simp)
        obtain rfl : x26 = dv d := hI 4 (by simp)
        obtain rfl : x28 = dv (treeL [d]) := hI 6 (by simp)
        obtain ⟨X, hX, hbX, hBX⟩ : M10 wr.heap.size (treeL (L.take q)) x7 W := hI 9 (by simp)
        obtain rfl : x7 = ptr X := hX
        obtain ⟨Y, hY, hbY, hBY⟩ : M10 wr.heap.size (treeL [d]) x8 W := hI 10 (by simp)
        obtain rfl : x8 = ptr Y := hY
        have HM := hide (show Blk W X 26 (bc (treeL (L.take q))) ∧ Blk W Y 26 (bc (treeL [d])) ∧ TN w d (some ⟨b, o, none⟩) N c L W ∧ Tri (ptr X) (ptr Y) x27 W ∧ Below wr.heap.size wr W from ⟨hBX, hBY, HJ.out.1.below hbel, htri, hbel⟩)
        clear hI hbel htri hBX hBY HTL HTD hbX hbY
        go_wp2_with fail
        have HP := hide (HM.out.2.2.1.src.take q hle)
        generalize L.take q = p at *
        refine name_code ?_
        intro Wr HWr
        obtain rfl : Wr = W := HWr.out
        refine wp_cutD (fun ac W => ∃ (G c9 : Nat) (x29 x33 x35 : Value), ac = ⟨#[Value.slice a n cap, dv d, undef, Value.pointer (some { block := w.heap.size, off := 0 }), u4, Value.slice (some ⟨b, o, none⟩) N c, Value.int IntKind.i64 (q : Int), ptr X, ptr Y, Value.slice (some ⟨G, 0, none⟩) (q + 1) c9, u10, u11, Value.bool true, Value.bool false, Value.slice a n cap, Value.slice (some ⟨b, o, none⟩) N c, Value.int IntKind.i64 (q : Int), Value.slice (some ⟨b, o, none⟩) N c, Value.int IntKind.i64 (N : Int), Value.bool true, u20, u21, Value.slice (some ⟨b, o, none⟩) N c, Value.int IntKind.i64 (q : Int), Value.slice (some ⟨b, o, none⟩) q c, dv (treeL p), dv d, x27, dv (treeL [d]), x29, Value.slice (some ⟨b, o, none⟩) N c, Value.int IntKind.i64 (q : Int), Value.slice (some ⟨b, o, none⟩) q c, x33, dv d, x35, Value.slice (some ⟨G, 0, none⟩) (q + 1) c9, u37, u38, u39, u40, u41, u42, u43, u44, u45, u46, u47, u48, u49, u50, u51, u52, u53, u54, u55, u56, u57, u58, u59, u60, u61, u62, u63, u64, u65, u66, u67], []⟩ ∧ Hid (Below Wr.heap.size Wr W ∧ DSrc W (some ⟨G, 0, none⟩) (q + 1) c9 (p ++ [d]))) ?_ ?_
        · have HS0 : Hid (Hid (Below Wr.heap.size Wr Wr.drew)) := hide (hide (Below.refl _ _).drew)
          refine wp_region_plan3 (fun W => Hid (Below Wr.heap.size Wr W)) (.take 1 (.take 2 (.take 3 (.take 5 (.both 0 (.both 4 (.run 6 (.run 7 (.take 8 .done))) 6 (.run 4 (.run 7 (.take 8 .done)))) 6 (.run 0 (.run 4 (.run 7 (.take 8 .done))))))))) (by kernel_rfl) (by kernel_rfl) HS0.out ?_
          refine plan3_namedN ?_
          intro Wd HWd
          have HS : Hid (Hid (Below Wr.heap.size Wr Wd)) := by
            have e : Wd = Wr.drew := HWd.out
            subst e
            exact HS0
          clear HWd HS0
          (refine plan3_take (o := ?_) (v := ?_) (by simp only [List.getElem?_toArray, List.getElem?_cons_succ, List.getElem?_cons_zero]; rfl) (yields_run (by rfl) ?_) ?_; rotate_left; (focus (intro w' _; go_simp <;> with_reducible rfl)); (simp only [Act.put, List.setIfInBounds_toArray, List.set_cons_zero, List.set_cons_succ]))
          (refine plan3_take (o := ?_) (v := ?_) (by simp only [List.getElem?_toArray, List.getElem?_cons_succ, List.getElem?_cons_zero]; rfl) (yields_run (by rfl) ?_) ?_; rotate_left; (focus (intro w' _; go_simp <;> with_reducible rfl)); (simp only [Act.put, List.setIfInBounds_toArray, List.set_cons_zero, List.set_cons_succ]))
          (refine plan3_take (o := ?_) (v := ?_) (by simp only [List.getElem?_toArray, List.getElem?_cons_succ, List.getElem?_cons_zero]; rfl) (yields_run (by rfl) ?_) ?_; rotate_left; (focus (intro w' _; go_simp <;> with_reducible rfl)); (simp only [Act.put, List.setIfInBounds_toArray, List.set_cons_zero, List.set_cons_succ]))
          (refine plan3_take (o := ?_) (by simp only [List.getElem?_toArray, List.getElem?_cons_succ, List.getElem?_cons_zero]; rfl) (yieldsIf_load_mid (by rfl) 26 (.tmp 3) rfl w.heap.size 0 rfl (bc d) _ (fun _ h => bs_range (HM.out.2.2.1.below h.out).k3.bs) Tryd.underlying26 rfl HSD.out) ?_; (simp only [Act.put, List.setIfInBounds_toArray, List.set_cons_zero, List.set_cons_succ]))
          refine plan3_both (o1 := ?_) (o2 := ?_) (by simp only [List.getElem?_toArray, List.getElem?_cons_zero]; rfl) (by simp only [List.getElem?_toArray, List.getElem?_cons_succ, List.getElem?_cons_zero]; rfl) ?_ ?_
          · intro R HR
            go_wp2_with fail
            refine HR.out _ _ (show Hid (Below Wr.heap.size Wr (Wd.alloc (.cells #[] 26))) from hide (below_one HS.out.out (below_new _ _))) ?_
            clear HR
            refine plan3_namedN ?_
            intro Wz1 HWn
            have HS' : Hid (Hid (Below Wr.heap.size Wr Wz1)) := by
              have e : Wz1 = Wd.alloc (.cells #[] 26) := HWn.out
              subst e
              exact hide (hide (below_one HS.out.out (below_new _ _)))
            have HO' : Hid (Wz1.ownsRow Wr.heap.size 26 32 (.slice (some ⟨Wd.heap.size, 0, none⟩) 0 0) 0 (bc ([] : List (List UInt8)).flatten)) := by
              have e : Wz1 = Wd.alloc (.cells #[] 26) := HWn.out
              subst e
              exact hide (own_empty _ _ 26 26 32 rfl HS.out.out.size)
            clear HS
            have HS := HS'
            have HO := HO'
            clear HS' HO' HWn
            refine plan3_both (o1 := ?_) (o2 := ?_) (by simp only [List.getElem?_toArray, List.getElem?_cons_succ, List.getElem?_cons_zero]; rfl) (by simp only [List.getElem?_toArray, List.getElem?_cons_succ, List.getElem?_cons_zero]; rfl) ?_ ?_
            · intro R HR
              refine wpList_of_wp (by rfl) (wp_app26f (.tmp 29) (.tmp 32) rfl Wr.heap.size Wd.heap.size 0 0 [] rfl HO.out (some ⟨b, o, none⟩) q c p rfl (HP.out.below HS.out.out) (by omega) HS.out.out.size q p (by omega) rfl ?_)
              intro g3 cp4 Wz2 ho hg hor
              have HS' : Hid (Hid (Below Wr.heap.size Wr Wz2)) := hide (hide (HS.out.out.grown hg HS.out.out.size (fun k hk => (HO.out.lt k hk).1)))
              have HO' : Hid (Wz2.ownsRow Wr.heap.size 26 32 (.slice (some ⟨g3, 0, none⟩) q cp4) q (bc p.flatten)) := hide ho
              clear HS HO
              have HS := HS'
              have HO := HO'
              clear HS' HO'
              clear ho hg hor
              refine HR.out _ _ HS.out ?_
              clear HR
              (simp only [Act.put, List.setIfInBounds_toArray, List.set_cons_zero, List.set_cons_succ])
              refine plan3_run (o := ?_) (by simp only [List.getElem?_toArray, List.getElem?_cons_succ, List.getElem?_cons_zero]; rfl) ?_
              intro R HR
              go_wp2_with fail
              rw [fold_dv d HD.out]
              refine HR.out _ _ (show Hid (Below Wr.heap.size Wr (Wz2.alloc (.cells (bc d).toArray 26))) from hide (below_one HS.out.out (below_new _ _))) ?_
              clear HR
              refine plan3_namedN ?_
              intro Wz5 HWn
              have HS' : Hid (Hid (Below Wr.heap.size Wr Wz5)) := by
                have e : Wz5 = Wz2.alloc (.cells (bc d).toArray 26) := HWn.out
                subst e
                exact hide (hide (below_one HS.out.out (below_new _ _)))
              have HO' : Hid (Wz5.ownsRow Wr.heap.size 26 32 (.slice (some ⟨g3, 0, none⟩) q cp4) q (bc p.flatten)) := by
                have e : Wz5 = Wz2.alloc (.cells (bc d).toArray 26) := HWn.out
                subst e
                exact hide (HO.out.alloc _)
              have K8' : Hid (Blk Wz5 Wz2.heap.size 26 (bc d)) := by
                have e : Wz5 = Wz2.alloc (.cells (bc d).toArray 26) := HWn.out
                subst e
                exact hide (Blk.new _ _ _)
              clear HS HO
              have HS := HS'
              have HO := HO'
              have K8 := K8'
              clear HS' HO' K8' HWn
              refine plan3_run (o := ?_) (by simp only [List.getElem?_toArray, List.getElem?_cons_succ, List.getElem?_cons_zero]; rfl) ?_
              intro R HR
              refine wpList_of_wp (by rfl) (wp_app26f (.tmp 33) (.tmp 35) rfl Wr.heap.size g3 q cp4 p rfl HO.out (some ⟨Wz2.heap.size, 0, none⟩) 1 1 [d] rfl (DSrc.one_of K8.out HD.out) (by omega) HS.out.out.size (q + 1) (p ++ [d]) rfl rfl ?_)
              intro g7 cp8 Wz6 ho hg hor
              obtain ⟨A9, c9, e9, hQ⟩ := own_dsrc ho (HP.out.d32.append (D32.one HD.out)) (by simp [HTK.out])
              cases e9
              have HS' : Hid (Hid (Below Wr.heap.size Wr Wz6)) := hide (hide (HS.out.out.grown hg HS.out.out.size (fun k hk => (HO.out.lt k hk).1)))
              have HQ9' : Hid (DSrc Wz6 (some ⟨g7, 0, none⟩) (q + 1) cp8 (p ++ [d])) := hide hQ
              clear HS
              have HS := HS'
              have HQ9 := HQ9'
              clear HS' HQ9'
              clear ho hg hor hQ HO
              refine HR.out _ _ HS.out ?_
              clear HR
              (simp only [Act.put, List.setIfInBounds_toArray, List.set_cons_zero, List.set_cons_succ])
              (refine plan3_take (o := ?_) (v := ?_) (by simp only [List.getElem?_toArray, List.getElem?_cons_succ, List.getElem?_cons_zero]; rfl) (yields_run (by rfl) ?_) ?_; rotate_left; (focus (intro w' _; go_simp <;> with_reducible rfl)); (simp only [Act.put, List.setIfInBounds_toArray, List.set_cons_zero, List.set_cons_succ]))
              refine plan3_done ?_
              exact ⟨g7, cp8, _, _, _, rfl, hide ⟨HS.out.out, HQ9.out⟩⟩
            · intro R HR
              go_wp2_with fail
              rw [fold_dv d HD.out]
              refine HR.out _ _ (show Hid (Below Wr.heap.size Wr (Wz1.alloc (.cells (bc d).toArray 26))) from hide (below_one HS.out.out (below_new _ _))) ?_
              clear HR
              refine plan3_namedN ?_
              intro Wz9 HWn
              have HS' : Hid (Hid (Below Wr.heap.size Wr Wz9)) := by
                have e : Wz9 = Wz1.alloc (.cells (bc d).toArray 26) := HWn.out
                subst e
                exact hide (hide (below_one HS.out.out (below_new _ _)))
              have HO' : Hid (Wz9.ownsRow Wr.heap.size 26 32 (.slice (some ⟨Wd.heap.size, 0, none⟩) 0 0) 0 (bc ([] : List (List UInt8)).flatten)) := by
                have e : Wz9 = Wz1.alloc (.cells (bc d).toArray 26) := HWn.out
                subst e
                exact hide (HO.out.alloc _)
              have K8' : Hid (Blk Wz9 Wz1.heap.size 26 (bc d)) := by
                have e : Wz9 = Wz1.alloc (.cells (bc d).toArray 26) := HWn.out
                subst e
                exact hide (Blk.new _ _ _)
              have N8' : Hid (¬ Wz1.heap.size = Wd.heap.size) := by
                have e : Wz9 = Wz1.alloc (.cells (bc d).toArray 26) := HWn.out
                subst e
                exact hide (by have h2 : Wd.heap.size < Wz1.heap.size := (HO.out.lt _ rfl).2; omega)
              clear HS HO
              have HS := HS'
              have HO := HO'
              have K8 := K8'
              have N8 := N8'
              clear HS' HO' K8' N8' HWn
              refine plan3_run (o := ?_) (by simp only [List.getElem?_toArray, List.getElem?_cons_succ, List.getElem?_cons_zero]; rfl) ?_
              intro R HR
              refine wpList_of_wp (by rfl) (wp_app26f (.tmp 29) (.tmp 32) rfl Wr.heap.size Wd.heap.size 0 0 [] rfl HO.out (some ⟨b, o, none⟩) q c p rfl (HP.out.below HS.out.out) (by omega) HS.out.out.size q p (by omega) rfl ?_)
              intro g11 cp12 Wz10 ho hg hor
              have HS' : Hid (Hid (Below Wr.heap.size Wr Wz10)) := hide (hide (HS.out.out.grown hg HS.out.out.size (fun k hk => (HO.out.lt k hk).1)))
              have K8' : Hid (Blk Wz10 Wz1.heap.size 26 (bc d)) := hide ((hg.block _ K8.out.lt (fun e => N8.out (Option.some.inj e))).trans K8.out)
              have HO' : Hid (Wz10.ownsRow Wr.heap.size 26 32 (.slice (some ⟨g11, 0, none⟩) q cp12) q (bc p.flatten)) := hide ho
              clear HS K8 HO
              have HS := HS'
              have K8 := K8'
              have HO := HO'
              clear HS' K8' HO'
              clear ho hg hor
              refine HR.out _ _ HS.out ?_
              clear HR
              (simp only [Act.put, List.setIfInBounds_toArray, List.set_cons_zero, List.set_cons_succ])
              refine plan3_run (o := ?_) (by simp only [List.getElem?_toArray, List.getElem?_cons_succ, List.getElem?_cons_zero]; rfl) ?_
              intro R HR
              refine wpList_of_wp (by rfl) (wp_app26f (.tmp 33) (.tmp 35) rfl Wr.heap.size g11 q cp12 p rfl HO.out (some ⟨Wz1.heap.size, 0, none⟩) 1 1 [d] rfl (DSrc.one_of K8.out HD.out) (by omega) HS.out.out.size (q + 1) (p ++ [d]) rfl rfl ?_)
              intro g14 cp15 Wz13 ho hg hor
              obtain ⟨A9, c9, e9, hQ⟩ := own_dsrc ho (HP.out.d32.append (D32.one HD.out)) (by simp [HTK.out])
              cases e9
              have HS' : Hid (Hid (Below Wr.heap.size Wr Wz13)) := hide (hide (HS.out.out.grown hg HS.out.out.size (fun k hk => (HO.out.lt k hk).1)))
              have HQ9' : Hid (DSrc Wz13 (some ⟨g14, 0, none⟩) (q + 1) cp15 (p ++ [d])) := hide hQ
              clear HS
              have HS := HS'
              have HQ9 := HQ9'
              clear HS' HQ9'
              clear ho hg hor hQ HO
              refine HR.out _ _ HS.out ?_
              clear HR
              (simp only [Act.put, List.setIfInBounds_toArray, List.set_cons_zero, List.set_cons_succ])
              (refine plan3_take (o := ?_) (v := ?_) (by simp only [List.getElem?_toArray, List.getElem?_cons_succ, List.getElem?_cons_zero]; rfl) (yields_run (by rfl) ?_) ?_; rotate_left; (focus (intro w' _; go_simp <;> with_reducible rfl)); (simp only [Act.put, List.setIfInBounds_toArray, List.set_cons_zero, List.set_cons_succ]))
              refine plan3_done ?_
              exact ⟨g14, cp15, _, _, _, rfl, hide ⟨HS.out.out, HQ9.out⟩⟩
          · intro R HR
            go_wp2_with fail
            rw [fold_dv d HD.out]
            refine HR.out _ _ (show Hid (Below Wr.heap.size Wr (Wd.alloc (.cells (bc d).toArray 26))) from hide (below_one HS.out.out (below_new _ _))) ?_
            clear HR
            refine plan3_namedN ?_
            intro Wz16 HWn
            have HS' : Hid (Hid (Below Wr.heap.size Wr Wz16)) := by
              have e : Wz16 = Wd.alloc (.cells (bc d).toArray 26) := HWn.out
              subst e
              exact hide (hide (below_one HS.out.out (below_new _ _)))
            have K8' : Hid (Blk Wz16 Wd.heap.size 26 (bc d)) := by
              have e : Wz16 = Wd.alloc (.cells (bc d).toArray 26) := HWn.out
              subst e
              exact hide (Blk.new _ _ _)
            clear HS
            have HS := HS'
            have K8 := K8'
            clear HS' K8' HWn
            refine plan3_run (o := ?_) (by simp only [List.getElem?_toArray, List.getElem?_cons_zero]; rfl) ?_
            intro R HR
            go_wp2_with fail
            refine HR.out _ _ (show Hid (Below Wr.heap.size Wr (Wz16.alloc (.cells #[] 26))) from hide (below_one HS.out.out (below_new _ _))) ?_
            clear HR
            refine plan3_namedN ?_
            intro Wz17 HWn
            have HS' : Hid (Hid (Below Wr.heap.size Wr Wz17)) := by
              have e : Wz17 = Wz16.alloc (.cells #[] 26) := HWn.out
              subst e
              exact hide (hide (below_one HS.out.out (below_new _ _)))
            have K8' : Hid (Blk Wz17 Wd.heap.size 26 (bc d)) := by
              have e : Wz17 = Wz16.alloc (.cells #[] 26) := HWn.out
              subst e
              exact hide (K8.out.alloc _)
            have HO' : Hid (Wz17.ownsRow Wr.heap.size 26 32 (.slice (some ⟨Wz16.heap.size, 0, none⟩) 0 0) 0 (bc ([] : List (List UInt8)).flatten)) := by
              have e : Wz17 = Wz16.alloc (.cells #[] 26) := HWn.out
              subst e
              exact hide (own_empty _ _ 26 26 32 rfl HS.out.out.size)
            have N8' : Hid (¬ Wd.heap.size = Wz16.heap.size) := by
              have e : Wz17 = Wz16.alloc (.cells #[] 26) := HWn.out
              subst e
              exact hide (by have := K8.out.lt; omega)
            clear HS K8
            have HS := HS'
            have K8 := K8'
            have HO := HO'
            have N8 := N8'
            clear HS' K8' HO' N8' HWn
            refine plan3_run (o := ?_) (by simp only [List.getElem?_toArray, List.getElem?_cons_succ, List.getElem?_cons_zero]; rfl) ?_
            intro R HR
            refine wpList_of_wp (by rfl) (wp_app26f (.tmp 29) (.tmp 32) rfl Wr.heap.size Wz16.heap.size 0 0 [] rfl HO.out (some ⟨b, o, none⟩) q c p rfl (HP.out.below HS.out.out) (by omega) HS.out.out.size q p (by omega) rfl ?_)
            intro g19 cp20 Wz18 ho hg hor
            have HS' : Hid (Hid (Below Wr.heap.size Wr Wz18)) := hide (hide (HS.out.out.grown hg HS.out.out.size (fun k hk => (HO.out.lt k hk).1)))
            have K8' : Hid (Blk Wz18 Wd.heap.size 26 (bc d)) := hide ((hg.block _ K8.out.lt (fun e => N8.out (Option.some.inj e))).trans K8.out)
            have HO' : Hid (Wz18.ownsRow Wr.heap.size 26 32 (.slice (some ⟨g19, 0, none⟩) q cp20) q (bc p.flatten)) := hide ho
            clear HS K8 HO
            have HS := HS'
            have K8 := K8'
            have HO := HO'
            clear HS' K8' HO'
            clear ho hg hor
            refine HR.out _ _ HS.out ?_
            clear HR
            (simp only [Act.put, List.setIfInBounds_toArray, List.set_cons_zero, List.set_cons_succ])
            refine plan3_run (o := ?_) (by simp only [List.getElem?_toArray, List.getElem?_cons_succ, List.getElem?_cons_zero]; rfl) ?_
            intro R HR
            refine wpList_of_wp (by rfl) (wp_app26f (.tmp 33) (.tmp 35) rfl Wr.heap.size g19 q cp20 p rfl HO.out (some ⟨Wd.heap.size, 0, none⟩) 1 1 [d] rfl (DSrc.one_of K8.out HD.out) (by omega) HS.out.out.size (q + 1) (p ++ [d]) rfl rfl ?_)
            intro g22 cp23 Wz21 ho hg hor
            obtain ⟨A9, c9, e9, hQ⟩ := own_dsrc ho (HP.out.d32.append (D32.one HD.out)) (by simp [HTK.out])
            cases e9
            have HS' : Hid (Hid (Below Wr.heap.size Wr Wz21)) := hide (hide (HS.out.out.grown hg HS.out.out.size (fun k hk => (HO.out.lt k hk).1)))
            have HQ9' : Hid (DSrc Wz21 (some ⟨g22, 0, none⟩) (q + 1) cp23 (p ++ [d])) := hide hQ
            clear HS
            have HS := HS'
            have HQ9 := HQ9'
            clear HS' HQ9'
            clear ho hg hor hQ HO
            refine HR.out _ _ HS.out ?_
            clear HR
            (simp only [Act.put, List.setIfInBounds_toArray, List.set_cons_zero, List.set_cons_succ])
            (refine plan3_take (o := ?_) (v := ?_) (by simp only [List.getElem?_toArray, List.getElem?_cons_succ, List.getElem?_cons_zero]; rfl) (yields_run (by rfl) ?_) ?_; rotate_left; (focus (intro w' _; go_simp <;> with_reducible rfl)); (simp only [Act.put, List.setIfInBounds_toArray, List.set_cons_zero, List.set_cons_succ]))
            refine plan3_done ?_
            exact ⟨g22, cp23, _, _, _, rfl, hide ⟨HS.out.out, HQ9.out⟩⟩
        rintro ac W8 ⟨G, c9, x29, x33, x35, rfl, HQ⟩
        have HTN := hide (tree_next (d := d) HQ0.out HTK.out)
        have HPN := hide (path_next (d := d) HQ0.out HTK.out)
        have HW8 := hide (HM.out.2.2.1.below HQ.out.1)
        have HL1 := hide (treeL_len p)
        have HL2 := hide (treeL_len [d])
        have HK7 := hide (And.intro (HM.out.1.below HQ.out.1 HM.out.1.lt) (HM.out.2.1.below HQ.out.1 HM.out.2.1.lt))
        have HTR := hide (HM.out.2.2.2.1.below HQ.out.1)
        clear HM hd32
        go_wp2_with fail
        refine (Path_yes (p ++ [d]) (q + 1) c9 q (some ⟨G, 0, none⟩) W8 HW8.out.tab HQ.out.2.d32 HQ.out.2.ds HQ.out.2.len (by omega) (by omega) HQ.out.2.le HQ.out.2.top).mono ?_
        rintro e w9 ⟨v, rfl, hown, hb⟩
        rw [HPN.out] at hown
        obtain ⟨A9, c10, rfl, hD⟩ := own_dsrc (show w9.ownsRow _ 26 32 v 1 (bc [treeL p].flatten) from hown) (D32.one HL1.out) rfl
        obtain ⟨b2, o2, rfl, _⟩ := hD.ds.at hD.d32 (by simp)
        have HR2 := hide (show ∀ W, Below w9.heap.size w9 W → W.rangeAt b2 o2 (bc (treeL p)) from fun W h => by simpa using (hD.below h).one 0 (by simp))
        have HTF := hide (fun (W : World) (hW : Below w9.heap.size w9 W) => tree_any (p ++ [d]) (q + 1) c9 (some ⟨G, 0, none⟩) W ((HW8.out.below hb).tab.below hW) HQ.out.2.d32 ((HQ.out.2.below hb).below hW).ds HQ.out.2.len (by omega) HQ.out.2.le HQ.out.2.top)
        rw [HTN.out] at HTF
        have HW9 : Hid (TN w d (some ⟨b, o, none⟩) N c L w9 ∧ Blk w9 X 26 (bc (treeL p)) ∧ Blk w9 Y 26 (bc (treeL [d])) ∧ Tri (ptr X) (ptr Y) x27 w9 ∧ DSrc w9 (some ⟨G, 0, none⟩) (q + 1) c9 (p ++ [d])) := hide ⟨HW8.out.below hb, HK7.out.1.below hb HK7.out.1.lt, HK7.out.2.below hb HK7.out.2.lt, HTR.out.below hb, HQ.out.2.below hb⟩
        clear hown hb hD HW8 HK7 HTR HQ HP
        go_wp2_with fail
        have HS1 := hide (show (Tryd.prog.info? 26).map (·.size) = some (bc (treeL p)).length by rw [bc_len, HL1.out]; exact Tryd.size26)
        have HLN := hide (show 64 = (treeL p ++ treeL [d]).length by rw [List.length_append, HL1.out, HL2.out])
        have HS0 : Hid (Hid (Below w9.heap.size w9 w9.drew)) := hide (hide (Below.refl _ _).drew)
        refine name_code ?_
        intro Wq HWq
        obtain rfl : Wq = w9 := HWq.out
        refine wp_region_plan3 (fun W => Hid (Below Wq.heap.size Wq W)) (.take 0 (.take 3 (.take 5 (.both 1 (.run 2 (.run 4 (.run 6 (.run 7 (.take 8 (.take 9 (.take 10 (.take 11 (.take 12 (.take 13 (.take 14 (.take 15 (.take 16 (.take 17 (.take 18 (.take 19 (.take 20 (.take 21 (.take 22 (.take 23 (.take 24 .done))))))))))))))))))))) 2 (.run 1 (.run 4 (.run 6 (.run 7 (.take 8 (.take 9 (.take 10 (.take 11 (.take 12 (.take 13 (.take 14 (.take 15 (.take 16 (.take 17 (.take 18 (.take 19 (.take 20 (.take 21 (.take 22 (.take 23 (.take 24 .done))))))))))))))))))))))))) (by kernel_rfl) (by kernel_rfl) HS0.out ?_
        refine plan3_namedN ?_
        intro Wd HWd
        have HS : Hid (Hid (Below Wq.heap.size Wq Wd)) := by
          have e : Wd = Wq.drew := HWd.out
          subst e
          exact HS0
        clear HWd HS0
        (refine plan3_take (o := ?_) (v := ?_) (by simp only [List.getElem?_toArray, List.getElem?_cons_zero]; rfl) (yields_run (by rfl) ?_) ?_; rotate_left; (focus (intro w' _; go_simp <;> with_reducible rfl)); (simp only [Act.put, List.setIfInBounds_toArray, List.set_cons_zero, List.set_cons_succ]))
        (refine plan3_take (o := ?_) (v := ?_) (by simp only [List.getElem?_toArray, List.getElem?_cons_succ, List.getElem?_cons_zero]; rfl) (yields_run (by rfl) ?_) ?_; rotate_left; (focus (intro w' _; go_simp <;> with_reducible rfl)); (simp only [Act.put, List.setIfInBounds_toArray, List.set_cons_zero, List.set_cons_succ]))
        (refine plan3_take (o := ?_) (v := ?_) (by simp only [List.getElem?_toArray, List.getElem?_cons_succ, List.getElem?_cons_zero]; rfl) (yields_run (by rfl) ?_) ?_; rotate_left; (focus (intro w' _; go_simp <;> with_reducible rfl)); (simp only [Act.put, List.setIfInBounds_toArray, List.set_cons_zero, List.set_cons_succ]))
        refine plan3_both (o1 := ?_) (o2 := ?_) (by simp only [List.getElem?_toArray, List.getElem?_cons_succ, List.getElem?_cons_zero]; rfl) (by simp only [List.getElem?_toArray, List.getElem?_cons_succ, List.getElem?_cons_zero]; rfl) ?_ ?_
        · intro R HR
          go_wp2_with fail
          with_reducible refine (HTF.out Wd HS.out.out).mono ?_
          rintro e Wz24 ⟨rfl, hb⟩
          have HS' : Hid (Hid (Below Wq.heap.size Wq Wz24)) := hide (hide (below_one HS.out.out hb))
          clear HS
          have HS := HS'
          clear HS'
          clear hb
          go_wp2_with fail
          refine HR.out _ _ HS.out ?_
          clear HR
          refine plan3_run (o := ?_) (by simp only [List.getElem?_toArray, List.getElem?_cons_succ, List.getElem?_cons_zero]; rfl) ?_
          intro R HR
          go_wp2_with fail
          refine HR.out _ _ (show Hid (Below Wq.heap.size Wq (Wz24.alloc (.cells #[] 5))) from hide (below_one HS.out.out (below_new _ _))) ?_
          clear HR
          refine plan3_namedN ?_
          intro Wz25 HWn
          have HS' : Hid (Hid (Below Wq.heap.size Wq Wz25)) := by
            have e : Wz25 = Wz24.alloc (.cells #[] 5) := HWn.out
            subst e
            exact hide (hide (below_one HS.out.out (below_new _ _)))
          have HO' : Hid (Wz25.ownsRow Wq.heap.size 5 1 (.slice (some ⟨Wz24.heap.size, 0, none⟩) 0 0) 0 (bc [])) := by
            have e : Wz25 = Wz24.alloc (.cells #[] 5) := HWn.out
            subst e
            exact hide (own_empty _ _ 5 5 1 rfl HS.out.out.size)
          clear HS
          have HS := HS'
          have HO := HO'
          clear HS' HO' HWn
          refine plan3_run (o := ?_) (by simp only [List.getElem?_toArray, List.getElem?_cons_succ, List.getElem?_cons_zero]; rfl) ?_
          intro R HR
          refine wpList_of_wp (by rfl) (wp_app5 (.tmp 45) (.tmp 46) rfl Wq.heap.size _ 0 [] rfl HO.out (some ⟨X, 0, none⟩) 32 32 (treeL p) rfl ⟨HL1.out.symm, Sb.of (HW9.out.2.1.below HS.out.out HW9.out.2.1.lt).bs, fun h => by cases h⟩ (by decide) HS.out.out.size 32 (treeL p) rfl rfl ?_)
          intro v Wz26 hA hg
          have HS' : Hid (Hid (Below Wq.heap.size Wq Wz26)) := hide (hide (HS.out.out.grown hg HS.out.out.size (fun k hk => (HO.out.lt k hk).1)))
          clear HS
          have HS := HS'
          clear HS'
          clear hg HO
          obtain ⟨g27, cp28, rfl, hA2, hA3, _, hA4, hA5⟩ := own_form hA (by decide)
          have HO := hide hA2
          clear hA hA2 hA3 hA4 hA5
          refine HR.out _ _ HS.out ?_
          clear HR
          (simp only [Act.put, List.setIfInBounds_toArray, List.set_cons_zero, List.set_cons_succ])
          refine plan3_run (o := ?_) (by simp only [List.getElem?_toArray, List.getElem?_cons_succ, List.getElem?_cons_zero]; rfl) ?_
          intro R HR
          refine wpList_of_wp (by rfl) (wp_app5 (.tmp 47) (.tmp 48) rfl Wq.heap.size _ 32 (treeL p) rfl HO.out (some ⟨Y, 0, none⟩) 32 32 (treeL [d]) rfl ⟨HL2.out.symm, Sb.of (HW9.out.2.2.1.below HS.out.out HW9.out.2.2.1.lt).bs, fun h => by cases h⟩ (by decide) HS.out.out.size 64 (treeL p ++ treeL [d]) rfl rfl ?_)
          intro v Wz29 hA hg
          have HS' : Hid (Hid (Below Wq.heap.size Wq Wz29)) := hide (hide (HS.out.out.grown hg HS.out.out.size (fun k hk => (HO.out.lt k hk).1)))
          clear HS
          have HS := HS'
          clear HS'
          clear hg HO
          obtain ⟨g30, cp31, rfl, hA2, hA3, _, hA4, hA5⟩ := own_form hA (by decide)
          have HO := hide hA2
          have HB3 := hide hA3
          clear hA hA2 hA3 hA4 hA5
          refine HR.out _ _ HS.out ?_
          clear HR
          (simp only [Act.put, List.setIfInBounds_toArray, List.set_cons_zero, List.set_cons_succ])
          refine plan3_run (o := ?_) (by simp only [List.getElem?_toArray, List.getElem?_cons_succ, List.getElem?_cons_zero]; rfl) ?_
          intro R HR
          clear HO
          go_wp2_with fail
          with_reducible refine (tag_node g30 64 cp31 (treeL p ++ treeL [d]) Wz29 (HW9.out.1.tab.below HS.out.out) HB3.out HLN.out (by decide)).mono ?_
          rintro e Wz32 ⟨rfl, hb⟩
          have HS' : Hid (Hid (Below Wq.heap.size Wq Wz32)) := hide (hide (below_one HS.out.out hb))
          clear HS
          have HS := HS'
          clear HS'
          clear hb HB3
          go_wp2_with fail
          refine HR.out _ _ HS.out ?_
          clear HR
          (refine plan3_take (o := ?_) (by simp only [List.getElem?_toArray, List.getElem?_cons_succ, List.getElem?_cons_zero]; rfl) (yields_neq (by rfl) (.tmp 44) (.tmp 50) 26 rfl (tagd tNode (treeL p ++ treeL [d])) (tagd tNode (treeL p ++ treeL [d])) rfl rfl (tagd_len _ _) (tagd_len _ _) false (by simp)) ?_; (simp only [Act.put, List.setIfInBounds_toArray, List.set_cons_zero, List.set_cons_succ]))
          (refine plan3_take (o := ?_) (v := ?_) (by simp only [List.getElem?_toArray, List.getElem?_cons_succ, List.getElem?_cons_zero]; rfl) (yields_run (by rfl) ?_) ?_; rotate_left; (focus (intro w' _; go_simp <;> with_reducible rfl)); (simp only [Act.put, List.setIfInBounds_toArray, List.set_cons_zero, List.set_cons_succ]))
          (refine plan3_take (o := ?_) (v := ?_) (by simp only [List.getElem?_toArray, List.getElem?_cons_succ, List.getElem?_cons_zero]; rfl) (yields_run (by rfl) ?_) ?_; rotate_left; (focus (intro w' _; go_simp <;> with_reducible rfl)); (simp only [Act.put, List.setIfInBounds_toArray, List.set_cons_zero, List.set_cons_succ]))
          (refine plan3_take (o := ?_) (v := ?_) (by simp only [List.getElem?_toArray, List.getElem?_cons_succ, List.getElem?_cons_zero]; rfl) (yields_run (by rfl) ?_) ?_; rotate_left; (focus (intro w' _; go_simp <;> with_reducible rfl)); (simp only [Act.put, List.setIfInBounds_toArray, List.set_cons_zero, List.set_cons_succ]))
          (refine plan3_take (o := ?_) (v := ?_) (by simp only [List.getElem?_toArray, List.getElem?_cons_succ, List.getElem?_cons_zero]; rfl) (yields_run (by rfl) ?_) ?_; rotate_left; (focus (intro w' _; go_simp <;> with_reducible rfl)); (simp only [Act.put, List.setIfInBounds_toArray, List.set_cons_zero, List.set_cons_succ]))
          (refine plan3_take (o := ?_) (v := ?_) (by simp only [List.getElem?_toArray, List.getElem?_cons_succ, List.getElem?_cons_zero]; rfl) (yields_run (by rfl) ?_) ?_; rotate_left; (focus (intro w' _; go_simp <;> with_reducible rfl)); (simp only [Act.put, List.setIfInBounds_toArray, List.set_cons_zero, List.set_cons_succ]))
          (refine plan3_take (o := ?_) (v := ?_) (by simp only [List.getElem?_toArray, List.getElem?_cons_succ, List.getElem?_cons_zero]; rfl) (yields_run (by rfl) ?_) ?_; rotate_left; (focus (intro w' _; go_simp <;> with_reducible rfl)); (simp only [Act.put, List.setIfInBounds_toArray, List.set_cons_zero, List.set_cons_succ]))
          (refine plan3_take (o := ?_) (v := ?_) (by simp only [List.getElem?_toArray, List.getElem?_cons_succ, List.getElem?_cons_zero]; rfl) (yields_run (by rfl) ?_) ?_; rotate_left; (focus (intro w' _; go_simp <;> with_reducible rfl)); (simp only [Act.put, List.setIfInBounds_toArray, List.set_cons_zero, List.set_cons_succ]))
          (refine plan3_take (o := ?_) (v := ?_) (by simp only [List.getElem?_toArray, List.getElem?_cons_succ, List.getElem?_cons_zero]; rfl) (yields_run (by rfl) ?_) ?_; rotate_left; (focus (intro w' _; go_simp <;> with_reducible rfl)); (simp only [Act.put, List.setIfInBounds_toArray, List.set_cons_zero, List.set_cons_succ]))
          (refine plan3_take (o := ?_) (v := ?_) (by simp only [List.getElem?_toArray, List.getElem?_cons_succ, List.getElem?_cons_zero]; rfl) (yields_run (by rfl) ?_) ?_; rotate_left; (focus (intro w' _; go_simp <;> with_reducible rfl)); (simp only [Act.put, List.setIfInBounds_toArray, List.set_cons_zero, List.set_cons_succ]))
          (refine plan3_take (o := ?_) (v := ?_) (by simp only [List.getElem?_toArray, List.getElem?_cons_succ, List.getElem?_cons_zero]; rfl) (yields_run (by rfl) ?_) ?_; rotate_left; (focus (intro w' _; go_simp <;> with_reducible rfl)); (simp only [Act.put, List.setIfInBounds_toArray, List.set_cons_zero, List.set_cons_succ]))
          (refine plan3_take (o := ?_) (v := ?_) (by simp only [List.getElem?_toArray, List.getElem?_cons_succ, List.getElem?_cons_zero]; rfl) (yields_run (by rfl) ?_) ?_; rotate_left; (focus (intro w' _; go_simp <;> with_reducible rfl)); (simp only [Act.put, List.setIfInBounds_toArray, List.set_cons_zero, List.set_cons_succ]))
          (refine plan3_take (o := ?_) (v := ?_) (by simp only [List.getElem?_toArray, List.getElem?_cons_succ, List.getElem?_cons_zero]; rfl) (yields_run (by rfl) ?_) ?_; rotate_left; (focus (intro w' _; go_simp <;> with_reducible rfl)); (simp only [Act.put, List.setIfInBounds_toArray, List.set_cons_zero, List.set_cons_succ]))
          (refine plan3_take (o := ?_) (by simp only [List.getElem?_toArray, List.getElem?_cons_succ, List.getElem?_cons_zero]; rfl) (yieldsIf_load_mid (by rfl) 26 (.tmp 63) rfl b2 _ rfl (bc (treeL p)) _ (fun W h => by simpa using HR2.out W h.out) Tryd.underlying26 rfl HS1.out) ?_; (simp only [Act.put, List.setIfInBounds_toArray, List.set_cons_zero, List.set_cons_succ]))
          (refine plan3_take (o := ?_) (by simp only [List.getElem?_toArray, List.getElem?_cons_succ, List.getElem?_cons_zero]; rfl) (yieldsIf_load_mid (by rfl) 26 (.tmp 7) rfl X 0 rfl (bc (treeL p)) _ (fun _ h => bs_range (HW9.out.2.1.below h.out HW9.out.2.1.lt).bs) Tryd.underlying26 rfl HS1.out) ?_; (simp only [Act.put, List.setIfInBounds_toArray, List.set_cons_zero, List.set_cons_succ]))
          (refine plan3_take (o := ?_) (by simp only [List.getElem?_toArray, List.getElem?_cons_succ, List.getElem?_cons_zero]; rfl) (yields_neq (by rfl) (.tmp 64) (.tmp 65) 26 rfl (treeL p) (treeL p) rfl rfl HL1.out HL1.out false (by simp)) ?_; (simp only [Act.put, List.setIfInBounds_toArray, List.set_cons_zero, List.set_cons_succ]))
          (refine plan3_take (o := ?_) (v := ?_) (by simp only [List.getElem?_toArray, List.getElem?_cons_succ, List.getElem?_cons_zero]; rfl) (yields_run (by rfl) ?_) ?_; rotate_left; (focus (intro w' _; go_simp <;> with_reducible rfl)); (simp only [Act.put, List.setIfInBounds_toArray, List.set_cons_zero, List.set_cons_succ]))
          refine plan3_done ?_
          have HJ' : Hid (TN w d (some ⟨b, o, none⟩) N c L Wz32 ∧ Tri (ptr X) (ptr Y) x27 Wz32) := hide ⟨HW9.out.1.below HS.out.out, HW9.out.2.2.2.1.below HS.out.out⟩
          go_wp2_with fail
          go_roundw
          case rel => exact ⟨2 * q, j + 1, by go_num, by rw [HQ0.out, Nat.pow_succ]; omega, by omega, HJ'⟩
          case measure => simp [intOf]; omega
        · intro R HR
          go_wp2_with fail
          refine HR.out _ _ (show Hid (Below Wq.heap.size Wq (Wd.alloc (.cells #[] 5))) from hide (below_one HS.out.out (below_new _ _))) ?_
          clear HR
          refine plan3_namedN ?_
          intro Wz33 HWn
          have HS' : Hid (Hid (Below Wq.heap.size Wq Wz33)) := by
            have e : Wz33 = Wd.alloc (.cells #[] 5) := HWn.out
            subst e
            exact hide (hide (below_one HS.out.out (below_new _ _)))
          have HO' : Hid (Wz33.ownsRow Wq.heap.size 5 1 (.slice (some ⟨Wd.heap.size, 0, none⟩) 0 0) 0 (bc [])) := by
            have e : Wz33 = Wd.alloc (.cells #[] 5) := HWn.out
            subst e
            exact hide (own_empty _ _ 5 5 1 rfl HS.out.out.size)
          clear HS
          have HS := HS'
          have HO := HO'
          clear HS' HO' HWn
          refine plan3_run (o := ?_) (by simp only [List.getElem?_toArray, List.getElem?_cons_succ, List.getElem?_cons_zero]; rfl) ?_
          intro R HR
          go_wp2_with fail
          with_reducible refine (HTF.out Wz33 HS.out.out).mono ?_
          rintro e Wz34 ⟨rfl, hb⟩
          have HS' : Hid (Hid (Below Wq.heap.size Wq Wz34)) := hide (hide (below_one HS.out.out hb))
          have HO' : Hid (Wz34.ownsRow Wq.heap.size 5 1 (.slice (some ⟨Wd.heap.size, 0, none⟩) 0 0) 0 (bc [])) := hide (own_below HO.out hb)
          clear HS HO
          have HS := HS'
          have HO := HO'
          clear HS' HO'
          clear hb
          go_wp2_with fail
          refine HR.out _ _ HS.out ?_
          clear HR
          refine plan3_run (o := ?_) (by simp only [List.getElem?_toArray, List.getElem?_cons_succ, List.getElem?_cons_zero]; rfl) ?_
          intro R HR
          refine wpList_of_wp (by rfl) (wp_app5 (.tmp 45) (.tmp 46) rfl Wq.heap.size _ 0 [] rfl HO.out (some ⟨X, 0, none⟩) 32 32 (treeL p) rfl ⟨HL1.out.symm, Sb.of (HW9.out.2.1.below HS.out.out HW9.out.2.1.lt).bs, fun h => by cases h⟩ (by decide) HS.out.out.size 32 (treeL p) rfl rfl ?_)
          intro v Wz35 hA hg
          have HS' : Hid (Hid (Below Wq.heap.size Wq Wz35)) := hide (hide (HS.out.out.grown hg HS.out.out.size (fun k hk => (HO.out.lt k hk).1)))
          clear HS
          have HS := HS'
          clear HS'
          clear hg HO
          obtain ⟨g36, cp37, rfl, hA2, hA3, _, hA4, hA5⟩ := own_form hA (by decide)
          have HO := hide hA2
          clear hA hA2 hA3 hA4 hA5
          refine HR.out _ _ HS.out ?_
          clear HR
          (simp only [Act.put, List.setIfInBounds_toArray, List.set_cons_zero, List.set_cons_succ])
          refine plan3_run (o := ?_) (by simp only [List.getElem?_toArray, List.getElem?_cons_succ, List.getElem?_cons_zero]; rfl) ?_
          intro R HR
          refine wpList_of_wp (by rfl) (wp_app5 (.tmp 47) (.tmp 48) rfl Wq.heap.size _ 32 (treeL p) rfl HO.out (some ⟨Y, 0, none⟩) 32 32 (treeL [d]) rfl ⟨HL2.out.symm, Sb.of (HW9.out.2.2.1.below HS.out.out HW9.out.2.2.1.lt).bs, fun h => by cases h⟩ (by decide) HS.out.out.size 64 (treeL p ++ treeL [d]) rfl rfl ?_)
          intro v Wz38 hA hg
          have HS' : Hid (Hid (Below Wq.heap.size Wq Wz38)) := hide (hide (HS.out.out.grown hg HS.out.out.size (fun k hk => (HO.out.lt k hk).1)))
          clear HS
          have HS := HS'
          clear HS'
          clear hg HO
          obtain ⟨g39, cp40, rfl, hA2, hA3, _, hA4, hA5⟩ := own_form hA (by decide)
          have HO := hide hA2
          have HB3 := hide hA3
          clear hA hA2 hA3 hA4 hA5
          refine HR.out _ _ HS.out ?_
          clear HR
          (simp only [Act.put, List.setIfInBounds_toArray, List.set_cons_zero, List.set_cons_succ])
          refine plan3_run (o := ?_) (by simp only [List.getElem?_toArray, List.getElem?_cons_succ, List.getElem?_cons_zero]; rfl) ?_
          intro R HR
          clear HO
          go_wp2_with fail
          with_reducible refine (tag_node g39 64 cp40 (treeL p ++ treeL [d]) Wz38 (HW9.out.1.tab.below HS.out.out) HB3.out HLN.out (by decide)).mono ?_
          rintro e Wz41 ⟨rfl, hb⟩
          have HS' : Hid (Hid (Below Wq.heap.size Wq Wz41)) := hide (hide (below_one HS.out.out hb))
          clear HS
          have HS := HS'
          clear HS'
          clear hb HB3
          go_wp2_with fail
          refine HR.out _ _ HS.out ?_
          clear HR
          (refine plan3_take (o := ?_) (by simp only [List.getElem?_toArray, List.getElem?_cons_succ, List.getElem?_cons_zero]; rfl) (yields_neq (by rfl) (.tmp 44) (.tmp 50) 26 rfl (tagd tNode (treeL p ++ treeL [d])) (tagd tNode (treeL p ++ treeL [d])) rfl rfl (tagd_len _ _) (tagd_len _ _) false (by simp)) ?_; (simp only [Act.put, List.setIfInBounds_toArray, List.set_cons_zero, List.set_cons_succ]))
          (refine plan3_take (o := ?_) (v := ?_) (by simp only [List.getElem?_toArray, List.getElem?_cons_succ, List.getElem?_cons_zero]; rfl) (yields_run (by rfl) ?_) ?_; rotate_left; (focus (intro w' _; go_simp <;> with_reducible rfl)); (simp only [Act.put, List.setIfInBounds_toArray, List.set_cons_zero, List.set_cons_succ]))
          (refine plan3_take (o := ?_) (v := ?_) (by simp only [List.getElem?_toArray, List.getElem?_cons_succ, List.getElem?_cons_zero]; rfl) (yields_run (by rfl) ?_) ?_; rotate_left; (focus (intro w' _; go_simp <;> with_reducible rfl)); (simp only [Act.put, List.setIfInBounds_toArray, List.set_cons_zero, List.set_cons_succ]))
          (refine plan3_take (o := ?_) (v := ?_) (by simp only [List.getElem?_toArray, List.getElem?_cons_succ, List.getElem?_cons_zero]; rfl) (yields_run (by rfl) ?_) ?_; rotate_left; (focus (intro w' _; go_simp <;> with_reducible rfl)); (simp only [Act.put, List.setIfInBounds_toArray, List.set_cons_zero, List.set_cons_succ]))
          (refine plan3_take (o := ?_) (v := ?_) (by simp only [List.getElem?_toArray, List.getElem?_cons_succ, List.getElem?_cons_zero]; rfl) (yields_run (by rfl) ?_) ?_; rotate_left; (focus (intro w' _; go_simp <;> with_reducible rfl)); (simp only [Act.put, List.setIfInBounds_toArray, List.set_cons_zero, List.set_cons_succ]))
          (refine plan3_take (o := ?_) (v := ?_) (by simp only [List.getElem?_toArray, List.getElem?_cons_succ, List.getElem?_cons_zero]; rfl) (yields_run (by rfl) ?_) ?_; rotate_left; (focus (intro w' _; go_simp <;> with_reducible rfl)); (simp only [Act.put, List.setIfInBounds_toArray, List.set_cons_zero, List.set_cons_succ]))
          (refine plan3_take (o := ?_) (v := ?_) (by simp only [List.getElem?_toArray, List.getElem?_cons_succ, List.getElem?_cons_zero]; rfl) (yields_run (by rfl) ?_) ?_; rotate_left; (focus (intro w' _; go_simp <;> with_reducible rfl)); (simp only [Act.put, List.setIfInBounds_toArray, List.set_cons_zero, List.set_cons_succ]))
          (refine plan3_take (o := ?_) (v := ?_) (by simp only [List.getElem?_toArray, List.getElem?_cons_succ, List.getElem?_cons_zero]; rfl) (yields_run (by rfl) ?_) ?_; rotate_left; (focus (intro w' _; go_simp <;> with_reducible rfl)); (simp only [Act.put, List.setIfInBounds_toArray, List.set_cons_zero, List.set_cons_succ]))
          (refine plan3_take (o := ?_) (v := ?_) (by simp only [List.getElem?_toArray, List.getElem?_cons_succ, List.getElem?_cons_zero]; rfl) (yields_run (by rfl) ?_) ?_; rotate_left; (focus (intro w' _; go_simp <;> with_reducible rfl)); (simp only [Act.put, List.setIfInBounds_toArray, List.set_cons_zero, List.set_cons_succ]))
          (refine plan3_take (o := ?_) (v := ?_) (by simp only [List.getElem?_toArray, List.getElem?_cons_succ, List.getElem?_cons_zero]; rfl) (yields_run (by rfl) ?_) ?_; rotate_left; (focus (intro w' _; go_simp <;> with_reducible rfl)); (simp only [Act.put, List.setIfInBounds_toArray, List.set_cons_zero, List.set_cons_succ]))
          (refine plan3_take (o := ?_) (v := ?_) (by simp only [List.getElem?_toArray, List.getElem?_cons_succ, List.getElem?_cons_zero]; rfl) (yields_run (by rfl) ?_) ?_; rotate_left; (focus (intro w' _; go_simp <;> with_reducible rfl)); (simp only [Act.put, List.setIfInBounds_toArray, List.set_cons_zero, List.set_cons_succ]))
          (refine plan3_take (o := ?_) (v := ?_) (by simp only [List.getElem?_toArray, List.getElem?_cons_succ, List.getElem?_cons_zero]; rfl) (yields_run (by rfl) ?_) ?_; rotate_left; (focus (intro w' _; go_simp <;> with_reducible rfl)); (simp only [Act.put, List.setIfInBounds_toArray, List.set_cons_zero, List.set_cons_succ]))
          (refine plan3_take (o := ?_) (v := ?_) (by simp only [List.getElem?_toArray, List.getElem?_cons_succ, List.getElem?_cons_zero]; rfl) (yields_run (by rfl) ?_) ?_; rotate_left; (focus (intro w' _; go_simp <;> with_reducible rfl)); (simp only [Act.put, List.setIfInBounds_toArray, List.set_cons_zero, List.set_cons_succ]))
          (refine plan3_take (o := ?_) (by simp only [List.getElem?_toArray, List.getElem?_cons_succ, List.getElem?_cons_zero]; rfl) (yieldsIf_load_mid (by rfl) 26 (.tmp 63) rfl b2 _ rfl (bc (treeL p)) _ (fun W h => by simpa using HR2.out W h.out) Tryd.underlying26 rfl HS1.out) ?_; (simp only [Act.put, List.setIfInBounds_toArray, List.set_cons_zero, List.set_cons_succ]))
          (refine plan3_take (o := ?_) (by simp only [List.getElem?_toArray, List.getElem?_cons_succ, List.getElem?_cons_zero]; rfl) (yieldsIf_load_mid (by rfl) 26 (.tmp 7) rfl X 0 rfl (bc (treeL p)) _ (fun _ h => bs_range (HW9.out.2.1.below h.out HW9.out.2.1.lt).bs) Tryd.underlying26 rfl HS1.out) ?_; (simp only [Act.put, List.setIfInBounds_toArray, List.set_cons_zero, List.set_cons_succ]))
          (refine plan3_take (o := ?_) (by simp only [List.getElem?_toArray, List.getElem?_cons_succ, List.getElem?_cons_zero]; rfl) (yields_neq (by rfl) (.tmp 64) (.tmp 65) 26 rfl (treeL p) (treeL p) rfl rfl HL1.out HL1.out false (by simp)) ?_; (simp only [Act.put, List.setIfInBounds_toArray, List.set_cons_zero, List.set_cons_succ]))
          (refine plan3_take (o := ?_) (v := ?_) (by simp only [List.getElem?_toArray, List.getElem?_cons_succ, List.getElem?_cons_zero]; rfl) (yields_run (by rfl) ?_) ?_; rotate_left; (focus (intro w' _; go_simp <;> with_reducible rfl)); (simp only [Act.put, List.setIfInBounds_toArray, List.set_cons_zero, List.set_cons_succ]))
          refine plan3_done ?_
          have HJ' : Hid (TN w d (some ⟨b, o, none⟩) N c L Wz41 ∧ Tri (ptr X) (ptr Y) x27 Wz41) := hide ⟨HW9.out.1.below HS.out.out, HW9.out.2.2.2.1.below HS.out.out⟩
          go_wp2_with fail
          go_roundw
          case rel => exact ⟨2 * q, j + 1, by go_num, by rw [HQ0.out, Nat.pow_succ]; omega, by omega, HJ'⟩
          case measure => simp [intOf]; omega
    · have hgtI : ¬ (q : Int) ≤ (N : Int) := by omega
      go_wp2_with fail
      go_ret
      exact ⟨rfl, HJ.out.1.bel⟩

end Go.Proofs.YtnopibpakchejaaDoor
