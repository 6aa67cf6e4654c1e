/- The examples of the chapter, plain. -/
import Derived.Test.YtalgceplcahgbaaDoorAdd
import Derived.Lib.SlBytesConst
import Derived.Lib.SmallJoins
import Derived.Test.YtalgceplcahgbaaDoorRPad
namespace Go.Proofs.YtalgceplcahgbaaDoor
open Go.RowKit Go.Shelf

section
variable (H0 : List UInt8) (HL : Ln → List UInt8)
def gx : Ln := ⟨3, 0, H0, [120]⟩
def gy (d : UInt8) : Ln := ⟨3, 1, HL (gx H0), [d]⟩
theorem g_nil : chkA H0 HL [] = 0 := by simp [chkA, chainB, upB]
theorem g_a : chkA H0 HL [gx H0] = 0 := by simp [chkA, chainB, upB, lnkB, admB, headL, gx]
theorem g_b (d : UInt8) : chkA H0 HL [gx H0, gy H0 HL d] = 0 := by simp [chkA, chainB, upB, lnkB, admB, headL, gx, gy]
theorem g_one (p : List UInt8) : chkA H0 HL [⟨0, 1, p, []⟩] = 80 := by simp [chkA, chainB, upB, lnkB]
theorem g_tail (d : UInt8) : chkA H0 HL [gy H0 HL d] = 80 := by simp [chkA, chainB, upB, lnkB, gy]
end
def x0 : Ln := gx hd0
def y1 (d : UInt8) : Ln := gy hd0 hdL d
theorem hd_x0 : hdA [x0] = hdL x0 := by simp [hdA, headL]
theorem add_1 : addA [] 3 [120] = (some x0, 0) := by
  unfold addA
  rw [g_nil, if_neg (by simp), if_neg (by simp [admB]), if_neg (by simp)]
  rfl
theorem add_2 (d : UInt8) : addA [x0] 3 [d] = (some (y1 d), 0) := by
  unfold addA
  have h : chkA hd0 hdL [x0] = 0 := g_a _ _
  rw [h, if_neg (by simp), if_neg (by simp [admB, x0, gx]), if_neg (by simp), hd_x0]
  rfl
theorem add_3 : addA [] 24 [] = (none, 1) := by
  unfold addA
  rw [g_nil, if_neg (by simp), if_pos (by simp [admB])]
theorem add_4 : addA [x0] 4 [] = (none, 1) := by
  unfold addA
  have h : chkA hd0 hdL [x0] = 0 := g_a _ _
  rw [h, if_neg (by simp), if_pos (by simp [admB, x0, gx])]
theorem same_x0 : x0.same x0 = true := Ln.same_iff.2 rfl
theorem same_y1 : (y1 121).same (y1 122) = false := Ln.same_no.2 (by simp [y1, gy])
theorem part_1 : partA [x0, y1 121] [x0, y1 122] = (1, true, 0) := by
  unfold partA
  have h1 : chkA hd0 hdL [x0, y1 121] = 0 := g_b _ _ _
  have h2 : chkA hd0 hdL [x0, y1 122] = 0 := g_b _ _ _
  rw [h1, if_neg (by simp), h2, if_neg (by simp), if_neg (by simp)]
  have : firstD [x0, y1 121] [x0, y1 122] 2 = some 1 := by simp [firstD, same_x0, same_y1]
  rw [show min [x0, y1 121].length [x0, y1 122].length = 2 from rfl, this]
  rfl
theorem part_2 : partA [x0] [x0, y1 121] = (0, false, 0) := by
  unfold partA
  have h1 : chkA hd0 hdL [x0] = 0 := g_a _ _
  have h2 : chkA hd0 hdL [x0, y1 121] = 0 := g_b _ _ _
  rw [h1, if_neg (by simp), h2, if_neg (by simp), if_neg (by simp)]
  have : firstD [x0] [x0, y1 121] 1 = none := by simp [firstD, same_x0]
  rw [show min [x0].length [x0, y1 121].length = 1 from rfl, this]
  rfl
theorem part_3 : partA [] [x0] = (0, false, 0) := by
  unfold partA
  have h2 : chkA hd0 hdL [x0] = 0 := g_a _ _
  rw [g_nil, if_neg (by simp), h2, if_neg (by simp), if_neg (by simp)]
  rfl
theorem chk_nil : chkA hd0 hdL [] = 0 := g_nil _ _
theorem chk_b : chkA hd0 hdL [x0, y1 121] = 0 := g_b _ _ _
theorem chk_one (p : List UInt8) : chkA hd0 hdL [⟨0, 1, p, []⟩] = 80 := g_one _ _ p
theorem chk_tail : chkA hd0 hdL [y1 121] = 80 := g_tail _ _ _
/-- The text of a first link. -/
theorem lenc_first (p : List UInt8) (h : p.length = 32) : lenc ⟨3, 0, p, [120]⟩ = [3, 4, 1, 6, 1, 0, 2, 32] ++ p ++ [2, 1, 120] := by
  have e1 : Cdc.numeral (Cdc.uns 3) = [6] := by decide
  have e2 : Cdc.numeral (Cdc.uns 0) = [0] := by decide
  have e3 : Cdc.numeral 32 = [32] := by decide
  have e4 : Cdc.numeral 1 = [1] := by decide
  have e5 : Cdc.numeral 4 = [4] := by decide
  simp [lenc, lnkT, Cdc.VT.enc, Cdc.VT.enc.encs, Cdc.intT, Cdc.textT, e1, e2, e3, e4, e5, h, ByteArray.size]
theorem head_a : hdA [x0] = tagd [108, 105, 110, 107] ([3, 4, 1, 6, 1, 0, 2, 32] ++ hd0 ++ [2, 1, 120]) := by
  rw [hd_x0]
  unfold hdL
  rw [show lenc x0 = _ from lenc_first hd0 (tagd_32 _ _)]
end Go.Proofs.YtalgceplcahgbaaDoor

/- sane of the statements. -/
namespace Go.Proofs.YtalgceplcahgbaaDoor
open Go.RowKit Go.Shelf

/-- Three lists in memory. -/
structure SE (w : World) (ga gb gc : Nat) (ra ry rz : Lr) (W : World) : Prop where
  bel : Below w.heap.size w W
  a : Lks W (some ⟨ga, 0, none⟩) [ra]
  b : Lks W (some ⟨gb, 0, none⟩) [ra, ry]
  c : Lks W (some ⟨gc, 0, none⟩) [ra, rz]
theorem SE.below {w : World} {ga gb gc : Nat} {ra ry rz : Lr} {W W' : World} (h : SE w ga gb gc ra ry rz W) (hb : Below W.heap.size W W') : SE w ga gb gc ra ry rz W' := ⟨below_one h.bel hb, h.a.below hb, h.b.below hb, h.c.below hb⟩
theorem Lks.tail {w : World} {b o : Nat} {r s : Lr} (h : Lks w (some ⟨b, o, none⟩) [r, s]) : Lks w (some ⟨b, o + 35, none⟩) [s] :=
  ⟨fun _ => by
    obtain ⟨b', o', h1, h2, h3⟩ := h.cel (by simp)
    injection h1 with h1
    injection h1 with h1 h4
    subst h1
    subst h4
    refine ⟨b, o + 35, rfl, h2, fun i hi => ?_⟩
    obtain rfl : i = 0 := by simpa using hi
    have := h3 1 (by simp)
    simpa using this, fun q hq => h.each q (by simp at hq; simp [hq])⟩
theorem src_one (W : World) (d : UInt8) : Src (W.alloc (.cells #[.int .u8 d.toNat] 5 (1, 2))) (some ⟨W.heap.size, 0, none⟩) 1 1 [d] :=
  ⟨rfl, fun _ => ⟨W.heap.size, 0, rfl, fun i hi => by
    obtain rfl : i = 0 := by simpa using hi
    exact World.cell?_alloc_mark W _ _ _ 0⟩, fun h => by cases h⟩
theorem src_nil (W : World) : Src W none 0 0 [] := ⟨rfl, fun h => absurd rfl h, fun _ => rfl⟩

/-- A link of which only No is named. -/
def rn : Lr := ⟨⟨0, 1, List.replicate 32 0, []⟩, none, 0⟩
theorem built60n : Tryd.prog.built 60 [(1, .int .i64 1)] = some rn.cs.toArray := by kernel_rfl
theorem wpList_build60n {ops : Array Oper} {Q : Exit → Act → World → Prop} {o : Oper} {rest : List Oper} {a : Act} {w : World} (hw : Region.wanted o (yielded ops a.tmps) = true) (ho : o.op = .build 60 #[(1, .const (.int .i64 1))])
    (hk : wpList Tryd.prog ops Q rest (a.put o.dst rn.v) w) : wpList Tryd.prog ops Q (o :: rest) a w :=
  wpList_of_wp hw (by
    have hb : Tryd.prog.built 60 ((#[(1, Operand.const (.int .i64 1))] : Array (Nat × Operand)).map fun (i, x) => (i, a.eval x)).toList = some rn.cs.toArray := by
      simp only [List.map_toArray, List.map_cons, List.map_nil]
      exact built60n
    exact wp_build 60 _ ho (by rw [hb]; rfl) (by rw [hb]; exact hk))
theorem rn_in (w : World) : rn.In w := ⟨by simp [rn], by decide, by decide, src_nil w, by decide, by decide⟩
theorem rn_lks (w : World) : Lks (w.alloc (.cells rn.cs.toArray 60)) (some ⟨w.heap.size, 0, none⟩) [rn] :=
  ⟨fun _ => ⟨w.heap.size, 0, rfl, by simp, fun i hi => by
    obtain rfl : i = 0 := by simpa using hi
    intro j v hv
    have := (Blk.new w 60 rn.cs).cell j
    simp only [Nat.zero_mul, Nat.zero_add]
    exact this.trans hv⟩, fun q hq => by rw [List.mem_singleton.1 hq]; exact rn_in _⟩
theorem own_lit (W : World) (l : List UInt8) (hl : l.length ≤ 1000) : (W.alloc (.cells (bc l).toArray 5)).ownsRow W.heap.size 5 1 (.slice (some ⟨W.heap.size, 0, none⟩) l.length l.length) l.length (bc l) :=
  ⟨by simp [bc_len], .inr ⟨W.heap.size, l.length, (bc l).toArray, rfl, Nat.le_refl _, heap_alloc_new W _, Nat.le_refl _, by unfold maxLen; omega, by simp [bc_len], by rw [Nat.mul_one, ← bc_len l]; simp⟩⟩
theorem src_lit (W : World) (l : List UInt8) : Src (W.alloc (.cells (bc l).toArray 5)) (some ⟨W.heap.size, 0, none⟩) l.length l.length l :=
  ⟨rfl, Sb.of (Blk.new W 5 (bc l)).bs, fun h => by cases h⟩
theorem PI.of2 {w W1 W : World} {v v' : Value} {l L : List UInt8} {n N : Nat} (h : W1.ownsRow w.heap.size 5 1 v n (bc l)) (hn : n = l.length) (hb : Below w.heap.size w W1) (h2 : W.ownsRow w.heap.size 5 1 v' N (bc L)) (h3 : W1.grownBy W v.ownBlock) (hN : N = L.length) (hpos : 0 < N) :
    ∃ g cap, v' = .slice (some ⟨g, 0, none⟩) N cap ∧ PI w g cap L W := by
  subst hn
  exact PI.of h hb h2 h3 hN hpos
theorem Lks.parts {w : World} {b o : Nat} {l : List Lr} {k : Nat} (h : Lks w (some ⟨b, o, none⟩) l) (hk : k < l.length) : w.rangeAt b (o + k * 35 + 2) (bc (l[k]).x.prev) ∧ w.cell? ⟨b, o + k * 35 + 1, none⟩ = some (.int .i64 (l[k]).x.no) ∧ w.cell? ⟨b, o + k * 35 + 34, none⟩ = some (l[k]).dv ∧ (l[k]).In w := by
  obtain ⟨b', o', h1, _, h3, h4⟩ := h.at hk
  injection h1 with h1
  injection h1 with h1 h5
  subst h1
  subst h5
  refine ⟨fun j v hv => ?_, h3 1 _ (Lr.c1 _), h3 34 _ (Lr.c34 h4), h4⟩
  have hj := (List.getElem?_eq_some_iff.1 hv).1
  rw [bc_len, h4.p32] at hj
  have := h3 (2 + j) v (by rw [Lr.cp h4 j hj]; exact hv)
  rwa [show o + k * 35 + 2 + j = o + k * 35 + (2 + j) by omega]
set_option maxRecDepth 40000 in
set_option maxHeartbeats 6400000 in
theorem sane_any (w : World) (hT : Tab w) : Calls Tryd.prog 33 #[] w fun e w' => e = .returned (.bool true) ∧ Below w.heap.size w w' := by
  have HT := hide hT
  clear hT
  have hsh : ∀ l : List Lr, (∀ r ∈ l, r.x.data.length ≤ 1) → Short l := fun l h r hr => by have := h r hr; omega
  have HSH := hide hsh
  clear hsh
  have kcv := fun (w : World) (C : Array Value) (n c : Nat) => Lib.run_convert_bytes_const (P := Tryd.prog) w 22 5 C n c Tryd.underlying22 Tryd.underlying5
  go_enter Tryd.func33, Tryd.ntmps33
  go_wp2_with fail
  have HW := hide (below_new w (.cells #[.int .u8 120] 5 (1, 2)))
  have HC := hide (add_any none (some ⟨w.heap.size, 0, none⟩) [] 0 1 3 [120] _ (HT.out.below HW.out) (Lks.nil _ _) (by decide) (by decide) (fun r hr => by cases hr) (fun _ => rfl) (by decide) (src_one w 120) (by decide) (by decide))
  rw [show lnks [] = [] from rfl, add_1] at HC
  refine HC.out.mono ?_
  rintro e w1 ⟨ga, ka, rfl, hla, hka, hka2, hb⟩
  have HB1 := hide (below_one HW.out hb)
  have HLA := hide hla
  have HKA := hide (And.intro hka hka2)
  simp only [List.nil_append, List.length_cons, List.length_nil] at hka HLA HKA ⊢
  generalize hra : Lr.mk x0 (some ⟨w.heap.size, 0, none⟩) 1 = ra at *
  have HXA := hide (show ra.x = x0 from by rw [← hra])
  clear hb hla hka hka2 HW HC hra
  go_wp2_with fail
  have HW := hide (below_new w1 (.cells #[.int .u8 121] 5 (1, 2)))
  have HC := hide (add_any (some ⟨ga, 0, none⟩) (some ⟨w1.heap.size, 0, none⟩) [ra] ka 1 3 [121] _ (HT.out.below (below_one HB1.out HW.out)) (HLA.out.below HW.out) HKA.out.1 HKA.out.2 (HSH.out _ (fun r hr => by rw [List.mem_singleton.1 hr, HXA.out]; decide)) (fun h => by cases h) (by decide) (src_one w1 121) (by decide) (by decide))
  rw [show lnks [ra] = [x0] from by simp [lnks, HXA.out], add_2] at HC
  refine HC.out.mono ?_
  rintro e w2 ⟨gb, kb, rfl, hlb, hkb, hkb2, hb⟩
  have HB2 := hide (below_one HB1.out (below_one HW.out hb))
  have HLB := hide hlb
  have HKB := hide (And.intro hkb hkb2)
  have HLAB := hide ((HLA.out.below HW.out).below hb)
  simp only [List.cons_append, List.nil_append, List.length_cons, List.length_nil] at HLB HKB ⊢
  generalize hrb : Lr.mk (y1 121) (some ⟨w1.heap.size, 0, none⟩) 1 = rb at *
  have HXB := hide (show rb.x = y1 121 from by rw [← hrb])
  clear hb hlb hkb hkb2 HW HC hrb HLA HB1
  go_wp2_with fail
  have HW := hide (below_new w2 (.cells #[.int .u8 122] 5 (1, 2)))
  have HC := hide (add_any (some ⟨ga, 0, none⟩) (some ⟨w2.heap.size, 0, none⟩) [ra] ka 1 3 [122] _ (HT.out.below (below_one HB2.out HW.out)) (HLAB.out.below HW.out) HKA.out.1 HKA.out.2 (HSH.out _ (fun r hr => by rw [List.mem_singleton.1 hr, HXA.out]; decide)) (fun h => by cases h) (by decide) (src_one w2 122) (by decide) (by decide))
  rw [show lnks [ra] = [x0] from by simp [lnks, HXA.out], add_2] at HC
  refine HC.out.mono ?_
  rintro e w3 ⟨gc, kc, rfl, hlc, hkc, hkc2, hb⟩
  have HB3 := hide (below_one HB2.out (below_one HW.out hb))
  have HLC := hide hlc
  have HKC := hide (And.intro hkc hkc2)
  have HLAC := hide ((HLAB.out.below HW.out).below hb)
  have HLBC := hide ((HLB.out.below HW.out).below hb)
  simp only [List.cons_append, List.nil_append, List.length_cons, List.length_nil] at HLC HKC ⊢
  generalize hrc : Lr.mk (y1 122) (some ⟨w2.heap.size, 0, none⟩) 1 = rc at *
  have HXC := hide (show rc.x = y1 122 from by rw [← hrc])
  clear hb hlc hkc hkc2 HW HC hrc HLAB HLB HB2
  go_wp2_with fail
  have HE := hide (show SE w ga gb gc ra rb rc w3 from ⟨HB3.out, HLAC.out, HLBC.out, HLC.out⟩)
  clear HB3 HLAC HLBC HLC
  have HC := hide (add_any none none [] 0 0 24 [] _ (HT.out.below HE.out.bel) (Lks.nil _ _) (by decide) (by decide) (fun r hr => by cases hr) (fun _ => rfl) (by decide) (src_nil w3) (by decide) (by decide))
  rw [show lnks [] = [] from rfl, add_3] at HC
  refine HC.out.mono ?_
  rintro e w4 ⟨rfl, hb⟩
  have HE4 := hide (HE.out.below hb)
  clear hb HC HE
  go_wp2_with fail
  have HC := hide (add_any (some ⟨ga, 0, none⟩) none [ra] ka 0 4 [] _ (HT.out.below HE4.out.bel) HE4.out.a HKA.out.1 HKA.out.2 (HSH.out _ (fun r hr => by rw [List.mem_singleton.1 hr, HXA.out]; decide)) (fun h => by cases h) (by decide) (src_nil w4) (by decide) (by decide))
  rw [show lnks [ra] = [x0] from by simp [lnks, HXA.out], add_4] at HC
  refine HC.out.mono ?_
  rintro e w5 ⟨rfl, hb⟩
  have HE5 := hide (HE4.out.below hb)
  clear hb HC HE4
  go_wp2_with fail
  have HSA := hide (HSH.out [ra] (fun r hr => by rw [List.mem_singleton.1 hr, HXA.out]; decide))
  have HSB := hide (HSH.out [ra, rb] (fun r hr => by
    simp only [List.mem_cons, List.not_mem_nil, or_false] at hr
    rcases hr with rfl | rfl
    · rw [HXA.out]; decide
    · rw [HXB.out]; decide))
  have HSC := hide (HSH.out [ra, rc] (fun r hr => by
    simp only [List.mem_cons, List.not_mem_nil, or_false] at hr
    rcases hr with rfl | rfl
    · rw [HXA.out]; decide
    · rw [HXC.out]; decide))
  have HNA := hide (show lnks [ra] = [x0] from by simp [lnks, HXA.out])
  have HNB := hide (show lnks [ra, rb] = [x0, y1 121] from by simp [lnks, HXA.out, HXB.out])
  have HNC := hide (show lnks [ra, rc] = [x0, y1 122] from by simp [lnks, HXA.out, HXC.out])
  have HC := hide (part_any (some ⟨gb, 0, none⟩) (some ⟨gc, 0, none⟩) [ra, rb] [ra, rc] kb kc w5 (HT.out.below HE5.out.bel) HE5.out.b HE5.out.c HKB.out.1 HKB.out.2 HKC.out.1 HKC.out.2 HSB.out HSC.out (fun h => by cases h))
  rw [HNB.out, HNC.out, part_1] at HC
  refine HC.out.mono ?_
  rintro e w6 ⟨rfl, hb⟩
  have HE6 := hide (HE5.out.below hb)
  clear hb HC HE5
  go_wp2_with fail
  have HC := hide (part_any (some ⟨ga, 0, none⟩) (some ⟨gb, 0, none⟩) [ra] [ra, rb] ka kb w6 (HT.out.below HE6.out.bel) HE6.out.a HE6.out.b HKA.out.1 HKA.out.2 HKB.out.1 HKB.out.2 HSA.out HSB.out (fun h => by cases h))
  rw [HNA.out, HNB.out, part_2] at HC
  refine HC.out.mono ?_
  rintro e w7 ⟨rfl, hb⟩
  have HE7 := hide (HE6.out.below hb)
  clear hb HC HE6
  go_wp2_with fail
  have HC := hide (part_any none (some ⟨ga, 0, none⟩) [] [ra] 0 ka w7 (HT.out.below HE7.out.bel) (Lks.nil _ _) HE7.out.a (by decide) (by decide) HKA.out.1 HKA.out.2 (fun r hr => by cases hr) HSA.out (fun _ => rfl))
  rw [show lnks [] = [] from rfl, HNA.out, part_3] at HC
  refine HC.out.mono ?_
  rintro e w8 ⟨rfl, hb⟩
  have HE8 := hide (HE7.out.below hb)
  clear hb HC HE7
  go_wp2_with fail
  clear kcv HNA HNC HSC HKC
  have HC := hide (check_any none [] 0 w8 (HT.out.below HE8.out.bel) (Lks.nil _ _) (by decide) (by decide) (fun r hr => by cases hr))
  rw [show lnks [] = [] from rfl, chk_nil] at HC
  refine HC.out.mono ?_
  rintro e w9 ⟨rfl, hb⟩
  have HE9 := hide (HE8.out.below hb)
  clear hb HC HE8
  go_wp2_with fail
  have HC := hide (check_any (some ⟨gb, 0, none⟩) [ra, rb] kb w9 (HT.out.below HE9.out.bel) HE9.out.b HKB.out.1 HKB.out.2 HSB.out)
  rw [HNB.out, chk_b] at HC
  refine HC.out.mono ?_
  rintro e w10 ⟨rfl, hb⟩
  have HE10 := hide (HE9.out.below hb)
  clear hb HC HE9
  go_wp2_with (first | (refine wpList_build60n rfl rfl ?_) | (refine wpList_slice60 rfl (.tmp 138) rfl rn (by simp [rn]) rfl ?_))
  have HE10' := hide (HE10.out.below (below_new w10 (.cells rn.cs.toArray 60)))
  have HC := hide (check_any (some ⟨w10.heap.size, 0, none⟩) [rn] 1 _ (HT.out.below HE10'.out.bel) (rn_lks w10) (by decide) (by decide) (HSH.out _ (fun r hr => by rw [List.mem_singleton.1 hr]; decide)))
  rw [show lnks [rn] = [⟨0, 1, List.replicate 32 0, []⟩] from rfl, chk_one] at HC
  refine HC.out.mono ?_
  rintro e w11 ⟨rfl, hb⟩
  have HE11 := hide (HE10'.out.below hb)
  clear hb HC HE10 HE10'
  have hkb1 : 1 ≤ kb := by have := HKB.out.1; omega
  have hkb2 : ((1 : Nat) : Int) ≤ kb := by omega
  have hkb3 : kb ≠ 1 := by have := HKB.out.1; omega
  go_wp2_with fail
  clear hkb2 hkb3
  have HC := hide (check_any (some ⟨gb, 35, none⟩) [rb] (kb - 1) w11 (HT.out.below HE11.out.bel) (Lks.tail HE11.out.b) (by have := HKB.out.1; simp; omega) (by have := HKB.out.2; omega) (HSH.out _ (fun r hr => by rw [List.mem_singleton.1 hr, HXB.out]; decide)))
  rw [show lnks [rb] = [y1 121] from by simp [lnks, HXB.out], chk_tail] at HC
  refine HC.out.mono ?_
  rintro e w12 ⟨rfl, hb⟩
  have HE12 := hide (HE11.out.below hb)
  clear hb HC HE11
  go_wp2_with fail
  refine (tagged_any ⟨#[110, 111, 110, 101]⟩ none 0 0 [] w12 (HT.out.below HE12.out.bel) (fun h => absurd rfl h) rfl (by omega) (by decide) (fun _ => rfl)).mono ?_
  rintro e w13 ⟨rfl, hb⟩
  have HE13 := hide (HE12.out.below hb)
  have H32 := hide (tagd_32 [110, 111, 110, 101] [])
  have HS0 := hide (show tagd [110, 111, 110, 101] [] = hd0 from rfl)
  rw [HS0.out] at H32 ⊢
  clear hb HE12
  have HZ26 := hide (show (Tryd.prog.info? 26).map (·.size) = some ((bc hd0).toArray).size by rw [dv_size _ H32.out]; exact Tryd.size26)
  have HXT := hide (show Blk ((w13.alloc (.cells (List.replicate 32 (.int .u8 0)).toArray 26)).setRow w13.heap.size (bc hd0).toArray) w13.heap.size 26 (bc hd0) from (Blk.new w13 26 (List.replicate 32 (.int .u8 0))).row _)
  have HBT := hide (show Below w13.heap.size w13 ((w13.alloc (.cells (List.replicate 32 (.int .u8 0)).toArray 26)).setRow w13.heap.size (bc hd0).toArray) from below_setRow (below_new w13 _) (Nat.le_refl _) _)
  go_upto_region 14 with (refine wpList_store_row rfl 26 (.tmp 20) (.tmp 149) rfl w13.heap.size (bc hd0).toArray rfl rfl 26 _ (heap_alloc_new w13 _) HZ26.out (by rw [dv_size _ H32.out]; rfl) (all_oneCell_toArray (bc_one _)) ?_)
  refine name_code ?_
  intro V hV
  have HXV := hide (show Blk V w13.heap.size 26 (bc hd0) from by rw [hV.out]; exact HXT.out)
  have HEV := hide (show SE w ga gb gc ra rb rc V from by rw [hV.out]; exact HE13.out.below HBT.out)
  clear hV HXT HBT HE13 HZ26
  obtain ⟨L1, hL1⟩ : ∃ L : List UInt8, L = [3, 4, 1, 6, 1, 0, 2, 32] ++ hd0 := ⟨_, rfl⟩
  obtain ⟨L2, hL2⟩ : ∃ L : List UInt8, L = L1 ++ [2, 1, 120] := ⟨_, rfl⟩
  have HL12 := hide (And.intro hL1 hL2)
  have HLN := hide (show L1.length = 40 by rw [hL1, List.length_append, H32.out]; rfl)
  have HLM := hide (show L2.length = 43 by rw [hL2, List.length_append, HLN.out]; rfl)
  clear hL1 hL2
  have HO1 := hide (own_lit V [3, 4, 1, 6, 1, 0, 2, 32] (by decide))
  have HBL := hide (below_new V (.cells (bc [3, 4, 1, 6, 1, 0, 2, 32]).toArray 5))
  have HSR := hide (show Src (V.alloc (.cells (bc [3, 4, 1, 6, 1, 0, 2, 32]).toArray 5)) (some ⟨w13.heap.size, 0, none⟩) 32 32 hd0 from ⟨H32.out.symm, Sb.of (HXV.out.below HBL.out HXV.out.lt).bs, fun h => by cases h⟩)
  go_wp2_with (at_builtin; refine wpList_of_wp rfl (wp_app5 (.tmp 150) (.tmp 151) rfl V.heap.size _ 8 [3, 4, 1, 6, 1, 0, 2, 32] rfl HO1.out (some ⟨w13.heap.size, 0, none⟩) 32 32 hd0 rfl HSR.out (by omega) (by simp) 40 L1 rfl HL12.out.1 ?_))
  intro v2 W2 h2 h3
  obtain ⟨g2, k2, rfl, hp2⟩ := PI.of HO1.out HBL.out h2 h3 HLN.out.symm (by decide)
  have HP2 := hide hp2
  have HO2 := hide (hp2.own.alloc (.cells (bc [2, 1, 120]).toArray 5))
  have HB2 := hide (below_one hp2.bel (below_new W2 (.cells (bc [2, 1, 120]).toArray 5)))
  rw [HLN.out] at HO2
  clear h2 h3 hp2 HO1 HBL HSR
  go_wp2_with (at_builtin; refine wpList_of_wp rfl (wp_app5 (.tmp 152) (.tmp 153) rfl V.heap.size _ 40 L1 rfl HO2.out (some ⟨W2.heap.size, 0, none⟩) 3 3 [2, 1, 120] rfl (src_lit W2 [2, 1, 120]) (by omega) (by have := HP2.out.bel.size; simp; omega) 43 L2 rfl HL12.out.2 ?_))
  intro v3 W3 h2 h3
  obtain ⟨g3, k3, rfl, hp3⟩ := PI.of2 HO2.out HLN.out.symm HB2.out h2 h3 HLM.out.symm (by decide)
  have HP3 := hide hp3
  have HE3 := hide (HEV.out.below hp3.bel)
  have HX3 := hide (HXV.out.below hp3.bel HXV.out.lt)
  clear h2 h3 hp3 HO2 HB2 HP2 HEV HXV
  have HT3 := hide (HT.out.below HE3.out.bel)
  have HPA := hide (HE3.out.a.parts (k := 0) (by simp))
  have HPB := hide (HE3.out.b.parts (k := 1) (by simp))
  simp only [List.getElem_cons_zero, List.getElem_cons_succ, Nat.zero_mul, Nat.zero_add, Nat.one_mul, Nat.reduceAdd, HXA.out, HXB.out] at HPA HPB
  obtain ⟨ha, hha⟩ : ∃ ha, hdA [x0] = ha := ⟨_, rfl⟩
  have HHA := hide hha
  have HH32 := hide (show ha.length = 32 by rw [← hha]; exact hdA_32 _)
  have HPX := hide (show x0.prev = hd0 ∧ (y1 121).prev = ha ∧ (y1 121).no = 1 ∧ (y1 121).data = [121] from ⟨rfl, by rw [← hha, hd_x0]; rfl, rfl, rfl⟩)
  clear hha
  have HC0 := hide (fun (W : World) (h : Below W3.heap.size W3 W) => show Calls Tryd.prog 37 #[.slice none 0 0] W fun e w' => e = .returned (dv hd0) ∧ Below W.heap.size W w' from head_any none [] 0 W (HT3.out.below h) (Lks.nil _ _) (by decide) (by decide) (fun r hr => by cases hr))
  have HCA := hide (fun (W : World) (h : Below W3.heap.size W3 W) => show Calls Tryd.prog 37 #[.slice (some ⟨ga, 0, none⟩) 1 ka] W fun e w' => e = .returned (dv ha) ∧ Below W.heap.size W w' from by
    have := head_any (some ⟨ga, 0, none⟩) [ra] ka W (HT3.out.below h) (HE3.out.a.below h) HKA.out.1 HKA.out.2 HSA.out
    rw [show lnks [ra] = [x0] from by simp [lnks, HXA.out], HHA.out] at this
    exact this)
  have HCT := hide (fun (W : World) (h : Below W3.heap.size W3 W) => show Calls Tryd.prog 20 #[.string ⟨#[108, 105, 110, 107]⟩, .slice (some ⟨g3, 0, none⟩) 43 k3] W fun e w' => e = .returned (dv ha) ∧ Below W.heap.size W w' from by
    have := tagged_any ⟨#[108, 105, 110, 107]⟩ (some ⟨g3, 0, none⟩) 43 k3 L2 W (HT3.out.below h) ((Sb.of (row_bytes HP3.out.own)).below h) HLM.out.symm (by omega) (by decide) (fun h => by cases h)
    rw [show tagd [108, 105, 110, 107] L2 = ha from by rw [← HHA.out, head_a, HL12.out.2, HL12.out.1]] at this
    exact this)
  have HLT3 := hide (show ga < W3.heap.size ∧ gb < W3.heap.size from by
    obtain ⟨b1, o1, h1, h2, _⟩ := HE3.out.a.cel (by simp)
    obtain ⟨b2, o2, h3, h4, _⟩ := HE3.out.b.cel (by simp)
    injection h1 with h1
    injection h1 with h1 _
    injection h3 with h3
    injection h3 with h3 _
    subst h1
    subst h3
    exact ⟨h2, h4⟩)
  have HF1 := hide (fun (W : World) (h : Below W3.heap.size W3 W) => show W.rangeAt ga 2 (bc hd0) from range_below (HPX.out.1 ▸ HPA.out.1) h HLT3.out.1)
  have HF2 := hide (fun (W : World) (h : Below W3.heap.size W3 W) => show W.rangeAt w13.heap.size 0 (bc hd0) from fun j v hv => by rw [Nat.zero_add, (HX3.out.below h HX3.out.lt).cell j]; exact hv)
  have HF3 := hide (fun (W : World) (h : Below W3.heap.size W3 W) => show W.rangeAt gb 37 (bc ha) from range_below (HPX.out.2.1 ▸ HPB.out.1) h HLT3.out.2)
  have HF4 := hide (fun (W : World) (h : Below W3.heap.size W3 W) => show W.cell? ⟨gb, 36, none⟩ = some (.int .i64 1) from (h.cell (p := ⟨gb, 36, none⟩) HLT3.out.2).trans (HPX.out.2.2.1 ▸ HPB.out.2.1))
  have HDL := hide (show rb.x.data = [121] by rw [HXB.out]; rfl)
  have HF5 := hide (fun (W : World) (h : Below W3.heap.size W3 W) => show W.cell? ⟨gb, 69, none⟩ = some (.slice rb.A 1 rb.cap) from (h.cell (p := ⟨gb, 69, none⟩) HLT3.out.2).trans (by have := HPB.out.2.2.1; simp only [Lr.dv, HDL.out] at this; exact this))
  have HF6 := hide (fun (W : World) (h : Below W3.heap.size W3 W) => show (convert 22 9 (.slice rb.A 1 rb.cap)).run Tryd.prog W = .ok (.string ⟨#[121]⟩) W from by
    have h1 : Sb W3 rb.A [121] := by have := (HPB.out.2.2.2).src.sb; rwa [HDL.out] at this
    exact sb_conv (cap := rb.cap) (h1.below h))
  have HBE := hide HE3.out.bel
  clear HPA HPB HPX HP3 HX3 HT3 HE3 HLT3 HXA HXB HNB HSA HSB HSH HT HKA HKB HL12 HLN HLM HDL
  go_wp2_with fail
  have HS0 := hide (show Below W3.heap.size W3 W3.drew from (Below.refl _ _).drew)
  refine wp_region_plan4 (fun W' => Below W3.heap.size W3 W') (.take 0 (.take 1 (.take 2 (.take 3 (.take 4 (.take 5 (.take 6 (.take 8 (.run 7 (.take 9 (.take 10 (.take 11 (.take 12 (.take 14 (.run 13 (.run 15 (.take 16 (.take 17 (.take 18 (.take 19 (.take 20 (.take 21 (.take 22 (.take 23 (.run 24 (.take 25 (.take 26 (.take 27 (.take 28 (.take 29 (.take 30 (.take 31 (.take 32 (.take 33 (.take 34 (.take 35 (.take 36 (.take 37 (.take 38 (.take 39 (.take 40 (.take 41 (.run 42 .done))))))))))))))))))))))))))))))))))))))))))) (by kernel_rfl) (by kernel_rfl) HS0.out ?_
  generalize W3.drew = wD at HS0 ⊢
  (refine plan4_take (o := ?_) (v := ?_) (by simp only [List.getElem?_toArray, List.getElem?_cons_zero]; rfl) (yields_run (by rfl) ?_) ?_; rotate_left; (focus (intro w' hw'; go_simp <;> with_reducible rfl)); (simp only [Act.put, List.setIfInBounds_toArray, List.set_cons_zero, List.set_cons_succ]))
  (refine plan4_take (o := ?_) (v := ?_) (by simp only [List.getElem?_toArray, List.getElem?_cons_succ, List.getElem?_cons_zero]; rfl) (yields_run (by rfl) ?_) ?_; rotate_left; (focus (intro w' hw'; go_simp <;> with_reducible rfl)); (simp only [Act.put, List.setIfInBounds_toArray, List.set_cons_zero, List.set_cons_succ]))
  (refine plan4_take (o := ?_) (v := ?_) (by simp only [List.getElem?_toArray, List.getElem?_cons_succ, List.getElem?_cons_zero]; rfl) (yields_run (by rfl) ?_) ?_; rotate_left; (focus (intro w' hw'; go_simp <;> with_reducible rfl)); (simp only [Act.put, List.setIfInBounds_toArray, List.set_cons_zero, List.set_cons_succ]))
  (refine plan4_take (o := ?_) (v := .agg (bc hd0).toArray) (by simp only [List.getElem?_toArray, List.getElem?_cons_succ, List.getElem?_cons_zero]; rfl) ?_ ?_; (focus (exact yieldsIf_load_mid (by rfl) 26 (.tmp 157) rfl ga 2 rfl (bc hd0) _ (fun W h => HF1.out W h) Tryd.underlying26 rfl (by rw [bc_len, H32.out]; exact Tryd.size26))); (simp only [Act.put, List.setIfInBounds_toArray, List.set_cons_zero, List.set_cons_succ]))
  (refine plan4_take (o := ?_) (v := .agg (bc hd0).toArray) (by simp only [List.getElem?_toArray, List.getElem?_cons_succ, List.getElem?_cons_zero]; rfl) ?_ ?_; (focus (exact yieldsIf_load_mid (by rfl) 26 (.tmp 20) rfl w13.heap.size 0 rfl (bc hd0) _ (fun W h => HF2.out W h) Tryd.underlying26 rfl (by rw [bc_len, H32.out]; exact Tryd.size26))); (simp only [Act.put, List.setIfInBounds_toArray, List.set_cons_zero, List.set_cons_succ]))
  (refine plan4_take (o := ?_) (v := .bool true) (by simp only [List.getElem?_toArray, List.getElem?_cons_succ, List.getElem?_cons_zero]; rfl) ?_ ?_; (focus (exact yields_eql (by rfl) (.tmp 158) (.tmp 159) 26 rfl hd0 hd0 rfl rfl H32.out H32.out true (by simp))); (simp only [Act.put, List.setIfInBounds_toArray, List.set_cons_zero, List.set_cons_succ]))
  (refine plan4_take (o := ?_) (v := ?_) (by simp only [List.getElem?_toArray, List.getElem?_cons_succ, List.getElem?_cons_zero]; rfl) (yields_run (by rfl) ?_) ?_; rotate_left; (focus (intro w' hw'; go_simp <;> with_reducible rfl)); (simp only [Act.put, List.setIfInBounds_toArray, List.set_cons_zero, List.set_cons_succ]))
  (refine plan4_take (o := ?_) (v := .agg (bc hd0).toArray) (by simp only [List.getElem?_toArray, List.getElem?_cons_succ, List.getElem?_cons_zero]; rfl) ?_ ?_; (focus (exact yieldsIf_load_mid (by rfl) 26 (.tmp 20) rfl w13.heap.size 0 rfl (bc hd0) _ (fun W h => HF2.out W h) Tryd.underlying26 rfl (by rw [bc_len, H32.out]; exact Tryd.size26))); (simp only [Act.put, List.setIfInBounds_toArray, List.set_cons_zero, List.set_cons_succ]))
  refine plan4_run (o := ?_) (by simp only [List.getElem?_toArray, List.getElem?_cons_succ, List.getElem?_cons_zero]; rfl) ?_
  intro R' HK
  go_wp2_with fail
  refine (HC0.out _ HS0.out).mono ?_
  rintro e wN ⟨rfl, hb⟩
  have HSn := hide (below_one HS0.out hb)
  clear hb
  go_wp2_with fail
  refine HK.out _ _ HSn.out ?_
  clear HK HS0
  have HS0 := HSn
  clear HSn
  (refine plan4_take (o := ?_) (v := .bool true) (by simp only [List.getElem?_toArray, List.getElem?_cons_succ, List.getElem?_cons_zero]; rfl) ?_ ?_; (focus (exact yields_eql (by rfl) (.tmp 162) (.tmp 163) 26 rfl hd0 hd0 rfl rfl H32.out H32.out true (by simp))); (simp only [Act.put, List.setIfInBounds_toArray, List.set_cons_zero, List.set_cons_succ]))
  (refine plan4_take (o := ?_) (v := ?_) (by simp only [List.getElem?_toArray, List.getElem?_cons_succ, List.getElem?_cons_zero]; rfl) (yields_run (by rfl) ?_) ?_; rotate_left; (focus (intro w' hw'; go_simp <;> with_reducible rfl)); (simp only [Act.put, List.setIfInBounds_toArray, List.set_cons_zero, List.set_cons_succ]))
  (refine plan4_take (o := ?_) (v := ?_) (by simp only [List.getElem?_toArray, List.getElem?_cons_succ, List.getElem?_cons_zero]; rfl) (yields_run (by rfl) ?_) ?_; rotate_left; (focus (intro w' hw'; go_simp <;> with_reducible rfl)); (simp only [Act.put, List.setIfInBounds_toArray, List.set_cons_zero, List.set_cons_succ]))
  (refine plan4_take (o := ?_) (v := ?_) (by simp only [List.getElem?_toArray, List.getElem?_cons_succ, List.getElem?_cons_zero]; rfl) (yields_run (by rfl) ?_) ?_; rotate_left; (focus (intro w' hw'; go_simp <;> with_reducible rfl)); (simp only [Act.put, List.setIfInBounds_toArray, List.set_cons_zero, List.set_cons_succ]))
  (refine plan4_take (o := ?_) (v := ?_) (by simp only [List.getElem?_toArray, List.getElem?_cons_succ, List.getElem?_cons_zero]; rfl) (yields_run (by rfl) ?_) ?_; rotate_left; (focus (intro w' hw'; go_simp <;> with_reducible rfl)); (simp only [Act.put, List.setIfInBounds_toArray, List.set_cons_zero, List.set_cons_succ]))
  refine plan4_run (o := ?_) (by simp only [List.getElem?_toArray, List.getElem?_cons_succ, List.getElem?_cons_zero]; rfl) ?_
  intro R' HK
  go_wp2_with fail
  refine (HCA.out _ HS0.out).mono ?_
  rintro e wN ⟨rfl, hb⟩
  have HSn := hide (below_one HS0.out hb)
  clear hb
  go_wp2_with fail
  refine HK.out _ _ HSn.out ?_
  clear HK HS0
  have HS0 := HSn
  clear HSn
  refine plan4_run (o := ?_) (by simp only [List.getElem?_toArray, List.getElem?_cons_succ, List.getElem?_cons_zero]; rfl) ?_
  intro R' HK
  go_wp2_with fail
  refine (HCT.out _ HS0.out).mono ?_
  rintro e wN ⟨rfl, hb⟩
  have HSn := hide (below_one HS0.out hb)
  clear hb
  go_wp2_with fail
  refine HK.out _ _ HSn.out ?_
  clear HK HS0
  have HS0 := HSn
  clear HSn
  (refine plan4_take (o := ?_) (v := .bool true) (by simp only [List.getElem?_toArray, List.getElem?_cons_succ, List.getElem?_cons_zero]; rfl) ?_ ?_; (focus (exact yields_eql (by rfl) (.tmp 168) (.tmp 170) 26 rfl ha ha rfl rfl HH32.out HH32.out true (by simp))); (simp only [Act.put, List.setIfInBounds_toArray, List.set_cons_zero, List.set_cons_succ]))
  (refine plan4_take (o := ?_) (v := ?_) (by simp only [List.getElem?_toArray, List.getElem?_cons_succ, List.getElem?_cons_zero]; rfl) (yields_run (by rfl) ?_) ?_; rotate_left; (focus (intro w' hw'; go_simp <;> with_reducible rfl)); (simp only [Act.put, List.setIfInBounds_toArray, List.set_cons_zero, List.set_cons_succ]))
  (refine plan4_take (o := ?_) (v := ?_) (by simp only [List.getElem?_toArray, List.getElem?_cons_succ, List.getElem?_cons_zero]; rfl) (yields_run (by rfl) ?_) ?_; rotate_left; (focus (intro w' hw'; go_simp <;> with_reducible rfl)); (simp only [Act.put, List.setIfInBounds_toArray, List.set_cons_zero, List.set_cons_succ]))
  (refine plan4_take (o := ?_) (v := ?_) (by simp only [List.getElem?_toArray, List.getElem?_cons_succ, List.getElem?_cons_zero]; rfl) (yields_run (by rfl) ?_) ?_; rotate_left; (focus (intro w' hw'; go_simp <;> with_reducible rfl)); (simp only [Act.put, List.setIfInBounds_toArray, List.set_cons_zero, List.set_cons_succ]))
  (refine plan4_take (o := ?_) (v := ?_) (by simp only [List.getElem?_toArray, List.getElem?_cons_succ, List.getElem?_cons_zero]; rfl) (yields_run (by rfl) ?_) ?_; rotate_left; (focus (intro w' hw'; go_simp <;> with_reducible rfl)); (simp only [Act.put, List.setIfInBounds_toArray, List.set_cons_zero, List.set_cons_succ]))
  (refine plan4_take (o := ?_) (v := ?_) (by simp only [List.getElem?_toArray, List.getElem?_cons_succ, List.getElem?_cons_zero]; rfl) (yields_run (by rfl) ?_) ?_; rotate_left; (focus (intro w' hw'; go_simp <;> with_reducible rfl)); (simp only [Act.put, List.setIfInBounds_toArray, List.set_cons_zero, List.set_cons_succ]))
  (refine plan4_take (o := ?_) (v := .agg (bc ha).toArray) (by simp only [List.getElem?_toArray, List.getElem?_cons_succ, List.getElem?_cons_zero]; rfl) ?_ ?_; (focus (exact yieldsIf_load_mid (by rfl) 26 (.tmp 176) rfl gb 37 rfl (bc ha) _ (fun W h => HF3.out W h) Tryd.underlying26 rfl (by rw [bc_len, HH32.out]; exact Tryd.size26))); (simp only [Act.put, List.setIfInBounds_toArray, List.set_cons_zero, List.set_cons_succ]))
  (refine plan4_take (o := ?_) (v := ?_) (by simp only [List.getElem?_toArray, List.getElem?_cons_succ, List.getElem?_cons_zero]; rfl) (yields_run (by rfl) ?_) ?_; rotate_left; (focus (intro w' hw'; go_simp <;> with_reducible rfl)); (simp only [Act.put, List.setIfInBounds_toArray, List.set_cons_zero, List.set_cons_succ]))
  refine plan4_run (o := ?_) (by simp only [List.getElem?_toArray, List.getElem?_cons_succ, List.getElem?_cons_zero]; rfl) ?_
  intro R' HK
  go_wp2_with fail
  refine (HCA.out _ HS0.out).mono ?_
  rintro e wN ⟨rfl, hb⟩
  have HSn := hide (below_one HS0.out hb)
  clear hb
  go_wp2_with fail
  refine HK.out _ _ HSn.out ?_
  clear HK HS0
  have HS0 := HSn
  clear HSn
  (refine plan4_take (o := ?_) (v := .bool true) (by simp only [List.getElem?_toArray, List.getElem?_cons_succ, List.getElem?_cons_zero]; rfl) ?_ ?_; (focus (exact yields_eql (by rfl) (.tmp 177) (.tmp 179) 26 rfl ha ha rfl rfl HH32.out HH32.out true (by simp))); (simp only [Act.put, List.setIfInBounds_toArray, List.set_cons_zero, List.set_cons_succ]))
  (refine plan4_take (o := ?_) (v := ?_) (by simp only [List.getElem?_toArray, List.getElem?_cons_succ, List.getElem?_cons_zero]; rfl) (yields_run (by rfl) ?_) ?_; rotate_left; (focus (intro w' hw'; go_simp <;> with_reducible rfl)); (simp only [Act.put, List.setIfInBounds_toArray, List.set_cons_zero, List.set_cons_succ]))
  (refine plan4_take (o := ?_) (v := ?_) (by simp only [List.getElem?_toArray, List.getElem?_cons_succ, List.getElem?_cons_zero]; rfl) (yields_run (by rfl) ?_) ?_; rotate_left; (focus (intro w' hw'; go_simp <;> with_reducible rfl)); (simp only [Act.put, List.setIfInBounds_toArray, List.set_cons_zero, List.set_cons_succ]))
  (refine plan4_take (o := ?_) (v := ?_) (by simp only [List.getElem?_toArray, List.getElem?_cons_succ, List.getElem?_cons_zero]; rfl) (yields_run (by rfl) ?_) ?_; rotate_left; (focus (intro w' hw'; go_simp <;> with_reducible rfl)); (simp only [Act.put, List.setIfInBounds_toArray, List.set_cons_zero, List.set_cons_succ]))
  (refine plan4_take (o := ?_) (v := ?_) (by simp only [List.getElem?_toArray, List.getElem?_cons_succ, List.getElem?_cons_zero]; rfl) (yields_run (by rfl) ?_) ?_; rotate_left; (focus (intro w' hw'; go_simp <;> with_reducible rfl)); (simp only [Act.put, List.setIfInBounds_toArray, List.set_cons_zero, List.set_cons_succ]))
  (refine plan4_take (o := ?_) (v := ?_) (by simp only [List.getElem?_toArray, List.getElem?_cons_succ, List.getElem?_cons_zero]; rfl) (yields_run (by rfl) ?_) ?_; rotate_left; (focus (intro w' hw'; go_simp <;> with_reducible rfl)); (simp only [Act.put, List.setIfInBounds_toArray, List.set_cons_zero, List.set_cons_succ]))
  (refine plan4_take (o := ?_) (v := ?_) (by simp only [List.getElem?_toArray, List.getElem?_cons_succ, List.getElem?_cons_zero]; rfl) (yields_run (by rfl) ?_) ?_; rotate_left; (focus (intro w' hw'; have q := HF4.out w' hw'; go_simp <;> with_reducible rfl)); (simp only [Act.put, List.setIfInBounds_toArray, List.set_cons_zero, List.set_cons_succ]))
  (refine plan4_take (o := ?_) (v := ?_) (by simp only [List.getElem?_toArray, List.getElem?_cons_succ, List.getElem?_cons_zero]; rfl) (yields_run (by rfl) ?_) ?_; rotate_left; (focus (intro w' hw'; go_simp <;> with_reducible rfl)); (simp only [Act.put, List.setIfInBounds_toArray, List.set_cons_zero, List.set_cons_succ]))
  (refine plan4_take (o := ?_) (v := ?_) (by simp only [List.getElem?_toArray, List.getElem?_cons_succ, List.getElem?_cons_zero]; rfl) (yields_run (by rfl) ?_) ?_; rotate_left; (focus (intro w' hw'; go_simp <;> with_reducible rfl)); (simp only [Act.put, List.setIfInBounds_toArray, List.set_cons_zero, List.set_cons_succ]))
  (refine plan4_take (o := ?_) (v := ?_) (by simp only [List.getElem?_toArray, List.getElem?_cons_succ, List.getElem?_cons_zero]; rfl) (yields_run (by rfl) ?_) ?_; rotate_left; (focus (intro w' hw'; go_simp <;> with_reducible rfl)); (simp only [Act.put, List.setIfInBounds_toArray, List.set_cons_zero, List.set_cons_succ]))
  (refine plan4_take (o := ?_) (v := ?_) (by simp only [List.getElem?_toArray, List.getElem?_cons_succ, List.getElem?_cons_zero]; rfl) (yields_run (by rfl) ?_) ?_; rotate_left; (focus (intro w' hw'; go_simp <;> with_reducible rfl)); (simp only [Act.put, List.setIfInBounds_toArray, List.set_cons_zero, List.set_cons_succ]))
  (refine plan4_take (o := ?_) (v := ?_) (by simp only [List.getElem?_toArray, List.getElem?_cons_succ, List.getElem?_cons_zero]; rfl) (yields_run (by rfl) ?_) ?_; rotate_left; (focus (intro w' hw'; go_simp <;> with_reducible rfl)); (simp only [Act.put, List.setIfInBounds_toArray, List.set_cons_zero, List.set_cons_succ]))
  (refine plan4_take (o := ?_) (v := ?_) (by simp only [List.getElem?_toArray, List.getElem?_cons_succ, List.getElem?_cons_zero]; rfl) (yields_run (by rfl) ?_) ?_; rotate_left; (focus (intro w' hw'; go_simp <;> with_reducible rfl)); (simp only [Act.put, List.setIfInBounds_toArray, List.set_cons_zero, List.set_cons_succ]))
  (refine plan4_take (o := ?_) (v := ?_) (by simp only [List.getElem?_toArray, List.getElem?_cons_succ, List.getElem?_cons_zero]; rfl) (yields_run (by rfl) ?_) ?_; rotate_left; (focus (intro w' hw'; have q := HF5.out w' hw'; go_simp <;> with_reducible rfl)); (simp only [Act.put, List.setIfInBounds_toArray, List.set_cons_zero, List.set_cons_succ]))
  (refine plan4_take (o := ?_) (v := ?_) (by simp only [List.getElem?_toArray, List.getElem?_cons_succ, List.getElem?_cons_zero]; rfl) (yields_run (by rfl) ?_) ?_; rotate_left; (focus (intro w' hw'; have q := HF6.out w' hw'; go_simp <;> with_reducible rfl)); (simp only [Act.put, List.setIfInBounds_toArray, List.set_cons_zero, List.set_cons_succ]))
  (refine plan4_take (o := ?_) (v := ?_) (by simp only [List.getElem?_toArray, List.getElem?_cons_succ, List.getElem?_cons_zero]; rfl) (yields_run (by rfl) ?_) ?_; rotate_left; (focus (intro w' hw'; go_simp <;> with_reducible rfl)); (simp only [Act.put, List.setIfInBounds_toArray, List.set_cons_zero, List.set_cons_succ]))
  (refine plan4_take (o := ?_) (v := ?_) (by simp only [List.getElem?_toArray, List.getElem?_cons_succ, List.getElem?_cons_zero]; rfl) (yields_run (by rfl) ?_) ?_; rotate_left; (focus (intro w' hw'; go_simp <;> with_reducible rfl)); (simp only [Act.put, List.setIfInBounds_toArray, List.set_cons_zero, List.set_cons_succ]))
  refine plan4_run (o := ?_) (by simp only [List.getElem?_toArray, List.getElem?_cons_succ, List.getElem?_cons_zero]; rfl) ?_
  intro R' HK
  go_wp2_with fail
  refine HK.out _ _ HS0.out ?_
  clear HK
  refine plan4_done ?_
  go_wp2_with fail
  go_ret
  exact ⟨rfl, below_one HBE.out HS0.out⟩
end Go.Proofs.YtalgceplcahgbaaDoor
