/- bytes.Equal, collide, Collide. -/
import Derived.Test.YthjfeodclphgaaaDoorFc
import Derived.Shelf.Bytes.SlSmallAll
namespace Go.Proofs.YthjfeodclphgaaaDoor
open Go.RowKit Go.Shelf
abbrev str (l : List UInt8) : ByteArray := ⟨l.toArray⟩
theorem str_toList (l : List UInt8) : (str l).toList = l := by simp [ByteArray.toList_eq]
theorem sb_conv {W : World} {A : Option Addr} {l : List UInt8} {cap : Nat} (h : Sb W A l) : (convert 22 9 (.slice A l.length cap)).run Tryd.prog W = .ok (.string (str l)) W := by
  cases l with
  | nil => exact run_convert_bytes_zero W 22 5 Tryd.underlying22 Tryd.underlying5 A cap 9 Tryd.underlying9
  | cons c l =>
    obtain ⟨b, o, e, hB⟩ := h (by simp)
    subst e
    refine run_convert_bytes_back (P := Tryd.prog) W 22 9 5 ⟨b, o, none⟩ cap (c :: l) Tryd.underlying22 Tryd.underlying5 Tryd.underlying9 fun j hj => ?_
    rw [Addr.add_mid]
    exact hB j hj
theorem str_eq (l m : List UInt8) : ((str l).toList == (str m).toList) = decide (l = m) := by
  rw [str_toList, str_toList]
  by_cases h : l = m
  · rw [h]; simp
  · rw [decide_eq_false h, beq_eq_false_iff_ne]; exact h
set_option maxRecDepth 20000 in
theorem equal_any (A B : Option Addr) (ca cb : Nat) (l m : List UInt8) (w : World) (hl : Sb w A l) (hm : Sb w B m) :
    Calls Tryd.prog 91 #[.slice A l.length ca, .slice B m.length cb] w fun e w' => e = .returned (.bool (decide (l = m))) ∧ w' = w := by
  have hv0 := sb_conv (cap := ca) hl
  have hv1 := sb_conv (cap := cb) hm
  have he := str_eq l m
  clear hl hm
  generalize decide (l = m) = v at he ⊢
  generalize str l = x at *
  generalize str m = y at *
  go_enter Tryd.func91, Tryd.ntmps91
  go_wp2_with fail
  go_ret
  exact ⟨rfl, rfl⟩
/-- What collide answers. -/
def collAns (n i : Int) (a b : List UInt8) (p q : List (List UInt8)) : Option (List UInt8 × List UInt8) :=
  if (climbAns n i a p).2 ≠ 0 ∨ (climbAns n i b q).2 ≠ 0 ∨ (climbAns n i a p).1 ≠ (climbAns n i b q).1 ∨ a = b then none else some (commonR sha tagN n.toNat i.toNat (tagL ++ a) (tagL ++ b) p q)
def CoP : Option (List UInt8 × List UInt8) → World → Ending → World → Prop
  | none, w, e, w' => e = .returned (.tuple #[.slice none 0 0, .slice none 0 0, .bool false]) ∧ Below w.heap.size w w'
  | some R0, w, e, w' => ∃ (A B : Option Addr) (ca cb : Nat), e = .returned (.tuple #[.slice A R0.1.length ca, .slice B R0.2.length cb, .bool true]) ∧ Sb w' A R0.1 ∧ Sb w' B R0.2 ∧ R0.1.length ≤ ca ∧ ca ≤ 9223372036854775807 ∧ R0.2.length ≤ cb ∧ cb ≤ 9223372036854775807 ∧ Below w.heap.size w w'
theorem climb_zero {n i : Int} {l : List UInt8} {p : List (List UInt8)} (h : (climbAns n i l p).2 = 0) : leafB n i = true ∧ p.length = lenR n.toNat i.toNat := by
  cases hb : leafB n i with
  | false => rw [climbAns_no hb] at h; simp at h
  | true =>
    by_cases hp : p.length = lenR n.toNat i.toNat
    · exact ⟨rfl, hp⟩
    · rw [climbAns_len hb hp] at h; simp at h
theorem wpList_neq2 {ops : Array Oper} {Q : Exit → Act → World → Prop} {o : Oper} {rest : List Oper} {a : Act} {w : World} (hw : Region.wanted o (yielded ops a.tmps) = true) (x y : Operand) (T : TypeId) (ho : o.op = .binOp .neq 26 x y T) (X Y : List UInt8) (hx : a.eval x = dv X) (hy : a.eval y = dv Y)
    (h1 : X.length = 32) (h2 : Y.length = 32) (v : Bool) (hv : v = !(X == Y)) (h : wpList Tryd.prog ops Q rest (a.put o.dst (.bool v)) w) : wpList Tryd.prog ops Q (o :: rest) a w :=
  wpList_of_wp hw (by unfold Oper.wp; rw [run_neqD x y T ho X Y hx hy h1 h2 v hv w]; exact h)
theorem wpList_load_w {P : Program} {ops : Array Oper} {rest : List Oper} {o : Oper} {a : Act} {w : World} {Q : Exit → Act → World → Prop} (hw : Region.wanted o (yielded ops a.tmps) = true) (ty : TypeId) (x : Operand) (ho : o.op = .load ty x)
    (g : Nat) (hx : a.eval x = .pointer (some ⟨g, 0, none⟩)) (t : TypeId) (cs : Array Value) (fr : Nat × Nat) (d : TypeDesc) (hg : w.heap[g]? = some (.cells cs t fr))
    (hu : P.underlying ty = some d) (hd : (match d with | .struct _ | .array _ _ => true | _ => false) = true) (hi : (P.info? ty).map (·.size) = some cs.size)
    (h : wpList P ops Q rest (a.put o.dst (.agg cs)) w) : wpList P ops Q (o :: rest) a w :=
  wpList_of_wp hw (wp_load_row ty x ho g hx t cs fr d hg hu hd hi h)
set_option maxRecDepth 20000 in
set_option maxHeartbeats 3200000 in
theorem collide_any (n i : Int) (LA LB : Option Addr) (lca lcb : Nat) (la lb : List UInt8) (A A2 : Option Addr) (m c m2 c2 : Nat) (p q : List (List UInt8)) (w : World) (hT : Tab w) (hla : Sb w LA la) (hna : LA = none → lca = 0) (hlla : la.length ≤ 10000000)
    (hlb : Sb w LB lb) (hnb : LB = none → lcb = 0) (hllb : lb.length ≤ 10000000) (hp : DSrc w A m c p) (hq : DSrc w A2 m2 c2 q) :
    Calls Tryd.prog 74 #[hV, .int .i64 n, .int .i64 i, .slice LA la.length lca, .slice LB lb.length lcb, .slice A m c, .slice A2 m2 c2] w (CoP (collAns n i la lb p q) w) := by
  have HT := hide hT
  have HLA := hide (And.intro hla (And.intro hna hlla))
  have HLB := hide (And.intro hlb (And.intro hnb hllb))
  have HPP := hide (And.intro hp hq)
  have HC1 := hide (climb_any n i LA lca la A m c p w hT hla hna hlla hp)
  have HC2 := hide (fun (W : World) (h : Below w.heap.size w W) => climb_any n i LB lcb lb A2 m2 c2 q W (hT.below h) (hlb.below h) hnb hllb (hq.below h))
  have HD := hide (And.intro (climbAns_32 n i la p) (climbAns_32 n i lb q))
  have HZ := hide (fun (r : List UInt8) (hr : r.length = 32) => show (Tryd.prog.info? 26).map (·.size) = some ((bc r).toArray).size by rw [dv_size _ hr]; exact Tryd.size26)
  have HCA := hide (show collAns n i la lb p q = if (climbAns n i la p).2 ≠ 0 ∨ (climbAns n i lb q).2 ≠ 0 ∨ (climbAns n i la p).1 ≠ (climbAns n i lb q).1 ∨ la = lb then none else some (commonR sha tagN n.toNat i.toNat (tagL ++ la) (tagL ++ lb) p q) from rfl)
  have HZE := hide (And.intro (climb_zero (n := n) (i := i) (l := la) (p := p)) (climb_zero (n := n) (i := i) (l := lb) (p := q)))
  clear hT hla hna hlla hlb hnb hllb hp hq
  generalize collAns n i la lb p q = R at *
  generalize climbAns n i la p = r1 at *
  generalize climbAns n i lb q = r2 at *
  obtain ⟨d1, e1⟩ := r1
  obtain ⟨d2, e2⟩ := r2
  simp only at HC1 HC2 HD HCA HZE
  go_enter Tryd.func74, Tryd.ntmps74
  go_wp2_with fail
  with_reducible refine HC1.out.mono ?_
  rintro e w3 ⟨rfl, h5⟩
  have H3 := hide h5
  clear h5 HC1
  go_wp2_with (refine wpList_store_row rfl 26 (.tmp 17) (.tmp 28) rfl w3.heap.size (bc d1).toArray rfl rfl 26 _ (heap_alloc_new w3 _) (HZ.out d1 HD.out.1) (by rw [dv_size _ HD.out.1]; rfl) (all_oneCell_toArray (bc_one d1)) ?_)
  refine name_world ?_
  intro W4 hW4
  have e := hW4.out
  have H4 := hide (show Blk W4 w3.heap.size 26 (bc d1) ∧ Below w.heap.size w W4 by
    rw [e]
    exact ⟨setRow_heap _ _ _ _ _ _ (heap_alloc_new w3 _), below_setRow (H3.out.alloc H3.out.size _) H3.out.size _⟩)
  clear hW4 e
  with_reducible refine (HC2.out W4 H4.out.2).mono ?_
  rintro e w5 ⟨rfl, h5⟩
  have H5 := hide (And.intro (H4.out.1.below h5 H4.out.1.lt) (below_one H4.out.2 h5))
  have hz45 : W4.heap.size ≤ w5.heap.size := h5.size
  have hz3 : w3.heap.size < w5.heap.size := H5.out.1.lt
  clear h5 HC2 H4 H3
  have HB6 := hide (show Blk ((w5.alloc (.cells (List.replicate 32 (.int .u8 0)).toArray 26)).setRow w5.heap.size (bc d2).toArray) w3.heap.size 26 (bc d1) ∧ Blk ((w5.alloc (.cells (List.replicate 32 (.int .u8 0)).toArray 26)).setRow w5.heap.size (bc d2).toArray) w5.heap.size 26 (bc d2) ∧ Below w.heap.size w ((w5.alloc (.cells (List.replicate 32 (.int .u8 0)).toArray 26)).setRow w5.heap.size (bc d2).toArray) from
    ⟨(setRow_other _ _ _ _ (by omega)).trans (H5.out.1.alloc _), setRow_heap _ _ _ _ _ _ (heap_alloc_new w5 _), below_setRow (H5.out.2.alloc H5.out.2.size _) H5.out.2.size _⟩)
  clear H5
  by_cases h1 : e1 = 0
  · subst h1
    by_cases h2 : e2 = 0
    · subst h2
      have hlf := HZE.out.1 rfl
      have hlg := HZE.out.2 rfl
      have HN := hide (leafB_nat hlf.1)
      have HFC := hide (firstCommon_any n.toNat i.toNat LA LB lca lcb la lb A A2 m c m2 c2 p q ((w5.alloc (.cells (List.replicate 32 (.int .u8 0)).toArray 26)).setRow w5.heap.size (bc d2).toArray) (HT.out.below HB6.out.2.2) HN.out.2.2.1 HN.out.2.2.2 (HLA.out.1.below HB6.out.2.2) HLA.out.2.1 HLA.out.2.2 (HLB.out.1.below HB6.out.2.2) HLB.out.2.1 HLB.out.2.2 (HPP.out.1.below HB6.out.2.2) (HPP.out.2.below HB6.out.2.2) hlf.2 hlg.2 _ _ rfl rfl _ rfl)
      rw [← HN.out.1, ← HN.out.2.1] at HFC
      have HEQ := hide (equal_any LA LB lca lcb la lb ((w5.alloc (.cells (List.replicate 32 (.int .u8 0)).toArray 26)).setRow w5.heap.size (bc d2).toArray) (HLA.out.1.below HB6.out.2.2) (HLB.out.1.below HB6.out.2.2))
      clear hlf hlg HZE HN HT HPP HLA HLB
      by_cases hd : d1 = d2
      · have hv : false = !(d1 == d2) := by simp [hd]
        have HVE := hide hv
        by_cases hab : la = lb
        · have HRN := hide (show R = none by rw [HCA.out]; exact if_pos (.inr (.inr (.inr hab))))
          have hdt : decide (la = lb) = true := decide_eq_true hab
          rw [hdt] at HEQ
          clear hd hv hab hdt HCA HFC
          go_wp2_with (first | (refine wpList_store_row rfl 26 (.tmp 19) (.tmp 37) rfl w5.heap.size (bc d2).toArray rfl rfl 26 _ (heap_alloc_new w5 _) (HZ.out d2 HD.out.2) (by rw [dv_size _ HD.out.2]; rfl) (all_oneCell_toArray (bc_one d2)) ?_) | (refine wpList_load_w rfl 26 (.tmp 17) rfl w3.heap.size rfl 26 _ (0, 0) _ HB6.out.1 Tryd.underlying26 rfl (HZ.out d1 HD.out.1) ?_) | (refine wpList_load_w rfl 26 (.tmp 19) rfl w5.heap.size rfl 26 _ (0, 0) _ HB6.out.2.1 Tryd.underlying26 rfl (HZ.out d2 HD.out.2) ?_) | (refine wpList_neq2 rfl (.tmp 46) (.tmp 47) 26 rfl d1 d2 rfl rfl HD.out.1 HD.out.2 _ HVE.out ?_))
          refine HEQ.out.mono ?_
          rintro e w6 ⟨rfl, rfl⟩
          go_wp2_with fail
          go_ret3
          rw [HRN.out]
          exact ⟨rfl, HB6.out.2.2⟩
        · have HRN := hide (show R = some (commonR sha tagN n.toNat i.toNat (tagL ++ la) (tagL ++ lb) p q) by rw [HCA.out]; exact if_neg (by simp [hd, hab]))
          have hdt : decide (la = lb) = false := decide_eq_false hab
          rw [hdt] at HEQ
          clear hd hv hab hdt HCA
          generalize commonR sha tagN n.toNat i.toNat (tagL ++ la) (tagL ++ lb) p q = R0 at *
          go_wp2_with (first | (refine wpList_store_row rfl 26 (.tmp 19) (.tmp 37) rfl w5.heap.size (bc d2).toArray rfl rfl 26 _ (heap_alloc_new w5 _) (HZ.out d2 HD.out.2) (by rw [dv_size _ HD.out.2]; rfl) (all_oneCell_toArray (bc_one d2)) ?_) | (refine wpList_load_w rfl 26 (.tmp 17) rfl w3.heap.size rfl 26 _ (0, 0) _ HB6.out.1 Tryd.underlying26 rfl (HZ.out d1 HD.out.1) ?_) | (refine wpList_load_w rfl 26 (.tmp 19) rfl w5.heap.size rfl 26 _ (0, 0) _ HB6.out.2.1 Tryd.underlying26 rfl (HZ.out d2 HD.out.2) ?_) | (refine wpList_neq2 rfl (.tmp 46) (.tmp 47) 26 rfl d1 d2 rfl rfl HD.out.1 HD.out.2 _ HVE.out ?_))
          refine HEQ.out.mono ?_
          rintro e w6 ⟨rfl, rfl⟩
          go_wp2_with fail
          refine HFC.out.mono ?_
          rintro e w7 ⟨A7, B7, ca7, cb7, rfl, a1, a2, a3, a4, a5, a6, a7⟩
          have HFF := hide (show CoP R w (.returned (.tuple #[.slice A7 R0.1.length ca7, .slice B7 R0.2.length cb7, .bool true])) w7 by rw [HRN.out]; exact ⟨A7, B7, ca7, cb7, rfl, a1, a2, a3, a4, a5, a6, below_one HB6.out.2.2 a7⟩)
          clear a1 a2 a3 a4 a5 a6 a7 HRN
          go_wp2_with fail
          go_ret3
          exact HFF.out
      · have hv : true = !(d1 == d2) := by simp [hd]
        have HVE := hide hv
        have HRN := hide (show R = none by rw [HCA.out]; exact if_pos (.inr (.inr (.inl hd))))
        clear hd hv HCA HFC HEQ
        go_wp2_with (first | (refine wpList_store_row rfl 26 (.tmp 19) (.tmp 37) rfl w5.heap.size (bc d2).toArray rfl rfl 26 _ (heap_alloc_new w5 _) (HZ.out d2 HD.out.2) (by rw [dv_size _ HD.out.2]; rfl) (all_oneCell_toArray (bc_one d2)) ?_) | (refine wpList_load_w rfl 26 (.tmp 17) rfl w3.heap.size rfl 26 _ (0, 0) _ HB6.out.1 Tryd.underlying26 rfl (HZ.out d1 HD.out.1) ?_) | (refine wpList_load_w rfl 26 (.tmp 19) rfl w5.heap.size rfl 26 _ (0, 0) _ HB6.out.2.1 Tryd.underlying26 rfl (HZ.out d2 HD.out.2) ?_) | (refine wpList_neq2 rfl (.tmp 46) (.tmp 47) 26 rfl d1 d2 rfl rfl HD.out.1 HD.out.2 _ HVE.out ?_))
        go_ret3
        rw [HRN.out]
        exact ⟨rfl, HB6.out.2.2⟩
    · have h2' : (e2 != 0) = true := by simp [h2]
      have HRN := hide (show R = none by rw [HCA.out]; exact if_pos (.inr (.inl h2)))
      clear h2 HCA HZE
      go_wp2_with (refine wpList_store_row rfl 26 (.tmp 19) (.tmp 37) rfl w5.heap.size (bc d2).toArray rfl rfl 26 _ (heap_alloc_new w5 _) (HZ.out d2 HD.out.2) (by rw [dv_size _ HD.out.2]; rfl) (all_oneCell_toArray (bc_one d2)) ?_)
      go_ret3
      rw [HRN.out]
      exact ⟨rfl, HB6.out.2.2⟩
  · have h1' : (e1 != 0) = true := by simp [h1]
    have HRN := hide (show R = none by rw [HCA.out]; exact if_pos (.inl h1))
    clear h1 HCA HZE
    go_wp2_with (refine wpList_store_row rfl 26 (.tmp 19) (.tmp 37) rfl w5.heap.size (bc d2).toArray rfl rfl 26 _ (heap_alloc_new w5 _) (HZ.out d2 HD.out.2) (by rw [dv_size _ HD.out.2]; rfl) (all_oneCell_toArray (bc_one d2)) ?_)
    go_ret3
    rw [HRN.out]
    exact ⟨rfl, HB6.out.2.2⟩
end Go.Proofs.YthjfeodclphgaaaDoor
