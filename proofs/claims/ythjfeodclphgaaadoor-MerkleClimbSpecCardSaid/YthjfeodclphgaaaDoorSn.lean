/- Two texts with different digests. -/
import Derived.Test.YthjfeodclphgaaaDoorLf
import Derived.Test.YthjfeodclphgaaaDoorCo
namespace Go.Proofs.YthjfeodclphgaaaDoor
theorem five_six : sha (tagL ++ [5]) ≠ sha (tagL ++ [6]) := by decide +kernel
end Go.Proofs.YthjfeodclphgaaaDoor

/- Collide; what sane meets. -/
namespace Go.Proofs.YthjfeodclphgaaaDoor
open Go.RowKit Go.Shelf
set_option maxRecDepth 20000 in
set_option maxHeartbeats 1600000 in
theorem Collide_any (n i : Int) (LA LB : Option Addr) (lca lcb : Nat) (la lb : List UInt8) (A A2 : Option Addr) (m c m2 c2 : Nat) (p q : List (List UInt8)) (w : World) (hT : Tab w) (hla : Sb w LA la) (hna : LA = none → lca = 0) (hlla : la.length ≤ 10000000)
    (hlb : Sb w LB lb) (hnb : LB = none → lcb = 0) (hllb : lb.length ≤ 10000000) (hp : DSrc w A m c p) (hq : DSrc w A2 m2 c2 q) :
    Calls Tryd.prog 43 #[.int .i64 n, .int .i64 i, .slice LA la.length lca, .slice LB lb.length lcb, .slice A m c, .slice A2 m2 c2] w (CoP (collAns n i la lb p q) w) := by
  have HC := hide (collide_any n i LA LB lca lcb la lb A A2 m c m2 c2 p q w hT hla hna hlla hlb hnb hllb hp hq)
  clear hT hla hna hlla hlb hnb hllb hp hq
  generalize collAns n i la lb p q = R at *
  cases R with
  | none =>
    go_enter Tryd.func43, Tryd.ntmps43
    go_wp2_with fail
    refine HC.out.mono ?_
    rintro e w' ⟨rfl, hb⟩
    have HB := hide hb
    clear hb HC
    go_wp2_with fail
    go_ret3
    exact ⟨rfl, HB.out⟩
  | some R0 =>
    go_enter Tryd.func43, Tryd.ntmps43
    go_wp2_with fail
    refine HC.out.mono ?_
    rintro e w7 ⟨A7, B7, ca7, cb7, rfl, a⟩
    have HFF := hide (show CoP (some R0) w (.returned (.tuple #[.slice A7 R0.1.length ca7, .slice B7 R0.2.length cb7, .bool true])) w7 from ⟨A7, B7, ca7, cb7, rfl, a⟩)
    clear a HC
    go_wp2_with fail
    go_ret3
    exact HFF.out
theorem DSrc.none0 (w : World) : DSrc w none 0 0 [] := ⟨rfl, fun h => absurd rfl h, D32.nil, Nat.le_refl _, by decide, fun _ => rfl⟩
theorem sb_none (w : World) : Sb w none [] := fun h => absurd rfl h
theorem climb_1 (l : List UInt8) : climbAns 1 0 l [] = (sha (tagL ++ l), 0) := by
  rw [climbAns_yes (by decide) (by show (0 : Nat) = lenR 1 0; rw [lenR_one (Nat.le_refl _)])]
  show (climbR sha tagN 1 0 (sha (tagL ++ l)) [], (0 : Int)) = _
  rw [climbR_one sha tagN (Nat.le_refl _)]
theorem climb_0 : climbAns 0 0 [] [] = (zero32, 1) := climbAns_no (by decide)
theorem climb_2 : climbAns 2 0 [] [] = (zero32, 70) := climbAns_len (by decide) (by
  show (0 : Nat) ≠ lenR 2 0
  rw [lenR_more (by decide), lenR_one (Nat.le_refl _)]
  decide)
theorem coll_1 : collAns 1 0 [5] [6] [] [] = none := by
  unfold collAns
  rw [climb_1, climb_1]
  exact if_pos (.inr (.inr (.inl five_six)))
theorem prove_3 (a b c : List UInt8) : proveR sha tagN [a, b, c] 2 = [sha (nodeT tagN a b)] := by
  rw [proveR_more sha tagN (by simp)]
  have e : pairsL sha tagN [a, b, c] = [sha (nodeT tagN a b), c] := by simp [pairsL]
  rw [e, proveR_more sha tagN (by simp)]
  have e2 : pairsL sha tagN [sha (nodeT tagN a b), c] = [sha (nodeT tagN (sha (nodeT tagN a b)) c)] := by simp [pairsL]
  rw [e2, proveR_one sha tagN (by simp)]
  rfl
theorem prove_1 (a : List UInt8) : proveR sha tagN [a] 0 = [] := proveR_one sha tagN (by simp)
theorem root_2 (a b : List UInt8) : rootR sha tagN [a, b] = sha (nodeT tagN a b) := by
  rw [rootR_more sha tagN (by simp)]
  exact rootR_one sha tagN (by simp [pairsL])
theorem LvIn.take {w : World} {PA : Option Addr} {pl : List Lf} (h : LvIn w PA pl) (k : Nat) : LvIn w PA (pl.take k) :=
  ⟨fun i hi => by
    have hi' : i < pl.length := by simp at hi; omega
    obtain ⟨b, o, e, h1, h2⟩ := h.cel i hi'
    exact ⟨b, o, e, h1, by rw [List.getElem_take]; exact h2⟩, fun x hx => h.sb x (List.mem_of_mem_take hx), fun x hx => h.nil x (List.mem_of_mem_take hx), fun x hx => h.few x (List.mem_of_mem_take hx)⟩
theorem LvIn.none0 (w : World) : LvIn w none [] := ⟨(fun k h => by simp at h), (fun x h => by cases h), (fun x h => by cases h), (fun x h => by cases h)⟩
/-- The three leaves of the examples, and one digest, in memory. -/
structure SnS (w : World) (X B : Nat) (W : World) : Prop where
  one : Blk W X 26 (bc (sha (tagL ++ [5])))
  lv : LvIn W (some ⟨B + 3, 0, none⟩) [⟨some ⟨B, 0, none⟩, [1], 1⟩, ⟨some ⟨B + 1, 0, none⟩, [2], 1⟩, ⟨some ⟨B + 2, 0, none⟩, [3], 1⟩]
  bel : Below w.heap.size w W
theorem SnS.below {w W W' : World} {X B : Nat} (h : SnS w X B W) (hb : Below W.heap.size W W') : SnS w X B W' := ⟨h.one.below hb h.one.lt, h.lv.below hb, below_one h.bel hb⟩
theorem byte_sb {W : World} {B T : Nat} {l : List UInt8} (h : Blk W B T (bc l)) : Sb W (some ⟨B, 0, none⟩) l := Sb.of (Bs.blk h)
theorem leaves_3 {w W V : World} {X N : Nat} (hN : V.heap.size = N) (hX : Blk V X 26 (bc (sha (tagL ++ [5])))) (hb : Below w.heap.size w V)
    (hW : W = (((V.alloc (.cells #[.int .u8 1] 5)).alloc (.cells #[.int .u8 2] 5)).alloc (.cells #[.int .u8 3] 5)).alloc (.cells #[.slice (some ⟨N, 0, none⟩) 1 1, .slice (some ⟨N + 1, 0, none⟩) 1 1, .slice (some ⟨N + 1 + 1, 0, none⟩) 1 1] 22)) : SnS w X N W := by
  subst hN
  subst hW
  have b1 := Blk.new V 5 (bc [1])
  have b2 := Blk.new (V.alloc (.cells #[.int .u8 1] 5)) 5 (bc [2])
  have b3 := Blk.new ((V.alloc (.cells #[.int .u8 1] 5)).alloc (.cells #[.int .u8 2] 5)) 5 (bc [3])
  have b4 := Blk.new (((V.alloc (.cells #[.int .u8 1] 5)).alloc (.cells #[.int .u8 2] 5)).alloc (.cells #[.int .u8 3] 5)) 22 [.slice (some ⟨V.heap.size, 0, none⟩) 1 1, .slice (some ⟨V.heap.size + 1, 0, none⟩) 1 1, .slice (some ⟨V.heap.size + 1 + 1, 0, none⟩) 1 1]
  simp only [World.size_alloc] at b2 b3 b4
  refine ⟨(((hX.alloc _).alloc _).alloc _).alloc _, ⟨fun k hk => ⟨_, _, rfl, b4.lt, ?_⟩, ?_, ?_, ?_⟩, (((hb.alloc hb.size _).alloc (by have := hb.size; simp; omega) _).alloc (by have := hb.size; simp; omega) _).alloc (by have := hb.size; simp; omega) _⟩
  · match k, hk with
    | 0, _ => exact (b4.cell 0).trans rfl
    | 1, _ => exact (b4.cell 1).trans rfl
    | 2, _ => exact (b4.cell 2).trans rfl
    | k + 3, hk => simp at hk; omega
  · intro x hx
    simp only [List.mem_cons, List.not_mem_nil, or_false] at hx
    rcases hx with rfl | rfl | rfl
    · exact byte_sb (((b1.alloc _).alloc _).alloc _)
    · exact byte_sb ((b2.alloc _).alloc _)
    · exact byte_sb (b3.alloc _)
  · intro x hx
    simp only [List.mem_cons, List.not_mem_nil, or_false] at hx
    rcases hx with rfl | rfl | rfl <;> (intro h; cases h)
  · intro x hx
    simp only [List.mem_cons, List.not_mem_nil, or_false] at hx
    rcases hx with rfl | rfl | rfl <;> (show 1 ≤ 10000000; decide)
abbrev hN : List UInt8 := sha (nodeT tagN (sha (tagL ++ [1])) (sha (tagL ++ [2])))
theorem prove_two {w W : World} {X B : Nat} (h : SnS w X B W) (hT : Tab W) : Calls Tryd.prog 36 #[.slice (some ⟨B + 3, 0, none⟩) 3 3, .int .i64 2] W fun e w' => ∃ (A : Option Addr) (c : Nat), e = .returned (.tuple #[.slice A 1 c, .int .i64 0]) ∧ DSrc w' A 1 c [hN] ∧ Below W.heap.size W w' := by
  refine (prove_yes _ _ 3 2 W hT h.lv (by simp) (by simp)).mono ?_
  rintro e w' ⟨A, c, he, ho, hb⟩
  rw [show proveR sha tagN (rowF [⟨some ⟨B, 0, none⟩, [1], 1⟩, ⟨some ⟨B + 1, 0, none⟩, [2], 1⟩, ⟨some ⟨B + 2, 0, none⟩, [3], 1⟩]) 2 = [hN] from prove_3 _ _ _] at he ho
  obtain ⟨A', c', e', hds⟩ := own_dsrc ho (D32.one (sha_len _)) rfl
  injection e' with e1 e2 e3
  subst e1; subst e3
  exact ⟨A, c, he, hds, hb⟩
theorem prove_one {w W : World} {X B : Nat} (h : SnS w X B W) (hT : Tab W) : Calls Tryd.prog 36 #[.slice (some ⟨B + 3, 0, none⟩) 1 3, .int .i64 0] W fun e w' => ∃ (A : Option Addr) (c : Nat), e = .returned (.tuple #[.slice A 0 c, .int .i64 0]) ∧ Below W.heap.size W w' := by
  refine (prove_yes _ _ 3 0 W hT (h.lv.take 1) (by simp) (by simp)).mono ?_
  rintro e w' ⟨A, c, he, _, hb⟩
  rw [show proveR sha tagN (rowF (([⟨some ⟨B, 0, none⟩, [1], 1⟩, ⟨some ⟨B + 1, 0, none⟩, [2], 1⟩, ⟨some ⟨B + 2, 0, none⟩, [3], 1⟩] : List Lf).take 1)) 0 = [] from prove_1 _] at he
  exact ⟨A, c, he, hb⟩
theorem rootB_two (x y : Lf) : rootB [x, y] = sha (nodeT tagN (sha (tagL ++ x.l)) (sha (tagL ++ y.l))) := by
  unfold rootB
  rw [if_neg (by simp)]
  have e : rowF [x, y] = [sha (tagL ++ x.l), sha (tagL ++ y.l)] := by simp [rowF]
  rw [e]
  exact root_2 _ _
theorem root_two {w W : World} {X B : Nat} (h : SnS w X B W) (hT : Tab W) : Calls Tryd.prog 38 #[.slice (some ⟨B + 3, 0, none⟩) 2 3] W fun e w' => e = .returned (dv hN) ∧ Below W.heap.size W w' := by
  have e : rootB [(⟨some ⟨B, 0, none⟩, [1], 1⟩ : Lf), ⟨some ⟨B + 1, 0, none⟩, [2], 1⟩] = hN := rootB_two _ _
  have h1 := root_any (some ⟨B + 3, 0, none⟩) [(⟨some ⟨B, 0, none⟩, [1], 1⟩ : Lf), ⟨some ⟨B + 1, 0, none⟩, [2], 1⟩] 3 W hT (h.lv.take 2) (by simp)
  rw [e] at h1
  exact h1
theorem tag_leaf5 (B : Nat) (W : World) (hT : Tab W) (hB : Blk W B 5 (bc [5])) : Calls Tryd.prog 21 #[.string ⟨#[108, 101, 97, 102]⟩, .slice (some ⟨B, 0, none⟩) 1 1] W fun e w' => e = .returned (dv (sha (tagL ++ [5]))) ∧ Below W.heap.size W w' := by
  have h := tagged_any sLeaf (some ⟨B, 0, none⟩) 1 1 [5] W hT (byte_sb hB) rfl (by decide) (by decide) (fun h => by cases h)
  rw [show tagd sLeaf.data.toList [5] = sha (tagL ++ [5]) by unfold tagd; rfl] at h
  exact h
theorem tag_none0 (W : World) (hT : Tab W) : Calls Tryd.prog 21 #[.string ⟨#[110, 111, 110, 101]⟩, .slice none 0 0] W fun e w' => e = .returned (dv (tagd [110, 111, 110, 101] [])) ∧ Below W.heap.size W w' :=
  tagged_any sNone none 0 0 [] W hT (sb_none W) rfl (by decide) (by decide) (fun _ => rfl)
theorem yields_dig {ops : Array Oper} {S : World → Prop} {o : Oper} {a : Act} (hw : Region.wanted o (yielded ops a.tmps) = true) (x y : Operand) (T : TypeId) (ho : o.op = .binOp .eql 26 x y T) (X : List UInt8) (hx : a.eval x = dv X) (hy : a.eval y = dv X)
    (h1 : X.length = 32) : YieldsIf Tryd.prog ops S o (.bool true) a := yields_eql hw x y T ho X X hx hy h1 h1 true (by simp)
end Go.Proofs.YthjfeodclphgaaaDoor

/- sane. -/
namespace Go.Proofs.YthjfeodclphgaaaDoor
open Go.RowKit Go.Shelf
theorem box_set {w v W : World} (hb : Below w.heap.size w v) (d : List UInt8) (hW : W = (v.alloc (.cells (List.replicate 32 (.int .u8 0)).toArray 26)).setRow v.heap.size (bc d).toArray) : Blk W v.heap.size 26 (bc d) ∧ Below w.heap.size w W ∧ Below v.heap.size v W := by
  subst hW
  exact ⟨setRow_heap _ _ _ _ _ _ (heap_alloc_new v _), below_setRow (hb.alloc hb.size _) hb.size _, below_setRow (below_new v _) (Nat.le_refl _) _⟩
set_option maxRecDepth 20000 in
set_option maxHeartbeats 6400000 in
theorem sane_any (w : World) (hT : Tab w) : Calls Tryd.prog 34 #[] w fun e w' => e = .returned (.bool true) ∧ Below w.heap.size w w' := by
  have HT := hide hT
  have HZ := hide (fun (r : List UInt8) (hr : r.length = 32) => show (Tryd.prog.info? 26).map (·.size) = some ((bc r).toArray).size by rw [dv_size _ hr]; exact Tryd.size26)
  have H1 := hide (sha_len (tagL ++ [5]))
  clear hT
  go_enter Tryd.func34, Tryd.ntmps34
  go_wp2_with fail
  refine name_world ?_
  intro W1 hW
  have e := hW.out
  have HA := hide (show Blk W1 w.heap.size 5 (bc [5]) ∧ Below w.heap.size w W1 from by rw [e]; exact ⟨Blk.new w 5 (bc [5]), below_new w _⟩)
  clear hW e
  have HC := hide (Climb_any 1 0 (some ⟨w.heap.size, 0, none⟩) 1 [5] none 0 0 [] W1 (HT.out.below HA.out.2) (byte_sb HA.out.1) (fun h => by cases h) (by decide) (DSrc.none0 W1))
  rw [climb_1] at HC
  refine HC.out.mono ?_
  rintro e w2 ⟨rfl, hb⟩
  have HB2 := hide (below_one HA.out.2 hb)
  clear hb HC HA
  go_wp2_with (refine wpList_store_row rfl 26 (.tmp 1) (.tmp 21) rfl w2.heap.size (bc (sha (tagL ++ [5]))).toArray rfl rfl 26 _ (heap_alloc_new w2 _) (HZ.out _ H1.out) (by rw [dv_size _ H1.out]; rfl) (all_oneCell_toArray (bc_one (sha (tagL ++ [5])))) ?_)
  refine name_world ?_
  intro W3 hW
  have e := hW.out
  have H3 := hide (box_set HB2.out (sha (tagL ++ [5])) e)
  clear hW e
  have HC := hide (Climb_any 0 0 none 0 [] none 0 0 [] W3 (HT.out.below H3.out.2.1) (sb_none W3) (fun _ => rfl) (by decide) (DSrc.none0 W3))
  rw [climb_0] at HC
  refine HC.out.mono ?_
  rintro e w4 ⟨rfl, hb⟩
  have H4 := hide (And.intro (H3.out.1.below hb H3.out.1.lt) (below_one H3.out.2.1 hb))
  clear hb HC H3
  go_wp2_with (refine wpList_store_row rfl 26 (.tmp 3) (.tmp 25) rfl w4.heap.size (bc zero32).toArray rfl rfl 26 _ (heap_alloc_new w4 _) (HZ.out _ zero32_len) (by rw [dv_size _ zero32_len]; rfl) (all_oneCell_toArray (bc_one zero32)) ?_)
  refine name_world ?_
  intro W5 hW
  have e := hW.out
  have H5 := hide (show Blk W5 w2.heap.size 26 (bc (sha (tagL ++ [5]))) ∧ Below w.heap.size w W5 from ⟨H4.out.1.below (box_set H4.out.2 zero32 e).2.2 H4.out.1.lt, (box_set H4.out.2 zero32 e).2.1⟩)
  clear hW e
  have HC := hide (Climb_any 2 0 none 0 [] none 0 0 [] W5 (HT.out.below H5.out.2) (sb_none W5) (fun _ => rfl) (by decide) (DSrc.none0 W5))
  rw [climb_2] at HC
  refine HC.out.mono ?_
  rintro e w6 ⟨rfl, hb⟩
  have H6 := hide (And.intro (H5.out.1.below hb H5.out.1.lt) (below_one H5.out.2 hb))
  have H6z := hide (show Blk ((w6.alloc (.cells (List.replicate 32 (.int .u8 0)).toArray 26)).setRow w6.heap.size (bc zero32).toArray) w2.heap.size 26 (bc (sha (tagL ++ [5]))) ∧ Below w.heap.size w ((w6.alloc (.cells (List.replicate 32 (.int .u8 0)).toArray 26)).setRow w6.heap.size (bc zero32).toArray) from ⟨H6.out.1.below (box_set H6.out.2 zero32 rfl).2.2 H6.out.1.lt, (box_set H6.out.2 zero32 rfl).2.1⟩)
  clear hb HC H5 H4 HB2
  go_wp2_with (refine wpList_store_row rfl 26 (.tmp 5) (.tmp 29) rfl w6.heap.size (bc zero32).toArray rfl rfl 26 _ (heap_alloc_new w6 _) (HZ.out _ zero32_len) (by rw [dv_size _ zero32_len]; rfl) (all_oneCell_toArray (bc_one zero32)) ?_)
  refine name_world ?_
  intro W7 hW
  have e := hW.out
  have H7 := hide (show SnS w w2.heap.size (w6.heap.size + 1) W7 from leaves_3 (by simp) H6z.out.1 H6z.out.2 e)
  clear hW e
  clear H6z H6
  have HT7 := hide (HT.out.below H7.out.bel)
  refine (prove_two H7.out HT7.out).mono ?_
  rintro e w8 ⟨A8, c8, rfl, hd8, hb⟩
  have H8 := hide (And.intro (H7.out.below hb) hd8)
  clear hb hd8 H7 HT7
  go_wp2_with fail
  have HT8 := hide (HT.out.below H8.out.1.bel)
  refine (prove_one H8.out.1 HT8.out).mono ?_
  rintro e w9 ⟨A9, c9, rfl, hb⟩
  have H9 := hide (And.intro (H8.out.1.below hb) (H8.out.2.below hb))
  clear hb H8 HT8
  go_wp2_with fail
  refine (prove_no _ 3 3 3 w9 (by decide)).mono ?_
  rintro e w10 ⟨rfl, hb⟩
  have H10 := hide (And.intro (H9.out.1.below hb) (H9.out.2.below hb))
  clear hb H9
  go_wp2_with fail
  refine name_world ?_
  intro W11 hW
  have e := hW.out
  have H11 := hide (show (SnS w w2.heap.size (w6.heap.size + 1) W11 ∧ DSrc W11 A8 1 c8 [hN]) ∧ Blk W11 w10.heap.size 5 (bc [5]) ∧ Blk W11 (w10.heap.size + 1) 5 (bc [6]) from by
    subst e
    have hb := (below_new w10 (.cells #[.int .u8 5] 5)).alloc (by simp) (.cells #[.int .u8 6] 5)
    have b1 := Blk.new w10 5 (bc [5])
    have b2 := Blk.new (w10.alloc (.cells #[.int .u8 5] 5)) 5 (bc [6])
    simp only [World.size_alloc] at b2
    exact ⟨⟨H10.out.1.below hb, H10.out.2.below hb⟩, b1.alloc _, b2⟩)
  clear hW e
  clear H10
  have HC := hide (Collide_any 1 0 (some ⟨w10.heap.size, 0, none⟩) (some ⟨w10.heap.size + 1, 0, none⟩) 1 1 [5] [6] none none 0 0 0 0 [] [] W11 (HT.out.below H11.out.1.1.bel) (byte_sb H11.out.2.1) (fun h => by cases h) (by decide) (byte_sb H11.out.2.2) (fun h => by cases h) (by decide) (DSrc.none0 W11) (DSrc.none0 W11))
  rw [coll_1] at HC
  refine HC.out.mono ?_
  rintro e w12 ⟨rfl, hb⟩
  have H12 := hide (And.intro (H11.out.1.1.below hb) (H11.out.1.2.below hb))
  clear hb HC H11
  go_wp2_with fail
  obtain ⟨bp, op, hA8, hrp, hbp, hmp, hp32, -⟩ := H12.out.2.head
  have hc8 := H12.out.2.le
  have hc8t := H12.out.2.top
  subst hA8
  have HN32 := hide hp32
  have HRG := hide (And.intro hrp hbp)
  have hTN := hide (tagd_len [110, 111, 110, 101] [])
  clear hrp hbp hmp hp32
  have HC := hide (fun W' (h : Below w12.drew.heap.size w12.drew W') => show W'.rangeAt w2.heap.size 0 (bc (sha (tagL ++ [5]))) ∧ W'.rangeAt bp op (bc hN) from ⟨range_below (bs_range H12.out.1.one.bs) (((Below.refl _ w12).drew).trans h) H12.out.1.one.lt, range_below HRG.out.1 (((Below.refl _ w12).drew).trans h) HRG.out.2⟩)
  have HTW := hide (HT.out.below (below_one H12.out.1.bel ((Below.refl _ w12).drew)))
  have HSD := hide (H12.out.1.below ((Below.refl _ w12).drew))
  obtain ⟨d5, hd5⟩ : ∃ d, sha (tagL ++ [5]) = d := ⟨_, rfl⟩
  rw [hd5] at HC H1
  have HD5 := hide hd5
  rw [hd5]
  clear hd5
  refine wp_region_plan4 (fun W' => Below w12.drew.heap.size w12.drew W') (.take 0 (.take 1 (.take 2 (.run 3 (.run 4 (.take 5 (.take 6 (.take 7 (.take 8 (.take 9 (.take 10 (.take 11 (.take 12 (.take 13 (.take 14 (.take 15 (.take 16 (.take 17 (.take 18 (.take 19 (.take 20 (.take 21 (.take 22 (.run 23 (.take 24 (.take 25 (.take 26 (.run 27 (.run 28 (.take 29 (.take 30 (.take 31 .done)))))))))))))))))))))))))))))))) (by kernel_rfl) (by kernel_rfl) (Below.refl _ _) ?_
  (refine plan4_take (o := ?_) (v := ?_) (by simp only [List.getElem?_toArray, List.getElem?_cons_zero]; rfl) (yields_run (by rfl) ?_) ?_; rotate_left; (focus (intro w' hw'; skip; go_simp <;> with_reducible rfl)); (simp only [Act.put, List.setIfInBounds_toArray, List.set_cons_zero, List.set_cons_succ]))
  (refine plan4_take (o := ?_) (v := ?_) (by simp only [List.getElem?_toArray, List.getElem?_cons_succ, List.getElem?_cons_zero]; rfl) (yields_run (by rfl) ?_) ?_; rotate_left; (focus (intro w' hw'; skip; go_simp <;> with_reducible rfl)); (simp only [Act.put, List.setIfInBounds_toArray, List.set_cons_zero, List.set_cons_succ]))
  (refine plan4_take (o := ?_) (by simp only [List.getElem?_toArray, List.getElem?_cons_succ, List.getElem?_cons_zero]; rfl) (yieldsIf_load_mid (by rfl) 26 (.tmp 1) rfl w2.heap.size 0 rfl (bc d5) _ (fun W' h => (HC.out W' h).1) Tryd.underlying26 rfl (HZ.out _ H1.out)) ?_; (simp only [Act.put, List.setIfInBounds_toArray, List.set_cons_zero, List.set_cons_succ]))
  refine plan4_run (o := ?_) (by simp only [List.getElem?_toArray, List.getElem?_cons_succ, List.getElem?_cons_zero]; rfl) ?_
  intro R HR
  go_wp2_with fail
  refine HR.out _ _ ((Below.refl _ _).alloc (Nat.le_refl _) _) ?_
  clear HR
  refine name_plan4 ?_
  intro V1 hV
  have e := hV.out
  have HV1 := hide (show Blk V1 w12.drew.heap.size 5 (bc [5]) ∧ Below w12.drew.heap.size w12.drew V1 from by rw [e]; exact ⟨Blk.new _ 5 (bc [5]), below_new _ _⟩)
  clear hV e
  refine plan4_run (o := ?_) (by simp only [List.getElem?_toArray, List.getElem?_cons_succ, List.getElem?_cons_zero]; rfl) ?_
  intro R HR
  go_wp2_with fail
  refine (tag_leaf5 w12.drew.heap.size V1 (HTW.out.below HV1.out.2) HV1.out.1).mono ?_
  rintro e V2 ⟨he, hb⟩
  rw [HD5.out] at he
  subst he
  have HV2 := hide (below_one HV1.out.2 hb)
  clear hb
  go_wp2_with fail
  refine HR.out _ _ HV2.out ?_
  clear HR
  (refine plan4_take (o := ?_) (v := .bool true) (by simp only [List.getElem?_toArray, List.getElem?_cons_succ, List.getElem?_cons_zero]; rfl) (yields_dig (by rfl) (.tmp 86) (.tmp 88) 26 rfl d5 rfl rfl H1.out) ?_; (simp only [Act.put, List.setIfInBounds_toArray, List.set_cons_zero, List.set_cons_succ]))
  (refine plan4_take (o := ?_) (v := ?_) (by simp only [List.getElem?_toArray, List.getElem?_cons_succ, List.getElem?_cons_zero]; rfl) (yields_run (by rfl) ?_) ?_; rotate_left; (focus (intro w' hw'; skip; go_simp <;> with_reducible rfl)); (simp only [Act.put, List.setIfInBounds_toArray, List.set_cons_zero, List.set_cons_succ]))
  (refine plan4_take (o := ?_) (v := ?_) (by simp only [List.getElem?_toArray, List.getElem?_cons_succ, List.getElem?_cons_zero]; rfl) (yields_run (by rfl) ?_) ?_; rotate_left; (focus (intro w' hw'; skip; go_simp <;> with_reducible rfl)); (simp only [Act.put, List.setIfInBounds_toArray, List.set_cons_zero, List.set_cons_succ]))
  (refine plan4_take (o := ?_) (v := ?_) (by simp only [List.getElem?_toArray, List.getElem?_cons_succ, List.getElem?_cons_zero]; rfl) (yields_run (by rfl) ?_) ?_; rotate_left; (focus (intro w' hw'; skip; go_simp <;> with_reducible rfl)); (simp only [Act.put, List.setIfInBounds_toArray, List.set_cons_zero, List.set_cons_succ]))
  (refine plan4_take (o := ?_) (v := ?_) (by simp only [List.getElem?_toArray, List.getElem?_cons_succ, List.getElem?_cons_zero]; rfl) (yields_run (by rfl) ?_) ?_; rotate_left; (focus (intro w' hw'; skip; go_simp <;> with_reducible rfl)); (simp only [Act.put, List.setIfInBounds_toArray, List.set_cons_zero, List.set_cons_succ]))
  (refine plan4_take (o := ?_) (v := ?_) (by simp only [List.getElem?_toArray, List.getElem?_cons_succ, List.getElem?_cons_zero]; rfl) (yields_run (by rfl) ?_) ?_; rotate_left; (focus (intro w' hw'; skip; go_simp <;> with_reducible rfl)); (simp only [Act.put, List.setIfInBounds_toArray, List.set_cons_zero, List.set_cons_succ]))
  (refine plan4_take (o := ?_) (v := ?_) (by simp only [List.getElem?_toArray, List.getElem?_cons_succ, List.getElem?_cons_zero]; rfl) (yields_run (by rfl) ?_) ?_; rotate_left; (focus (intro w' hw'; skip; go_simp <;> with_reducible rfl)); (simp only [Act.put, List.setIfInBounds_toArray, List.set_cons_zero, List.set_cons_succ]))
  (refine plan4_take (o := ?_) (v := ?_) (by simp only [List.getElem?_toArray, List.getElem?_cons_succ, List.getElem?_cons_zero]; rfl) (yields_run (by rfl) ?_) ?_; rotate_left; (focus (intro w' hw'; skip; go_simp <;> with_reducible rfl)); (simp only [Act.put, List.setIfInBounds_toArray, List.set_cons_zero, List.set_cons_succ]))
  (refine plan4_take (o := ?_) (v := ?_) (by simp only [List.getElem?_toArray, List.getElem?_cons_succ, List.getElem?_cons_zero]; rfl) (yields_run (by rfl) ?_) ?_; rotate_left; (focus (intro w' hw'; skip; go_simp <;> with_reducible rfl)); (simp only [Act.put, List.setIfInBounds_toArray, List.set_cons_zero, List.set_cons_succ]))
  (refine plan4_take (o := ?_) (v := ?_) (by simp only [List.getElem?_toArray, List.getElem?_cons_succ, List.getElem?_cons_zero]; rfl) (yields_run (by rfl) ?_) ?_; rotate_left; (focus (intro w' hw'; skip; go_simp <;> with_reducible rfl)); (simp only [Act.put, List.setIfInBounds_toArray, List.set_cons_zero, List.set_cons_succ]))
  (refine plan4_take (o := ?_) (v := ?_) (by simp only [List.getElem?_toArray, List.getElem?_cons_succ, List.getElem?_cons_zero]; rfl) (yields_run (by rfl) ?_) ?_; rotate_left; (focus (intro w' hw'; skip; go_simp <;> with_reducible rfl)); (simp only [Act.put, List.setIfInBounds_toArray, List.set_cons_zero, List.set_cons_succ]))
  (refine plan4_take (o := ?_) (v := ?_) (by simp only [List.getElem?_toArray, List.getElem?_cons_succ, List.getElem?_cons_zero]; rfl) (yields_run (by rfl) ?_) ?_; rotate_left; (focus (intro w' hw'; skip; go_simp <;> with_reducible rfl)); (simp only [Act.put, List.setIfInBounds_toArray, List.set_cons_zero, List.set_cons_succ]))
  (refine plan4_take (o := ?_) (v := ?_) (by simp only [List.getElem?_toArray, List.getElem?_cons_succ, List.getElem?_cons_zero]; rfl) (yields_run (by rfl) ?_) ?_; rotate_left; (focus (intro w' hw'; skip; go_simp <;> with_reducible rfl)); (simp only [Act.put, List.setIfInBounds_toArray, List.set_cons_zero, List.set_cons_succ]))
  (refine plan4_take (o := ?_) (v := ?_) (by simp only [List.getElem?_toArray, List.getElem?_cons_succ, List.getElem?_cons_zero]; rfl) (yields_run (by rfl) ?_) ?_; rotate_left; (focus (intro w' hw'; skip; go_simp <;> with_reducible rfl)); (simp only [Act.put, List.setIfInBounds_toArray, List.set_cons_zero, List.set_cons_succ]))
  (refine plan4_take (o := ?_) (v := ?_) (by simp only [List.getElem?_toArray, List.getElem?_cons_succ, List.getElem?_cons_zero]; rfl) (yields_run (by rfl) ?_) ?_; rotate_left; (focus (intro w' hw'; skip; go_simp <;> with_reducible rfl)); (simp only [Act.put, List.setIfInBounds_toArray, List.set_cons_zero, List.set_cons_succ]))
  (refine plan4_take (o := ?_) (by simp only [List.getElem?_toArray, List.getElem?_cons_succ, List.getElem?_cons_zero]; rfl) (yieldsIf_load_mid (by rfl) 26 (.tmp 103) rfl bp op rfl (bc hN) _ (fun W' h => (HC.out W' h).2) Tryd.underlying26 rfl (HZ.out _ HN32.out)) ?_; (simp only [Act.put, List.setIfInBounds_toArray, List.set_cons_zero, List.set_cons_succ]))
  (refine plan4_take (o := ?_) (v := ?_) (by simp only [List.getElem?_toArray, List.getElem?_cons_succ, List.getElem?_cons_zero]; rfl) (yields_run (by rfl) ?_) ?_; rotate_left; (focus (intro w' hw'; skip; go_simp <;> with_reducible rfl)); (simp only [Act.put, List.setIfInBounds_toArray, List.set_cons_zero, List.set_cons_succ]))
  (refine plan4_take (o := ?_) (v := ?_) (by simp only [List.getElem?_toArray, List.getElem?_cons_succ, List.getElem?_cons_zero]; rfl) (yields_run (by rfl) ?_) ?_; rotate_left; (focus (intro w' hw'; skip; go_simp <;> with_reducible rfl)); (simp only [Act.put, List.setIfInBounds_toArray, List.set_cons_zero, List.set_cons_succ]))
  refine plan4_run (o := ?_) (by simp only [List.getElem?_toArray, List.getElem?_cons_succ, List.getElem?_cons_zero]; rfl) ?_
  intro R HR
  go_wp2_with fail
  refine (root_two (HSD.out.below HV2.out) (HTW.out.below HV2.out)).mono ?_
  rintro e V3 ⟨he, hb⟩
  skip
  subst he
  have HV3 := hide (below_one HV2.out hb)
  clear hb
  go_wp2_with fail
  refine HR.out _ _ HV3.out ?_
  clear HR
  (refine plan4_take (o := ?_) (v := .bool true) (by simp only [List.getElem?_toArray, List.getElem?_cons_succ, List.getElem?_cons_zero]; rfl) (yields_dig (by rfl) (.tmp 104) (.tmp 107) 26 rfl hN rfl rfl HN32.out) ?_; (simp only [Act.put, List.setIfInBounds_toArray, List.set_cons_zero, List.set_cons_succ]))
  (refine plan4_take (o := ?_) (v := ?_) (by simp only [List.getElem?_toArray, List.getElem?_cons_succ, List.getElem?_cons_zero]; rfl) (yields_run (by rfl) ?_) ?_; rotate_left; (focus (intro w' hw'; skip; go_simp <;> with_reducible rfl)); (simp only [Act.put, List.setIfInBounds_toArray, List.set_cons_zero, List.set_cons_succ]))
  (refine plan4_take (o := ?_) (v := ?_) (by simp only [List.getElem?_toArray, List.getElem?_cons_succ, List.getElem?_cons_zero]; rfl) (yields_run (by rfl) ?_) ?_; rotate_left; (focus (intro w' hw'; skip; go_simp <;> with_reducible rfl)); (simp only [Act.put, List.setIfInBounds_toArray, List.set_cons_zero, List.set_cons_succ]))
  refine plan4_run (o := ?_) (by simp only [List.getElem?_toArray, List.getElem?_cons_succ, List.getElem?_cons_zero]; rfl) ?_
  intro R HR
  go_wp2_with fail
  refine (root_nil none 0 _ (HTW.out.below HV3.out)).mono ?_
  rintro e V4 ⟨he, hb⟩
  skip
  subst he
  have HV4 := hide (below_one HV3.out hb)
  clear hb
  go_wp2_with fail
  refine HR.out _ _ HV4.out ?_
  clear HR
  refine plan4_run (o := ?_) (by simp only [List.getElem?_toArray, List.getElem?_cons_succ, List.getElem?_cons_zero]; rfl) ?_
  intro R HR
  go_wp2_with fail
  refine (tag_none0 _ (HTW.out.below HV4.out)).mono ?_
  rintro e V5 ⟨he, hb⟩
  skip
  subst he
  have HV5 := hide (below_one HV4.out hb)
  clear hb
  go_wp2_with fail
  refine HR.out _ _ HV5.out ?_
  clear HR
  (refine plan4_take (o := ?_) (v := .bool true) (by simp only [List.getElem?_toArray, List.getElem?_cons_succ, List.getElem?_cons_zero]; rfl) (yields_dig (by rfl) (.tmp 111) (.tmp 112) 26 rfl (tagd [110, 111, 110, 101] []) rfl rfl hTN.out) ?_; (simp only [Act.put, List.setIfInBounds_toArray, List.set_cons_zero, List.set_cons_succ]))
  (refine plan4_take (o := ?_) (v := ?_) (by simp only [List.getElem?_toArray, List.getElem?_cons_succ, List.getElem?_cons_zero]; rfl) (yields_run (by rfl) ?_) ?_; rotate_left; (focus (intro w' hw'; skip; go_simp <;> with_reducible rfl)); (simp only [Act.put, List.setIfInBounds_toArray, List.set_cons_zero, List.set_cons_succ]))
  (refine plan4_take (o := ?_) (v := ?_) (by simp only [List.getElem?_toArray, List.getElem?_cons_succ, List.getElem?_cons_zero]; rfl) (yields_run (by rfl) ?_) ?_; rotate_left; (focus (intro w' hw'; skip; go_simp <;> with_reducible rfl)); (simp only [Act.put, List.setIfInBounds_toArray, List.set_cons_zero]))
  refine plan4_done ?_
  have HEND := hide (below_one (below_one H12.out.1.bel ((Below.refl _ w12).drew)) HV5.out)
  go_wp2_with fail
  go_ret
  exact ⟨rfl, HEND.out⟩
end Go.Proofs.YthjfeodclphgaaaDoor
