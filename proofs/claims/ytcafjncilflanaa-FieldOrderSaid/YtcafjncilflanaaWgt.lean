/- weight: how much the value of a point counts. -/
import Derived.Test.YtcafjncilflanaaOth
import Derived.RangeFuncStops
import Derived.Test.YtcafjncilflanaaBrg
import Derived.Shelf.Abstract
namespace Go.Proofs.Ytcafjncilflanaa
open Go.RowKit Go.Shelf
attribute [local go_sem] Oper.semAt_some

theorem prd_snoc (x r : Int) : ∀ l : List Int, prd x (l ++ [r]) = prd x l * (x - r)
  | [] => by simp [prd]
  | s :: l => by
    show (x - s) * prd x (l ++ [r]) = (x - s) * prd x l * (x - r)
    rw [prd_snoc x r l, Int.mul_assoc]
theorem Kept.refl {ok : Nat → Prop} (W : World) : Kept ok W W := ⟨fun _ _ _ => rfl, Nat.le_refl _⟩
theorem Blk.kept {ok : Nat → Prop} {W W' : World} {X T : Nat} {cs : List Value} (h : Blk W X T cs) (k : Kept ok W W') (ho : ok X) : Blk W' X T cs := (k.block X h.lt ho).trans h
theorem kept_put {ok : Nat → Prop} {W0 W : World} {l : Nat} {o' : Obj} (h : Kept ok W0 W) (hl : W0.heap.size ≤ l) : Kept ok W0 (W.putObj l o') :=
  ⟨fun b hb hk => (World.putObj_heap_other (by omega)).trans (h.block b hb hk), Nat.le_trans h.size (by simp [World.putObj])⟩
theorem Pts.blocks {w w' : World} {A : Option Addr} {l : List Pt} (h : Pts w A l) (hs : w.heap.size ≤ w'.heap.size) (hb : ∀ b, b < w.heap.size → w'.heap[b]? = w.heap[b]?) : Pts w' A l := fun hn => by
  obtain ⟨b, o, h1, h2, h3⟩ := h hn
  exact ⟨b, o, h1, Nat.lt_of_lt_of_le h2 hs, fun i hi => ⟨(World.cell?_of_block (a := ⟨b, o + i * 2, none⟩) (hb b h2)).trans (h3 i hi).1, (World.cell?_of_block (a := ⟨b, o + i * 2 + 1, none⟩) (hb b h2)).trans (h3 i hi).2⟩⟩
/-- The boxes of the two products, and what is kept beside. -/
structure WI (w w7 : World) (x y : Int) (W : World) : Prop where
  above : Blk W (w.heap.size + 1 + 1 + 1) 3 [.int .i64 x]
  below : Blk W (w.heap.size + 1 + 1 + 1 + 1) 3 [.int .i64 y]
  kept : Kept (fun b => b ≠ w.heap.size + 1 + 1 + 1 ∧ b ≠ w.heap.size + 1 + 1 + 1 + 1) w7 W
  bel : Below w.heap.size w W
theorem wi_own1 {B : Nat} (w w7 : World) (x y : Int) (hw : w.heap.size + 5 ≤ w7.heap.size) (hB : w7.heap.size ≤ B) : OwnFrom B (fun (_ : Unit) W => WI w w7 x y W) := fun _ X Y row hs hg hr =>
  ⟨(blk_own (β := Unit) _ _ _).from B () X Y row hs.above hg hr, (blk_own (β := Unit) _ _ _).from B () X Y row hs.below hg hr,
    ⟨fun b hb hk => (hg.block b (Nat.lt_of_lt_of_le hb hs.kept.size) (fun e => by have := (hr b e.symm).1; omega)).trans (hs.kept.block b hb hk), Nat.le_trans hs.kept.size hg.size⟩,
    ownFrom_below (β := Unit) (Nat.le_refl _) (by omega) () X Y row hs.bel hg hr⟩
theorem WI.below' {w w7 W W' : World} {x y : Int} (h : WI w w7 x y W) (hb : Below W.heap.size W W') : WI w w7 x y W' := ⟨h.above.below hb h.above.lt, h.below.below hb h.below.lt, h.kept.trans (.below hb), below_one h.bel hb⟩
theorem WI.setA {w w7 W : World} {x y : Int} (h : WI w w7 x y W) (z : Int) : WI w w7 z y (W.setCell ⟨w.heap.size + 1 + 1 + 1, 0, none⟩ (.int .i64 z)) :=
  ⟨h.above.set 0 _, h.below.apart (by simp) _, h.kept.trans (.only (X := w.heap.size + 1 + 1 + 1) (only_setCell (only_refl _ _) (.inl rfl) _) (by simp)), h.bel.setCell (by simp only; omega) _⟩
theorem WI.setB {w w7 W : World} {x y : Int} (h : WI w w7 x y W) (z : Int) : WI w w7 x z (W.setCell ⟨w.heap.size + 1 + 1 + 1 + 1, 0, none⟩ (.int .i64 z)) :=
  ⟨h.above.apart (by simp) _, h.below.set 0 _, h.kept.trans (.only (X := w.heap.size + 1 + 1 + 1 + 1) (only_setCell (only_refl _ _) (.inl rfl) _) (by simp)), h.bel.setCell (by simp only; omega) _⟩

/-- The loop under way, behind some points. -/
def WJ (w w7 : World) (at' xi : Int) (pre : List Pt) (W : World) : Prop := WI w w7 (md (prd at' (pre.map (·.1)))) (md (prd xi (pre.map (·.1)))) W
theorem prd_step (x : Int) (pre : List Pt) (p : Pt) : md (md (prd x (pre.map (·.1))) * md (x - p.1)) = md (prd x (pre.map (·.1) ++ [p.1])) := by
  rw [md_mull, md_mulr, prd_snoc]
theorem others_below {W W' : World} (h : Below W.heap.size W W') : KeepsOthers W W' := KeepsOthers.of_grownBy (row := none) ⟨h.os, h.tape, h.output, h.size, fun i hi _ => h.block i hi⟩ (fun j o hj _ => by cases hj)
theorem seven (w : World) (c0 c1 c2 c3 c4 c5 c6 : List Value) (t0 t1 t2 t3 t4 t5 t6 : Nat) {W : World} (hW : W = ((((((w.alloc (.cells c0.toArray t0)).alloc (.cells c1.toArray t1)).alloc (.cells c2.toArray t2)).alloc (.cells c3.toArray t3)).alloc (.cells c4.toArray t4)).alloc (.cells c5.toArray t5)).alloc (.cells c6.toArray t6)) :
    Blk W w.heap.size t0 c0 ∧ Blk W (w.heap.size + 1) t1 c1 ∧ Blk W (w.heap.size + 1 + 1) t2 c2 ∧ Blk W (w.heap.size + 1 + 1 + 1) t3 c3 ∧ Blk W (w.heap.size + 1 + 1 + 1 + 1) t4 c4 ∧ Blk W (w.heap.size + 1 + 1 + 1 + 1 + 1) t5 c5 ∧ Blk W (w.heap.size + 1 + 1 + 1 + 1 + 1 + 1) t6 c6 ∧ W.heap.size = w.heap.size + 7 ∧ Below w.heap.size w W := by
  subst hW
  generalize h1 : w.alloc (.cells c0.toArray t0) = w1
  have z1 : w1.heap.size = w.heap.size + 1 := by rw [← h1]; simp
  have b1 := h1 ▸ Blk.new w t0 c0
  have B1 := h1 ▸ below_new w (.cells c0.toArray t0)
  generalize h2 : w1.alloc (.cells c1.toArray t1) = w2
  have z2 : w2.heap.size = w.heap.size + 1 + 1 := by rw [← h2]; simp [z1]
  have b2 := h2 ▸ Blk.new w1 t1 c1
  have B2 := h2 ▸ below_new w1 (.cells c1.toArray t1)
  generalize h3 : w2.alloc (.cells c2.toArray t2) = w3
  have z3 : w3.heap.size = w.heap.size + 1 + 1 + 1 := by rw [← h3]; simp [z2]
  have b3 := h3 ▸ Blk.new w2 t2 c2
  have B3 := h3 ▸ below_new w2 (.cells c2.toArray t2)
  generalize h4 : w3.alloc (.cells c3.toArray t3) = w4
  have z4 : w4.heap.size = w.heap.size + 1 + 1 + 1 + 1 := by rw [← h4]; simp [z3]
  have b4 := h4 ▸ Blk.new w3 t3 c3
  have B4 := h4 ▸ below_new w3 (.cells c3.toArray t3)
  generalize h5 : w4.alloc (.cells c4.toArray t4) = w5
  have z5 : w5.heap.size = w.heap.size + 1 + 1 + 1 + 1 + 1 := by rw [← h5]; simp [z4]
  have b5 := h5 ▸ Blk.new w4 t4 c4
  have B5 := h5 ▸ below_new w4 (.cells c4.toArray t4)
  generalize h6 : w5.alloc (.cells c5.toArray t5) = w6
  have z6 : w6.heap.size = w.heap.size + 1 + 1 + 1 + 1 + 1 + 1 := by rw [← h6]; simp [z5]
  have b6 := h6 ▸ Blk.new w5 t5 c5
  have B6 := h6 ▸ below_new w5 (.cells c5.toArray t5)
  generalize h7 : w6.alloc (.cells c6.toArray t6) = w7
  have z7 : w7.heap.size = w.heap.size + 7 := by rw [← h7]; simp [z6]
  have b7 := h7 ▸ Blk.new w6 t6 c6
  have B7 := h7 ▸ below_new w6 (.cells c6.toArray t6)
  rw [z1] at b2
  rw [z2] at b3
  rw [z3] at b4
  rw [z4] at b5
  rw [z5] at b6
  rw [z6] at b7
  exact ⟨(((((b1.below B2 (by omega)).below B3 (by omega)).below B4 (by omega)).below B5 (by omega)).below B6 (by omega)).below B7 (by omega),
    ((((b2.below B3 (by omega)).below B4 (by omega)).below B5 (by omega)).below B6 (by omega)).below B7 (by omega),
    (((b3.below B4 (by omega)).below B5 (by omega)).below B6 (by omega)).below B7 (by omega),
    ((b4.below B5 (by omega)).below B6 (by omega)).below B7 (by omega), (b5.below B6 (by omega)).below B7 (by omega), b6.below B7 (by omega), b7, z7,
    below_one (below_one (below_one (below_one (below_one (below_one B1 B2) B3) B4) B5) B6) B7⟩

set_option maxRecDepth 100000 in
set_option maxHeartbeats 6400000 in
theorem weight_any (A : Option Addr) (l : List Pt) (cap i : Nat) (at' : Int) (w : World) (hA : Pts w A l) (hl : l.length ≤ cap) (hc : cap ≤ 9223372036854775807) (hi : i < l.length) (hd : Dif (l.map (·.1))) :
    Calls Try.prog 24 #[.slice A l.length cap, .int .i64 (i : Nat), .int .i64 at'] w fun e w' => e = .returned (.int .i64 (md (wgt l i at'))) ∧ Below w.heap.size w w' := by
  have HA := hide hA
  clear hA
  obtain ⟨xi, hxi⟩ : ∃ xi, xi = (l.map (·.1)).getD i 0 := ⟨_, rfl⟩
  have HXI := hide hxi
  clear hxi
  refine (callsIn_wide (n := 4)).1 ?_
  refine callsIn_of_wp_marks Try.func24 rfl trivial ?_ rfl
  simp only [Try.ntmps24, List.size_toArray, List.length_cons, List.length_nil, Nat.reduceAdd, Nat.reduceSub, Array.replicate_succ, Array.replicate_zero, List.push_toArray, List.append_toArray, List.nil_append, List.cons_append]
  gi_wp2
  refine ⟨trivial, ?_⟩
  refine (callsIn_wide.2 (others_any A l.length cap i _)).mono ?_
  rintro e w7 ⟨rfl, h7⟩
  simp only [World.size_alloc] at h7 ⊢
  obtain ⟨p0, p1, p2, p3, p4, p5, p6, hz, hb⟩ := seven w [.slice A l.length cap] [.int .i64 (i : Nat)] [.int .i64 at'] [.int .i64 1] [.int .i64 1] [.slice A l.length cap] [.int .i64 (i : Nat)] 31 3 3 3 3 31 3 h7
  have HP0 := hide p0
  have HP1 := hide p1
  have HP2 := hide p2
  have HC := hide (And.intro p5 p6)
  have HZ := hide hz
  have HW7 := hide hb
  have HI0 := hide (show WI w w7 1 1 w7 from ⟨p3, p4, Kept.refl _, hb⟩)
  clear h7 p0 p1 p2 p3 p4 p5 p6 hz hb
  gi_wp2
  refine wp_rangeR2 rfl (by omega) (gf := 29) (lb := #[.pointer (some ⟨w.heap.size + 1 + 1 + 1 + 1 + 1, 0, none⟩), .pointer (some ⟨w.heap.size + 1 + 1 + 1 + 1 + 1 + 1, 0, none⟩)]) rfl trivial (enters_of Try.func29 (by kernel_rfl) rfl)
    (others_gives (4 - 1) (by omega) (w.heap.size + 1 + 1 + 1 + 1 + 1) (w.heap.size + 1 + 1 + 1 + 1 + 1 + 1) A l cap i w7 (fun X Y => Kept (fun b => b ≠ w.heap.size + 1 + 1 + 1 ∧ b ≠ w.heap.size + 1 + 1 + 1 + 1) w7 X → Kept (fun b => b ≠ w.heap.size + 1 + 1 + 1 ∧ b ≠ w.heap.size + 1 + 1 + 1 + 1) w7 Y)
      (fun W h => by
        have hk := h (Kept.refl _)
        refine ⟨?_, (HC.out.1.kept hk (by omega)).cell 0, (HC.out.2.kept hk (by omega)).cell 0⟩
        exact HA.out.blocks (by have h1 := HW7.out.size; have h2 := hk.size; omega) (fun b hb => (hk.block b (by have := HZ.out; omega) (by omega)).trans (HW7.out.block b hb))) (fun X Y Z h k q => k (h q)) (fun X Y h q => q.trans (.below h)) hl hc)
    (fun h k q => k (h q)) (fun W l o o' hl _ _ q => kept_put q hl) (Below.refl _ _) (fun _ => rfl)
    (fun pre W => WJ w w7 at' xi pre W) (fun pre => wi_own1 w w7 _ _ (by have := HZ.out; omega) (Nat.le_refl _) ()) HI0.out
    (fun pre x a' W => ∃ Bx, w7.heap.size ≤ Bx ∧ Blk W Bx 35 [.int .i64 x.1, .int .i64 x.2] ∧ WJ w w7 at' xi pre W ∧ a' = { tmps := #[.slice A l.length cap, .int .i64 (i : Nat), .int .i64 at', .pointer (some ⟨w.heap.size, 0, none⟩), .pointer (some ⟨w.heap.size + 1, 0, none⟩), .pointer (some ⟨w.heap.size + 1 + 1, 0, none⟩), .int .i64 0, .pointer (some ⟨w.heap.size + 1 + 1 + 1, 0, none⟩), .pointer (some ⟨w.heap.size + 1 + 1 + 1 + 1, 0, none⟩), .pointer (some ⟨Bx, 0, none⟩), undef, undef, .slice A l.length cap, .int .i64 (i : Nat), .func (.func 29) #[] #[.pointer (some ⟨w.heap.size + 1 + 1 + 1 + 1 + 1, 0, none⟩), .pointer (some ⟨w.heap.size + 1 + 1 + 1 + 1 + 1 + 1, 0, none⟩)], .agg #[.int .i64 x.1, .int .i64 x.2], undef, undef, undef, undef, undef, undef, undef, undef, undef, undef, undef, undef, undef, undef, undef, undef, undef, undef, undef, undef, undef, undef, undef, undef], defers := [] })
    (fun pre x a' _ X Y row ⟨Bx, h1, h2, h3, h4⟩ hg hr => ⟨Bx, h1, (blk_own (β := Unit) _ _ _).from _ () X Y row h2 hg hr, wi_own1 w w7 _ _ (by have := HZ.out; omega) (Nat.le_refl _) () X Y row h3 hg hr, h4⟩) ?assign ?body ?done
  case assign =>
    rintro ly pre ⟨x1, x2⟩ X K hI - hK
    have HII := hide hI
    have hsz := HII.out.kept.size
    clear hI
    unfold ptV
    gi_wp2
    exact hK _ _ ((KeepsOthers.alloc _ _).from _) (fun q => q.trans (.below (below_new X _))) ⟨X.heap.size, hsz, Blk.new X 35 [.int .i64 x1, .int .i64 x2], HII.out.below' (below_new X _), rfl⟩
  case body =>
    rintro ly pre ⟨x1, x2⟩ a' X ⟨Bx, hBx, hB, hI, rfl⟩ hpl
    have HI := hide hI
    have HX := hide hB
    have HBX := hide hBx
    have HS1 := hide (prd_step at' pre (x1, x2))
    have HS2 := hide (prd_step xi pre (x1, x2))
    simp only at HS1 HS2
    clear hB hI hBx
    dsimp only
    gi_wp2
    refine wpIn_region_plan4 (fun W' => W'.cell? ⟨w.heap.size + 1 + 1 + 1, 0, none⟩ = some (.int .i64 (md (prd at' (pre.map (·.1))))) ∧ W'.cell? ⟨w.heap.size + 1 + 1, 0, none⟩ = some (.int .i64 at') ∧ W'.cell? ⟨Bx, 0, none⟩ = some (.int .i64 x1)) (.take 0 (.take 1 (.take 2 (.take 3 (.run 4 (.run 5 (.last 6 .done))))))) (by kernel_rfl) (by kernel_rfl) ⟨HI.out.above.cell 0, (HP2.out.kept HI.out.kept (by omega)).cell 0, HX.out.cell 0⟩ ?_
    (refine plan4_take (o := ?_) (v := ?_) (by simp only [List.getElem?_toArray, List.getElem?_cons_zero]; rfl) (yields_run (by rfl) ?_) ?_; rotate_left; (focus (intro w' hw'; obtain ⟨s0, s1, s2⟩ := hw'; go_simp <;> with_reducible rfl)); (simp only [Act.put, List.setIfInBounds_toArray, List.set_cons_zero, List.set_cons_succ]))
    (refine plan4_take (o := ?_) (v := ?_) (by simp only [List.getElem?_toArray, List.getElem?_cons_succ, List.getElem?_cons_zero]; rfl) (yields_run (by rfl) ?_) ?_; rotate_left; (focus (intro w' hw'; obtain ⟨s0, s1, s2⟩ := hw'; go_simp <;> with_reducible rfl)); (simp only [Act.put, List.setIfInBounds_toArray, List.set_cons_zero, List.set_cons_succ]))
    (refine plan4_take (o := ?_) (v := ?_) (by simp only [List.getElem?_toArray, List.getElem?_cons_succ, List.getElem?_cons_zero]; rfl) (yields_run (by rfl) ?_) ?_; rotate_left; (focus (intro w' hw'; obtain ⟨s0, s1, s2⟩ := hw'; go_simp <;> with_reducible rfl)); (simp only [Act.put, List.setIfInBounds_toArray, List.set_cons_zero, List.set_cons_succ]))
    (refine plan4_take (o := ?_) (v := ?_) (by simp only [List.getElem?_toArray, List.getElem?_cons_succ, List.getElem?_cons_zero]; rfl) (yields_run (by rfl) ?_) ?_; rotate_left; (focus (intro w' hw'; obtain ⟨s0, s1, s2⟩ := hw'; go_simp <;> with_reducible rfl)); (simp only [Act.put, List.setIfInBounds_toArray, List.set_cons_zero, List.set_cons_succ]))
    refine plan4_run (o := ?_) (by simp only [List.getElem?_toArray, List.getElem?_cons_succ, List.getElem?_cons_zero]; rfl) ?_
    intro R' HR
    go_wp2_with fail
    refine (diff_any at' x1 X.drew).mono ?_
    rintro e v1 ⟨rfl, hb⟩
    have HB1 := hide (show Below X.heap.size X v1 from below_ofdrew hb)
    have HI1 := hide (HI.out.below' HB1.out)
    have HX1 := hide (HX.out.below HB1.out HX.out.lt)
    clear hb
    go_wp2_with fail
    refine HR.out _ _ ⟨HI1.out.above.cell 0, (HP2.out.kept HI1.out.kept (by omega)).cell 0, HX1.out.cell 0⟩ ?_
    clear HR
    refine plan4_run (o := ?_) (by simp only [List.getElem?_toArray, List.getElem?_cons_succ, List.getElem?_cons_zero]; rfl) ?_
    intro R' HR
    go_wp2_with fail
    refine (mul_any _ _ _).mono ?_
    rintro e w' ⟨rfl, rfl⟩
    rw [HS1.out]
    go_wp2_with fail
    refine HR.out _ _ ⟨HI1.out.above.cell 0, (HP2.out.kept HI1.out.kept (by omega)).cell 0, HX1.out.cell 0⟩ ?_
    clear HR
    refine plan4_last (o := ?_) (by simp only [List.getElem?_toArray, List.getElem?_cons_succ, List.getElem?_cons_zero]; rfl) ?_
    intro R' HR
    have k0 : v1.cell? ⟨w.heap.size + 1 + 1 + 1, 0, none⟩ = some (.int .i64 (md (prd at' (pre.map (·.1))))) := HI1.out.above.cell 0
    have f0 := HI1.out.above.free 0
    go_wp2_with fail
    refine HR.out _ _ ?_
    clear HR k0 f0
    refine plan4_doneC ?_
    have HI2 := hide (HI1.out.setA (md (prd at' (pre.map (·.1) ++ [x1]))))
    have HX2 := hide (HX1.out.apart (p := ⟨w.heap.size + 1 + 1 + 1, 0, none⟩) (by simp only; have h1 := HBX.out; have h2 := HZ.out; omega) (.int .i64 (md (prd at' (pre.map (·.1) ++ [x1])))))
    have HK2 := hide ((others_below HB1.out).trans (KeepsOthers.setCell v1 ⟨w.heap.size + 1 + 1 + 1, 0, none⟩ (.int .i64 (md (prd at' (pre.map (·.1) ++ [x1]))))))
    clear HI1 HX1 HB1 HI HX HS1
    generalize v1.setCell ⟨w.heap.size + 1 + 1 + 1, 0, none⟩ (.int .i64 (md (prd at' (pre.map (·.1) ++ [x1])))) = W2 at *
    clear v1
    obtain ⟨b, o, hAb, c0, c1⟩ := HA.out.at hi
    subst hAb
    have HPC := hide (fun (W : World) (h : WI w w7 (md (prd at' (pre.map (·.1) ++ [x1]))) (md (prd xi (pre.map (·.1)))) W) => show W.cell? ⟨b, o + i * 2, none⟩ = some (.int .i64 xi) from by
      have h1 := HA.out.blocks (w' := W) (by have h1 := HW7.out.size; have h2 := h.kept.size; omega) (fun b hb => (h.kept.block b (by have := HZ.out; omega) (by omega)).trans (HW7.out.block b hb))
      obtain ⟨b2, o2, e, c2, _⟩ := h1.at hi
      cases e
      rw [c2, HXI.out, List.getD_eq_getElem?_getD, List.getElem?_map, List.getElem?_eq_getElem hi]
      rfl)
    clear c0 c1
    have hi' : (i : Int) < (l.length : Int) := by omega
    gi_wp2
    refine wpIn_region_plan4 (fun W' => W'.cell? ⟨w.heap.size + 1 + 1 + 1 + 1, 0, none⟩ = some (.int .i64 (md (prd xi (pre.map (·.1))))) ∧ W'.cell? ⟨w.heap.size, 0, none⟩ = some (.slice (some ⟨b, o, none⟩) l.length cap) ∧ W'.cell? ⟨w.heap.size + 1, 0, none⟩ = some (.int .i64 (i : Nat)) ∧ W'.cell? ⟨b, o + i * 2, none⟩ = some (.int .i64 xi) ∧ W'.cell? ⟨Bx, 0, none⟩ = some (.int .i64 x1)) (.take 0 (.take 1 (.take 2 (.take 3 (.take 4 (.take 5 (.take 6 (.take 7 (.run 8 (.run 9 (.last 10 .done))))))))))) (by kernel_rfl) (by kernel_rfl) ⟨HI2.out.below.cell 0, (HP0.out.kept HI2.out.kept (by omega)).cell 0, (HP1.out.kept HI2.out.kept (by omega)).cell 0, (HPC.out W2 HI2.out :), HX2.out.cell 0⟩ ?_
    (refine plan4_take (o := ?_) (v := ?_) (by simp only [List.getElem?_toArray, List.getElem?_cons_zero]; rfl) (yields_run (by rfl) ?_) ?_; rotate_left; (focus (intro w' hw'; obtain ⟨s0, s1, s2, s3, s4⟩ := hw'; go_simp <;> with_reducible rfl)); (simp only [Act.put, List.setIfInBounds_toArray, List.set_cons_zero, List.set_cons_succ]))
    (refine plan4_take (o := ?_) (v := ?_) (by simp only [List.getElem?_toArray, List.getElem?_cons_succ, List.getElem?_cons_zero]; rfl) (yields_run (by rfl) ?_) ?_; rotate_left; (focus (intro w' hw'; obtain ⟨s0, s1, s2, s3, s4⟩ := hw'; go_simp <;> with_reducible rfl)); (simp only [Act.put, List.setIfInBounds_toArray, List.set_cons_zero, List.set_cons_succ]))
    (refine plan4_take (o := ?_) (v := ?_) (by simp only [List.getElem?_toArray, List.getElem?_cons_succ, List.getElem?_cons_zero]; rfl) (yields_run (by rfl) ?_) ?_; rotate_left; (focus (intro w' hw'; obtain ⟨s0, s1, s2, s3, s4⟩ := hw'; go_simp <;> with_reducible rfl)); (simp only [Act.put, List.setIfInBounds_toArray, List.set_cons_zero, List.set_cons_succ]))
    (refine plan4_take (o := ?_) (v := ?_) (by simp only [List.getElem?_toArray, List.getElem?_cons_succ, List.getElem?_cons_zero]; rfl) (yields_run (by rfl) ?_) ?_; rotate_left; (focus (intro w' hw'; obtain ⟨s0, s1, s2, s3, s4⟩ := hw'; go_simp <;> with_reducible rfl)); (simp only [Act.put, List.setIfInBounds_toArray, List.set_cons_zero, List.set_cons_succ]))
    (refine plan4_take (o := ?_) (v := ?_) (by simp only [List.getElem?_toArray, List.getElem?_cons_succ, List.getElem?_cons_zero]; rfl) (yields_run (by rfl) ?_) ?_; rotate_left; (focus (intro w' hw'; obtain ⟨s0, s1, s2, s3, s4⟩ := hw'; go_simp <;> with_reducible rfl)); (simp only [Act.put, List.setIfInBounds_toArray, List.set_cons_zero, List.set_cons_succ]))
    (refine plan4_take (o := ?_) (v := ?_) (by simp only [List.getElem?_toArray, List.getElem?_cons_succ, List.getElem?_cons_zero]; rfl) (yields_run (by rfl) ?_) ?_; rotate_left; (focus (intro w' hw'; obtain ⟨s0, s1, s2, s3, s4⟩ := hw'; go_simp <;> with_reducible rfl)); (simp only [Act.put, List.setIfInBounds_toArray, List.set_cons_zero, List.set_cons_succ]))
    (refine plan4_take (o := ?_) (v := ?_) (by simp only [List.getElem?_toArray, List.getElem?_cons_succ, List.getElem?_cons_zero]; rfl) (yields_run (by rfl) ?_) ?_; rotate_left; (focus (intro w' hw'; obtain ⟨s0, s1, s2, s3, s4⟩ := hw'; go_simp <;> with_reducible rfl)); (simp only [Act.put, List.setIfInBounds_toArray, List.set_cons_zero, List.set_cons_succ]))
    (refine plan4_take (o := ?_) (v := ?_) (by simp only [List.getElem?_toArray, List.getElem?_cons_succ, List.getElem?_cons_zero]; rfl) (yields_run (by rfl) ?_) ?_; rotate_left; (focus (intro w' hw'; obtain ⟨s0, s1, s2, s3, s4⟩ := hw'; go_simp <;> with_reducible rfl)); (simp only [Act.put, List.setIfInBounds_toArray, List.set_cons_zero, List.set_cons_succ]))
    refine plan4_run (o := ?_) (by simp only [List.getElem?_toArray, List.getElem?_cons_succ, List.getElem?_cons_zero]; rfl) ?_
    intro R' HR
    go_wp2_with fail
    refine (diff_any xi x1 W2.drew).mono ?_
    rintro e v3 ⟨rfl, hb⟩
    have HB3 := hide (show Below W2.heap.size W2 v3 from below_ofdrew hb)
    have HI3 := hide (HI2.out.below' HB3.out)
    have HX3 := hide (HX2.out.below HB3.out HX2.out.lt)
    clear hb
    go_wp2_with fail
    refine HR.out _ _ ⟨HI3.out.below.cell 0, (HP0.out.kept HI3.out.kept (by omega)).cell 0, (HP1.out.kept HI3.out.kept (by omega)).cell 0, HPC.out _ HI3.out, HX3.out.cell 0⟩ ?_
    clear HR
    refine plan4_run (o := ?_) (by simp only [List.getElem?_toArray, List.getElem?_cons_succ, List.getElem?_cons_zero]; rfl) ?_
    intro R' HR
    go_wp2_with fail
    refine (mul_any _ _ _).mono ?_
    rintro e w' ⟨rfl, rfl⟩
    rw [HS2.out]
    go_wp2_with fail
    refine HR.out _ _ ⟨HI3.out.below.cell 0, (HP0.out.kept HI3.out.kept (by omega)).cell 0, (HP1.out.kept HI3.out.kept (by omega)).cell 0, HPC.out _ HI3.out, HX3.out.cell 0⟩ ?_
    clear HR
    refine plan4_last (o := ?_) (by simp only [List.getElem?_toArray, List.getElem?_cons_succ, List.getElem?_cons_zero]; rfl) ?_
    intro R' HR
    have k0 : v3.cell? ⟨w.heap.size + 1 + 1 + 1 + 1, 0, none⟩ = some (.int .i64 (md (prd xi (pre.map (·.1))))) := HI3.out.below.cell 0
    have f0 := HI3.out.below.free 0
    go_wp2_with fail
    refine HR.out _ _ ?_
    clear HR k0 f0
    refine plan4_doneC ?_
    have HI4 := hide (HI3.out.setB (md (prd xi (pre.map (·.1) ++ [x1]))))
    have HK4 := hide (HK2.out.trans ((others_below HB3.out).trans (KeepsOthers.setCell v3 ⟨w.heap.size + 1 + 1 + 1 + 1, 0, none⟩ (.int .i64 (md (prd xi (pre.map (·.1) ++ [x1])))))))
    gi_wp2
    exact ⟨HK4.out.from _, fun _ => HI4.out.kept, by unfold WJ; rw [List.map_append]; exact HI4.out⟩
  case done =>
    rintro D xs W hD hS hI hK
    have HXS := hide hS
    have HI := hide hI
    have HDK := hide hK
    have HDS := hide hD
    have ha : W.cell? ⟨w.heap.size + 1 + 1 + 1, 0, none⟩ = some (.int .i64 (md (prd at' (xs.map (·.1))))) := hI.above.cell 0
    have hb : W.cell? ⟨w.heap.size + 1 + 1 + 1 + 1, 0, none⟩ = some (.int .i64 (md (prd xi (xs.map (·.1))))) := hI.below.cell 0
    have hne : md (md (prd xi (xs.map (·.1)))) ≠ 0 := by
      rw [md_md, hS]
      refine prd_ne xi _ fun r hr => ?_
      have := oth_ne l hd i hi r hr
      rw [HXI.out, List.getD_eq_getElem?_getD, List.getElem?_map, List.getElem?_eq_getElem hi]
      exact this
    have HV := hide (show invV (md (prd xi (xs.map (·.1)))) = .tuple #[.int .i64 (inv (prd xi (xs.map (·.1)))), .int .i64 0] by unfold invV; rw [if_neg hne, if_neg hne, inv_md])
    have HE := hide (show md (md (prd at' (xs.map (·.1))) * inv (prd xi (xs.map (·.1)))) = md (wgt l i at') by rw [md_mull, HXS.out, HXI.out]; rfl)
    have HBB := hide (show Below w.heap.size w (W.putObj D (.deferred none)) from hI.bel.trans (below_putObj (by have := HZ.out; omega)))
    clear hS hI hK hD hne
    gi_wp2
    refine ⟨trivial, ?_⟩
    refine (callsIn_wide.2 (inverse_any _ _)).mono ?_
    rintro e w' ⟨rfl, rfl⟩
    rw [HV.out]
    gi_wp2
    refine ⟨trivial, ?_⟩
    refine (callsIn_wide.2 (mul_any _ _ _)).mono ?_
    rintro e w' ⟨rfl, rfl⟩
    rw [HE.out]
    gi_wp2
    refine ⟨by simp, .inl ⟨_, _, rfl, run_takeDeferred HDK.out, ?_⟩⟩
    refine ⟨_, results_tmp rfl _ _ _, ?_⟩
    exact ⟨rfl, HBB.out⟩
end Go.Proofs.Ytcafjncilflanaa
