/- isChain and Check. -/
import Derived.Test.YtalgceplcahgbaaDoorAdm
import Derived.Shelf.Abstract
import Derived.Sort.CutIn
namespace Go.Proofs.YtalgceplcahgbaaDoor
open Go.RowKit Go.Shelf
attribute [local go_sem] Oper.semAt_some

theorem Kept_refl (W : World) (ok : Nat → Prop) : ∀ b, b < W.heap.size → ok b → W.heap[b]? = W.heap[b]? := fun _ _ _ => rfl
/-- What is kept but one block. -/
structure Kp1 (X : Nat) (W W' : World) : Prop where
  size : W.heap.size ≤ W'.heap.size
  block : ∀ b, b < W.heap.size → b ≠ X → W'.heap[b]? = W.heap[b]?
theorem Kp1.refl (X : Nat) (W : World) : Kp1 X W W := ⟨Nat.le_refl _, fun _ _ _ => rfl⟩
theorem Kp1.trans {X : Nat} {A B C : World} (h : Kp1 X A B) (k : Kp1 X B C) : Kp1 X A C := ⟨Nat.le_trans h.size k.size, fun b hb hn => (k.block b (Nat.lt_of_lt_of_le hb h.size) hn).trans (h.block b hb hn)⟩
theorem Kp1.below {X : Nat} {A B : World} (h : Below A.heap.size A B) : Kp1 X A B := ⟨h.size, fun b hb _ => h.block b hb⟩
theorem Kp1.only {X : Nat} {A B : World} (h : A.grownBy B (some X)) : Kp1 X A B := ⟨h.size, fun b hb hn => h.block b hb (by intro e; injection e with e; exact hn e)⟩
theorem kp1_put {X : Nat} {W0 W : World} {l : Nat} {o' : Obj} (h : Kp1 X W0 W) (hl : W0.heap.size ≤ l) : Kp1 X W0 (W.putObj l o') :=
  ⟨Nat.le_trans h.size (by simp [World.putObj]), fun b hb hn => (World.putObj_heap_other (by omega)).trans (h.block b hb hn)⟩
theorem Blk.kp {X Y T : Nat} {A B : World} {cs : List Value} (h : Blk A Y T cs) (k : Kp1 X A B) (hn : Y ≠ X) : Blk B Y T cs := (k.block Y h.lt hn).trans h
/-- Links lie where they lay. -/
theorem Src.blocks {w w' : World} {A : Option Addr} {m c : Nat} {l : List UInt8} (h : Src w A m c l) (hb : ∀ b, b < w.heap.size → w'.heap[b]? = w.heap[b]?) : Src w' A m c l :=
  ⟨h.len, fun hne => by
    obtain ⟨b, o, e, hB⟩ := h.sb hne
    exact ⟨b, o, e, hB.move (hb b (hB.lt (List.length_pos_iff.2 hne)))⟩, h.nil⟩
theorem Lks.blocks {w w' : World} {A : Option Addr} {l : List Lr} (h : Lks w A l) (hs : w.heap.size ≤ w'.heap.size) (hb : ∀ b, b < w.heap.size → w'.heap[b]? = w.heap[b]?) : Lks w' A l :=
  ⟨fun hn => by
    obtain ⟨b, o, h1, h2, h3⟩ := h.cel hn
    exact ⟨b, o, h1, Nat.lt_of_lt_of_le h2 hs, fun i hi j v hv => (World.cell?_of_block (a := ⟨b, o + i * 35 + j, none⟩) (hb b h2)).trans (h3 i hi j v hv)⟩,
   fun r hr => by
    have := h.each r hr
    exact ⟨this.p32, this.node, this.no, this.src.blocks hb, this.le, this.top⟩⟩
theorem keeps_below {W W' : World} (h : Below W.heap.size W W') : KeepsOthers W W' := KeepsOthers.of_grownBy (row := none) ⟨h.os, h.tape, h.output, h.size, fun i hi _ => h.block i hi⟩ (fun j o hj _ => by cases hj)

theorem three (w : World) (c0 c1 c2 : List Value) (t0 t1 t2 : Nat) {W : World} (hW : W = ((w.alloc (.cells c0.toArray t0)).alloc (.cells c1.toArray t1)).alloc (.cells c2.toArray t2)) :
    Blk W w.heap.size t0 c0 ∧ Blk W (w.heap.size + 1) t1 c1 ∧ Blk W (w.heap.size + 1 + 1) t2 c2 ∧ W.heap.size = w.heap.size + 3 ∧ Below w.heap.size w W := by
  subst hW
  generalize h1 : w.alloc (.cells c0.toArray t0) = w1
  have z1 : w1.heap.size = w.heap.size + 1 := by rw [← h1]; simp
  have b1 := h1 ▸ Blk.new w t0 c0
  have B1 := h1 ▸ below_new w (.cells c0.toArray t0)
  generalize h2 : w1.alloc (.cells c1.toArray t1) = w2
  have z2 : w2.heap.size = w.heap.size + 1 + 1 := by rw [← h2]; simp [z1]
  have b2 := h2 ▸ Blk.new w1 t1 c1
  have B2 := h2 ▸ below_new w1 (.cells c1.toArray t1)
  generalize h3 : w2.alloc (.cells c2.toArray t2) = w3
  have z3 : w3.heap.size = w.heap.size + 3 := by rw [← h3]; simp [z2]
  have b3 := h3 ▸ Blk.new w2 t2 c2
  have B3 := h3 ▸ below_new w2 (.cells c2.toArray t2)
  rw [z1] at b2
  rw [z2] at b3
  exact ⟨(b1.below B2 (by omega)).below B3 (by omega), b2.below B3 (by omega), b3, z3, below_one (below_one B1 B2) B3⟩
theorem name_codeIn {c : Code} {F : Fence} {n : Nat} {P : Program} {Q : Exit → Act → World → Prop} {a : Act} {w : World} (h : ∀ W, Hid (W = w) → c.wpIn F n P Q a W) : c.wpIn F n P Q a w := h w rfl
/-- A function's one result, out of its box. -/
theorem results_one {P : Program} {fn : Func} {p : Tmp} {ty : TypeId} {d : TypeDesc} (h : fn.results = #[.cell p ty]) (tmps : Array Value) (w : World) (g T : Nat) (v : Value)
    (hp : tmps.getD p undef = .pointer (some ⟨g, 0, none⟩)) (hg : Blk w g T [v]) (hu : P.underlying ty = some d) (hd : (match d with | .struct _ | .array _ _ => true | _ => false) = false) :
    (results fn tmps).run P w = .ok v w := by
  have hp' : tmps[p]?.getD undef = .pointer (some ⟨g, 0, none⟩) := by simpa using hp
  have hc : w.cell? ⟨g, 0, none⟩ = some v := (hg.cell 0).trans rfl
  have hl : (loadVar ty ⟨g, 0, none⟩).run P w = .ok v w := by
    simp [loadVar, run_isAgg_plain hu hd w, go_sem, hc]
  simp [results, h, hp', asAddr, hl]
theorem below_putObj {B l : Nat} {W : World} {o' : Obj} (h : B ≤ l) : Below B W (W.putObj l o') :=
  ⟨rfl, rfl, rfl, by simp [World.putObj], fun i hi => World.putObj_heap_other (by omega)⟩
/-- The cells of a link that holds nothing. -/
def z60 : List Value := .int .i64 0 :: .int .i64 0 :: (List.replicate 32 (.int .u8 0) ++ [.slice none 0 0])
/-- The loop under way. -/
structure IC (w w3 : World) (l : List Lr) (pre : List (Fin l.length)) (W : World) : Prop where
  box : Blk W (w.heap.size + 1) 4 [.bool false]
  kept : Kp1 (w.heap.size + 1) w3 W
  bel : Below w.heap.size w W
  good : ∀ k ∈ pre, lnkB hd0 hdL ((lnks l).take k.1) ((lnks l)[k.1]'(by rw [lnks_len]; exact k.2)) = true
/-- The loop left: some link is wrong. -/
structure IX (w w3 : World) (l : List Lr) (W : World) : Prop where
  box : Blk W (w.heap.size + 1) 4 [.bool false]
  bel : Below w.heap.size w W
  bad : ∃ k : Fin l.length, lnkB hd0 hdL ((lnks l).take k.1) ((lnks l)[k.1]'(by rw [lnks_len]; exact k.2)) = false
theorem keep_cells {B : Nat} {X Y : World} {row : Option Nat} {g T : Nat} {cs : Array Value} {fr : Nat × Nat} (h : X.heap[g]? = some (.cells cs T fr)) (hg : X.grownBy Y row) (hr : ∀ r, row = some r → B ≤ r ∧ ∃ o : Obj, X.heap[r]? = some o ∧ o.isCells = false) : Y.heap[g]? = some (.cells cs T fr) :=
  (hg.block g (Array.getElem?_eq_some_iff.1 h).1 fun e => by
    obtain ⟨_, o, ho, hc⟩ := hr g e.symm
    rw [h] at ho
    cases ho
    cases hc).trans h
theorem kp1_own {X : Nat} {W0 A B : World} {row : Option Nat} {n : Nat} (h : Kp1 X W0 A) (hn : W0.heap.size ≤ n) (hg : A.grownBy B row) (hr : ∀ r, row = some r → n ≤ r ∧ ∃ o : Obj, A.heap[r]? = some o ∧ o.isCells = false) : Kp1 X W0 B :=
  ⟨Nat.le_trans h.size hg.size, fun b hb hne => (hg.block b (Nat.lt_of_lt_of_le hb h.size) (fun e => by have := (hr b e.symm).1; omega)).trans (h.block b hb hne)⟩
theorem ic_own {B : Nat} (w w3 : World) (l : List Lr) (hw : w.heap.size ≤ w3.heap.size) (hB : w3.heap.size ≤ B) : OwnFrom B (fun (pre : List (Fin l.length)) W => IC w w3 l pre W) := fun _ X Y row hs hg hr =>
  ⟨keep_cells (B := B) hs.box hg hr, kp1_own hs.kept hB hg hr, ownFrom_below (β := Unit) (Nat.le_refl _) (by omega) () X Y row hs.bel hg hr, hs.good⟩
theorem ix_own {B : Nat} {β : Type} (w w3 : World) (l : List Lr) (c : Code) (hw : w.heap.size ≤ w3.heap.size) (hB : w3.heap.size ≤ B) : OwnFrom B (fun (_ : β) W => c = .ret ∧ IX w w3 l W) := fun _ X Y row hs hg hr =>
  ⟨hs.1, keep_cells (B := B) hs.2.box hg hr, ownFrom_below (β := Unit) (Nat.le_refl _) (by omega) () X Y row hs.2.bel hg hr, hs.2.bad⟩
theorem Tab.blocks {w w' : World} (h : Tab w) (hb : ∀ b, b < w.heap.size → w'.heap[b]? = w.heap[b]?) : Tab w' := fun i hi => by
  rw [World.cell?_of_block (a := ⟨0, i, none⟩) (hb 0 h.zero)]
  exact h i hi
theorem IC.below' {w w3 : World} {l : List Lr} {pre : List (Fin l.length)} {W W' : World} (h : IC w w3 l pre W) (hb : Below W.heap.size W W') : IC w w3 l pre W' := ⟨h.box.below hb h.box.lt, h.kept.trans (.below hb), below_one h.bel hb, h.good⟩

set_option maxRecDepth 100000 in
set_option maxHeartbeats 6400000 in
theorem isChain_any (A : Option Addr) (l : List Lr) (cap : Nat) (w : World) (hT : Tab w) (hl : Lks w A l) (hc : l.length ≤ cap) (hc2 : cap ≤ 9223372036854775807) (hs : Short l) :
    Calls Tryd.prog 65 #[.slice A l.length cap] w fun e w' => e = .returned (.bool (chainB hd0 hdL (lnks l))) ∧ Below w.heap.size w w' := by
  have HT := hide hT
  have HL := hide hl
  have HS := hide hs
  clear hT hl hs
  refine (callsIn_wide (n := 4)).1 ?_
  refine callsIn_of_wp_marks Tryd.func65 rfl trivial ?_ rfl
  simp only [Tryd.ntmps65, List.size_toArray, List.length_cons, List.length_nil, Nat.reduceAdd, Nat.reduceSub, Array.replicate_succ, Array.replicate_zero, List.push_toArray, List.append_toArray, List.nil_append, List.cons_append]
  gi_wp2
  refine ⟨trivial, ?_⟩
  refine (callsIn_wide.2 (begin_any A l.length cap _)).mono ?_
  rintro e w3 ⟨rfl, h3⟩
  simp only [World.size_alloc] at h3 ⊢
  obtain ⟨p0, p1, p2, hz, hb⟩ := three w [.slice A l.length cap] [.bool false] [.slice A l.length cap] 49 4 49 h3
  have HP0 := hide p0
  have HC := hide p2
  have HZ := hide hz
  have HI0 := hide (show IC w w3 l [] w3 from ⟨p1, Kp1.refl _ _, hb, fun k hk => by cases hk⟩)
  have HW3 := hide hb
  clear h3 p0 p1 p2 hz hb
  have HOLD := hide (fun (W : World) (h : Kp1 (w.heap.size + 1) w3 W) => show (∀ b, b < w.heap.size → W.heap[b]? = w.heap[b]?) ∧ w.heap.size ≤ W.heap.size from
    ⟨fun b hb => (h.block b (by have := HZ.out; omega) (by omega)).trans (HW3.out.block b hb), by have h1 := HW3.out.size; have h2 := h.size; omega⟩)
  gi_wp2
  refine wp_rangeT rfl (by omega) (gf := 93) (lb := #[.pointer (some ⟨w.heap.size + 1 + 1, 0, none⟩)]) rfl trivial (enters_of Tryd.func93 (by kernel_rfl) rfl)
    (begin_gives (4 - 1) (by omega) (w.heap.size + 1 + 1) A l cap w3 (fun X Y => Kp1 (w.heap.size + 1) w3 X → Kp1 (w.heap.size + 1) w3 Y) HS.out
      (fun W h => by
        have hk := h (Kp1.refl _ _)
        obtain ⟨hb, hsz⟩ := HOLD.out W hk
        exact ⟨HT.out.blocks hb, HL.out.blocks hsz hb, (HC.out.kp hk (by omega)).cell 0⟩) (fun X Y Z h k q => k (h q)) (fun X Y h q => q.trans (.below h)) hc hc2)
    (fun h k q => k (h q)) (fun W l o o' hl _ _ q => kp1_put q hl) (Below.refl _ _) (fun _ => rfl)
    (fun pre W => IC w w3 l pre W) (fun c _ W => c = .ret ∧ IX w w3 l W) (ic_own w w3 l (by have := HZ.out; omega) (Nat.le_refl _)) (fun c => ix_own w w3 l c (by have := HZ.out; omega) (Nat.le_refl _)) HI0.out
    (fun pre x a' W => ∃ Bh, w3.heap.size ≤ Bh ∧ Blk W Bh 26 (bc (hdA (lnks (l.take x.1)))) ∧ IC w w3 l pre W ∧ a' = { tmps := #[.slice A l.length cap, .pointer (some ⟨w.heap.size, 0, none⟩), .pointer (some ⟨w.heap.size + 1, 0, none⟩), .slice A x.1 cap, .pointer (some ⟨Bh, 0, none⟩), undef, .slice A l.length cap, .func (.func 93) #[] #[.pointer (some ⟨w.heap.size + 1 + 1, 0, none⟩)], .slice A x.1 cap, dv (hdA (lnks (l.take x.1))), undef, undef, undef, undef, undef, undef, undef, undef, undef, undef, undef, undef, undef, undef, undef, undef, undef, undef, undef, undef, undef, undef, undef, undef, undef], defers := [] })
    (fun pre x a' _ X Y row ⟨Bh, h1, h2, h3, h4⟩ hg hr => ⟨Bh, h1, keep_cells (B := w3.heap.size) h2 hg hr, ic_own w w3 l (by have := HZ.out; omega) (Nat.le_refl _) pre X Y row h3 hg hr, h4⟩) ?assign ?body ?done ?stop
  case assign =>
    rintro ly pre x X K hI hK
    have HII := hide hI
    have hsz := HII.out.kept.size
    have H32 := hide (hdA_32 (lnks (l.take x.1)))
    have HS26 := hide (show (Tryd.prog.info? 26).map (·.size) = some ((bc (hdA (lnks (l.take x.1)))).toArray).size by rw [dv_size _ H32.out]; exact Tryd.size26)
    have HBN := hide (show Blk ((X.alloc (.cells (List.replicate 32 (.int .u8 0)).toArray 26)).setRow X.heap.size (bc (hdA (lnks (l.take x.1)))).toArray) X.heap.size 26 (bc (hdA (lnks (l.take x.1)))) from (Blk.new X 26 (List.replicate 32 (.int .u8 0))).row _)
    have HB1 := hide (show Below X.heap.size X ((X.alloc (.cells (List.replicate 32 (.int .u8 0)).toArray 26)).setRow X.heap.size (bc (hdA (lnks (l.take x.1)))).toArray) from below_setRow (below_new X _) (Nat.le_refl _) _)
    clear hI
    unfold encK
    gi_wp2_with (refine wpListIn_store_row rfl 26 (.tmp 4) (.tmp 9) rfl X.heap.size (bc (hdA (lnks (l.take x.1)))).toArray rfl rfl 26 _ (heap_alloc_new X _) HS26.out (by rw [dv_size _ H32.out]; rfl) (all_oneCell_toArray (bc_one _)) ?_)
    exact hK _ _ ((keeps_below HB1.out).from _) (fun q => q.trans (.below HB1.out)) ⟨X.heap.size, hsz, HBN.out, HII.out.below' HB1.out, rfl⟩
  case body =>
    rintro ly pre x a' X hpl ⟨Bh, hBh, hBk, hI, rfl⟩
    have HI := hide hI
    have HH := hide hBk
    have HBX := hide hBh
    clear hI hBk hBh
    obtain ⟨hbk, hsz⟩ := HOLD.out X HI.out.kept
    obtain ⟨b, o, rfl, hb0, hrg, hin⟩ := (HL.out.blocks hsz hbk).at x.2
    have HR := hide hin
    have HRG := hide hrg
    have HBL := hide hb0
    have HLX := hide (show (lnks l)[x.1]'(by rw [lnks_len]; exact x.2) = l[x.1].x from by simp [lnks])
    have HLT := hide (show (lnks l).take x.1 = lnks (l.take x.1) from by simp [lnks])
    have HSL := hide ((HL.out.blocks hsz hbk).take x.1)
    have HTL := hide (show (l.take x.1).length = x.1 by rw [List.length_take]; have := x.2; omega)
    have hx2 : ((x.1 : Nat) : Int) < ((l.length : Nat) : Int) := by have := x.2; omega
    generalize hr : l[x.1] = r at *
    clear hr hin hrg hb0 hbk hsz
    have k0 : X.cell? ⟨w.heap.size, 0, none⟩ = some (.slice (some ⟨b, o, none⟩) l.length cap) := (HP0.out.kp HI.out.kept (by omega)).cell 0
    have HZ60 := hide (size60 HR.out)
    have HX5 := hide (show Blk ((X.alloc (.cells z60.toArray 60)).setRow X.heap.size r.cs.toArray) X.heap.size 60 r.cs from (Blk.new X 60 z60).row _)
    have HB5 := hide (show Below X.heap.size X ((X.alloc (.cells z60.toArray 60)).setRow X.heap.size r.cs.toArray) from below_setRow (below_new X _) (Nat.le_refl _) _)
    dsimp only
    gi_upto_region 5 with (first | (refine wpListIn_load_mid rfl 60 (.tmp 13) rfl b (o + x.1 * 35) rfl r.cs _ HRG.out Tryd.underlying60 rfl HZ60.out ?_) | (refine wpListIn_store_row rfl 60 (.tmp 5) (.tmp 14) rfl X.heap.size r.cs.toArray rfl rfl 60 _ (heap_alloc_new X _) HZ60.out (by rw [show r.cs.toArray.size = 35 from by rw [List.size_toArray, Lr.cs_len HR.out]]; rfl) (all_oneCell_toArray (Lr.cs_one r)) ?_))
    refine name_codeIn ?_
    intro V hV
    have HVX := hide (show Blk V X.heap.size 60 r.cs from by rw [hV.out]; exact HX5.out)
    have HVB := hide (show Below X.heap.size X V from by rw [hV.out]; exact HB5.out)
    clear hV HX5 HB5 k0
    have c0 : V.cell? ⟨X.heap.size, 0, none⟩ = some (.int .i64 r.x.node) := (HVX.out.cell 0).trans r.c0
    have c1 : V.cell? ⟨X.heap.size, 1, none⟩ = some (.int .i64 r.x.no) := (HVX.out.cell 1).trans r.c1
    have c34 : V.cell? ⟨X.heap.size, 34, none⟩ = some r.dv := (HVX.out.cell 34).trans (Lr.c34 HR.out)
    have HRP := hide (show V.rangeAt X.heap.size 2 (bc r.x.prev) from fun j v hv => by
      have hj := (List.getElem?_eq_some_iff.1 hv).1
      rw [bc_len, HR.out.p32] at hj
      rw [HVX.out.cell (2 + j), Lr.cp HR.out j hj]
      exact hv)
    have HRH := hide (show V.rangeAt Bh 0 (bc (hdA (lnks (l.take x.1)))) from fun j v hv => by
      rw [Nat.zero_add, (HH.out.below HVB.out HH.out.lt).cell j]
      exact hv)
    have HIV := hide (HI.out.below' HVB.out)
    have HSV := hide (HSL.out.below HVB.out)
    have H32 := hide (hdA_32 (lnks (l.take x.1)))
    have HS1 := hide (show (Tryd.prog.info? 26).map (·.size) = some (bc r.x.prev).length by rw [bc_len, HR.out.p32]; exact Tryd.size26)
    have HS2 := hide (show (Tryd.prog.info? 26).map (·.size) = some (bc (hdA (lnks (l.take x.1)))).length by rw [bc_len, H32.out]; exact Tryd.size26)
    have HLB := hide (show lnkB hd0 hdL ((lnks l).take x.1) ((lnks l)[x.1]'(by rw [lnks_len]; exact x.2)) = (decide (r.x.no = (x.1 : Nat)) && decide (r.x.prev = hdA (lnks (l.take x.1))) && admB (lnks (l.take x.1)) r.x.node r.x.data) from by
      rw [HLX.out, HLT.out]
      unfold lnkB
      rw [lnks_len, HTL.out])
    have HAD := hide (fun (W : World) (h : Lks W (some ⟨b, o, none⟩) (l.take x.1)) => HTL.out ▸ admits_any (some ⟨b, o, none⟩) r.A (l.take x.1) cap r.cap r.x.node r.x.data W h (by have := HR.out.le; have := HR.out.top; omega))
    have kb : V.cell? ⟨w.heap.size + 1, 0, none⟩ = some (.bool false) := HIV.out.box.cell 0
    have fb := HIV.out.box.free 0
    have HBAD := hide (fun (hbad : lnkB hd0 hdL ((lnks l).take x.1) ((lnks l)[x.1]'(by rw [lnks_len]; exact x.2)) = false) => show KeepsFrom w3.heap.size X (V.setCell ⟨w.heap.size + 1, 0, none⟩ (.bool false)) ∧ Code.ret = Code.ret ∧ IX w w3 l (V.setCell ⟨w.heap.size + 1, 0, none⟩ (.bool false)) from
      ⟨((keeps_below HVB.out).trans (KeepsOthers.setCell V _ _)).from _, rfl, HIV.out.box.set 0 _, HIV.out.bel.setCell (by simp only; omega) _, x, hbad⟩)
    clear HVX HI HH HBX HSL HLX HLT
    generalize hdA (lnks (l.take x.1)) = hd at *
    generalize admB (lnks (l.take x.1)) r.x.node r.x.data = ad at *
    by_cases h1 : r.x.no = (x.1 : Nat)
    · have h1b : ((r.x.no : Int) != ((x.1 : Nat) : Int)) = false := by simp [h1]
      by_cases h2 : r.x.prev = hd
      · have hv : false = !(r.x.prev == hd) := by simp [h2]
        have HVE := hide hv
        cases ad with
        | true =>
          have HGD := hide (show lnkB hd0 hdL ((lnks l).take x.1) ((lnks l)[x.1]'(by rw [lnks_len]; exact x.2)) = true by rw [HLB.out]; simp [h1, h2])
          clear hv h1 h2 HLB HBAD
          gi_wp2_with (first | (refine wpListIn_load_mid rfl 26 (.tmp 21) rfl X.heap.size 2 rfl (bc r.x.prev) _ HRP.out Tryd.underlying26 rfl HS1.out ?_) | (refine wpListIn_load_mid rfl 26 (.tmp 4) rfl Bh 0 rfl (bc hd) _ HRH.out Tryd.underlying26 rfl HS2.out ?_) | (refine wpListIn_neqD rfl (.tmp 22) (.tmp 23) 26 rfl r.x.prev hd rfl rfl HR.out.p32 H32.out _ HVE.out ?_))
          refine ⟨trivial, ?_⟩
          refine (callsIn_wide.2 (HAD.out V HSV.out)).mono ?_
          rintro e w' ⟨rfl, rfl⟩
          gi_wp2
          exact ⟨(keeps_below HVB.out).from _, fun q => q.trans (.below HVB.out), ⟨HIV.out.box, HIV.out.kept, HIV.out.bel, fun k hk => by
            rcases List.mem_append.1 hk with hk | hk
            · exact HIV.out.good k hk
            · rw [List.mem_singleton] at hk
              subst hk
              exact HGD.out⟩⟩
        | false =>
          have HBD := hide (HBAD.out (by rw [HLB.out]; simp))
          clear hv h1 h2 HLB HBAD
          gi_wp2_with (first | (refine wpListIn_load_mid rfl 26 (.tmp 21) rfl X.heap.size 2 rfl (bc r.x.prev) _ HRP.out Tryd.underlying26 rfl HS1.out ?_) | (refine wpListIn_load_mid rfl 26 (.tmp 4) rfl Bh 0 rfl (bc hd) _ HRH.out Tryd.underlying26 rfl HS2.out ?_) | (refine wpListIn_neqD rfl (.tmp 22) (.tmp 23) 26 rfl r.x.prev hd rfl rfl HR.out.p32 H32.out _ HVE.out ?_))
          refine ⟨trivial, ?_⟩
          refine (callsIn_wide.2 (HAD.out V HSV.out)).mono ?_
          rintro e w' ⟨rfl, rfl⟩
          gi_wp2
          exact ⟨HBD.out.1, rfl, HBD.out.2.2⟩
      · have hv : true = !(r.x.prev == hd) := by simp [h2]
        have HVE := hide hv
        have HBD := hide (HBAD.out (by rw [HLB.out]; simp [h2]))
        clear hv h1 h2 HLB HBAD HAD
        gi_wp2_with (first | (refine wpListIn_load_mid rfl 26 (.tmp 21) rfl X.heap.size 2 rfl (bc r.x.prev) _ HRP.out Tryd.underlying26 rfl HS1.out ?_) | (refine wpListIn_load_mid rfl 26 (.tmp 4) rfl Bh 0 rfl (bc hd) _ HRH.out Tryd.underlying26 rfl HS2.out ?_) | (refine wpListIn_neqD rfl (.tmp 22) (.tmp 23) 26 rfl r.x.prev hd rfl rfl HR.out.p32 H32.out _ HVE.out ?_))
        refine ⟨trivial, ?_⟩
        gi_wp2
        exact ⟨HBD.out.1, rfl, HBD.out.2.2⟩
    · have h1b : ((r.x.no : Int) != ((x.1 : Nat) : Int)) = true := by simpa using h1
      have HBD := hide (HBAD.out (by rw [HLB.out]; simp [h1]))
      clear h1 HLB HBAD HAD
      gi_wp2
      refine ⟨trivial, ?_⟩
      gi_wp2
      exact ⟨HBD.out.1, rfl, HBD.out.2.2⟩
  case done =>
    rintro D xs W hD hS hI hK
    have HI := hide hI
    have HDK := hide hK
    have HDS := hide hD
    have HE := hide (show chainB hd0 hdL (lnks l) = true from (chain_get _ _).2 fun i hi => hI.good ⟨i, by rw [← lnks_len (l := l)]; exact hi⟩ (hS _))
    have ha : W.cell? ⟨w.heap.size + 1, 0, none⟩ = some (.bool false) := hI.box.cell 0
    have hf := hI.box.free 0
    clear hS hI hK hD
    gi_wp2
    have HB2 := hide (HI.out.box.set 0 (.bool true))
    have HD2 := hide (show (W.setCell ⟨w.heap.size + 1, 0, none⟩ (.bool true)).heap[D]? = some (.deferred (some [])) from (heap_setCell_other W ⟨w.heap.size + 1, 0, none⟩ D _ (by simp only; have := HDS.out; have := HZ.out; omega)).trans HDK.out)
    refine ⟨by simp, .inl ⟨_, _, rfl, run_takeDeferred HD2.out, ?_⟩⟩
    refine ⟨_, results_one rfl _ _ (w.heap.size + 1) 4 (.bool true) rfl ((World.putObj_heap_other (by have := HDS.out; have := HZ.out; omega)).trans HB2.out) Tryd.underlying4 rfl, ?_⟩
    exact ⟨by rw [HE.out], (HI.out.bel.setCell (by simp only; omega) _).trans (below_putObj (by have := HDS.out; have := HZ.out; omega))⟩
  case stop =>
    rintro D c pre W hD _ ⟨rfl, hx⟩ hK
    have HI := hide hx
    have HDK := hide hK
    have HDS := hide hD
    have HE := hide (show chainB hd0 hdL (lnks l) = false from by
      rw [Bool.eq_false_iff]
      intro h
      obtain ⟨k, hk⟩ := hx.bad
      have := (chain_get _ _).1 h k.1 (by rw [lnks_len]; exact k.2)
      rw [this] at hk
      cases hk)
    clear hx hK hD
    gi_wp2
    refine ⟨by simp, .inl ⟨_, _, rfl, run_takeDeferred HDK.out, ?_⟩⟩
    refine ⟨_, results_one rfl _ _ (w.heap.size + 1) 4 (.bool false) rfl ((World.putObj_heap_other (by have := HDS.out; have := HZ.out; omega)).trans HI.out.box) Tryd.underlying4 rfl, ?_⟩
    exact ⟨by rw [HE.out], HI.out.bel.trans (below_putObj (by have := HDS.out; have := HZ.out; omega))⟩
end Go.Proofs.YtalgceplcahgbaaDoor
