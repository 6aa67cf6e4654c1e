/- What climb answers; what it keeps in memory. -/
import Derived.Test.YthjfeodclphgaaaDoorPv
namespace Go.Proofs.YthjfeodclphgaaaDoor
open Go.RowKit Go.Shelf
def zero32 : List UInt8 := List.replicate 32 0
theorem zero32_len : zero32.length = 32 := by simp [zero32]
theorem bc_zero : bc zero32 = List.replicate 32 (.int .u8 0) := by simp [bc, zero32]
/-- One step: the digest, and what is left of the path. -/
def stepD (s : List UInt8 × List (List UInt8)) (x : Nat × Bool) : List UInt8 × List (List UInt8) := if x.2 then s else (sha (stepT tagN x.1 s.1 (s.2.headD [])), s.2.tail)
theorem climb_fold : ∀ (k n i : Nat) (d : List UInt8) (p : List (List UInt8)), n ≤ k → climbR sha tagN n i d p = ((wayL n i).foldl stepD (d, p)).1
  | k, n, i, d, p, hk => by
    by_cases h1 : n ≤ 1
    · rw [climbR_one sha tagN h1, wayL_one h1]; rfl
    · cases k with
      | zero => omega
      | succ k =>
        rw [wayL_more (by omega), List.foldl_cons]
        cases ha : aloneB n i with
        | true => rw [climbR_alone sha tagN (by omega) ha, climb_fold k _ _ _ _ (by omega)]; rfl
        | false => rw [climbR_two sha tagN (by omega) ha, climb_fold k _ _ _ _ (by omega)]; rfl
theorem stepD_t (s : List UInt8 × List (List UInt8)) (q : Nat) : stepD s (q, true) = s := rfl
theorem stepD_f (s : List UInt8 × List (List UInt8)) (q : Nat) : stepD s (q, false) = (sha (stepT tagN q s.1 (s.2.headD [])), s.2.tail) := rfl
theorem fold_path : ∀ (pre : List (Nat × Bool)) (d : List UInt8) (p : List (List UInt8)), (pre.foldl stepD (d, p)).2 = p.drop (cntL pre)
  | [], _, _ => rfl
  | (q, true) :: pre, d, p => by
    rw [List.foldl_cons, stepD_t, fold_path pre d p]
    simp [cntL]
  | (q, false) :: pre, d, p => by
    rw [List.foldl_cons, stepD_f, fold_path pre _ p.tail]
    have e : cntL ((q, false) :: pre) = cntL pre + 1 := by simp [cntL]
    rw [e]
    cases p <;> simp
theorem fold_32 : ∀ (pre : List (Nat × Bool)) (d : List UInt8) (p : List (List UInt8)), d.length = 32 → (pre.foldl stepD (d, p)).1.length = 32
  | [], _, _, h => h
  | (q, true) :: pre, d, p, h => by
    rw [List.foldl_cons, stepD_t]; exact fold_32 pre d p h
  | (q, false) :: pre, d, p, h => by
    rw [List.foldl_cons, stepD_f]; exact fold_32 pre _ _ (sha_len _)
/-- What climb answers. -/
def climbAns (n i : Int) (leaf : List UInt8) (p : List (List UInt8)) : List UInt8 × Int :=
  if leafB n i = false then (zero32, 1) else if p.length ≠ lenR n.toNat i.toNat then (zero32, 70) else (climbR sha tagN n.toNat i.toNat (sha (tagL ++ leaf)) p, 0)
theorem climbAns_no {n i : Int} {leaf : List UInt8} {p : List (List UInt8)} (h : leafB n i = false) : climbAns n i leaf p = (zero32, 1) := if_pos h
theorem climbAns_len {n i : Int} {leaf : List UInt8} {p : List (List UInt8)} (h : leafB n i = true) (hp : p.length ≠ lenR n.toNat i.toNat) : climbAns n i leaf p = (zero32, 70) := by
  unfold climbAns; rw [if_neg (by rw [h]; decide), if_pos hp]
theorem climbAns_yes {n i : Int} {leaf : List UInt8} {p : List (List UInt8)} (h : leafB n i = true) (hp : p.length = lenR n.toNat i.toNat) : climbAns n i leaf p = (climbR sha tagN n.toNat i.toNat (sha (tagL ++ leaf)) p, 0) := by
  unfold climbAns; rw [if_neg (by rw [h]; decide), if_neg (by simpa using hp)]
theorem climbR_len (n i : Nat) (d : List UInt8) (p : List (List UInt8)) (h : d.length = 32) : (climbR sha tagN n i d p).length = 32 := by
  rw [climb_fold n n i d p (Nat.le_refl _)]
  exact fold_32 _ _ _ h
theorem climbAns_32 (n i : Int) (leaf : List UInt8) (p : List (List UInt8)) : (climbAns n i leaf p).1.length = 32 := by
  unfold climbAns
  split
  · exact zero32_len
  · split
    · exact zero32_len
    · exact climbR_len _ _ _ _ (sha_len _)
theorem leafB_nat {n i : Int} (h : leafB n i = true) : n = (n.toNat : Nat) ∧ i = (i.toNat : Nat) ∧ i.toNat < n.toNat ∧ n.toNat ≤ 65536 := by
  unfold leafB at h
  simp at h
  omega
abbrev hV : Value := .func (.func 19) #[] #[]
end Go.Proofs.YthjfeodclphgaaaDoor

/- climb. -/
namespace Go.Proofs.YthjfeodclphgaaaDoor
open Go.RowKit Go.Shelf
attribute [local go_sem] Oper.semAt_some
theorem results_cell_row_tmp {P : Program} {fn : Func} {p u : Tmp} {ty : TypeId} (h : fn.results = #[.cell p ty, .tmp u]) (tmps : Array Value) (w : World) (g : Nat) (t : TypeId) (cs : Array Value) (fr : Nat × Nat) (d : TypeDesc) (x : Value)
    (hp : tmps.getD p undef = .pointer (some ⟨g, 0, none⟩)) (hx : tmps.getD u undef = x) (hg : w.heap[g]? = some (.cells cs t fr)) (hu : P.underlying ty = some d) (hd : (match d with | .struct _ | .array _ _ => true | _ => false) = true) (hi : (P.info? ty).map (·.size) = some cs.size) :
    (results fn tmps).run P w = .ok (.tuple #[.agg cs, x]) w := by
  have hp' : tmps[p]?.getD undef = .pointer (some ⟨g, 0, none⟩) := by simpa using hp
  have hx' : tmps[u]?.getD undef = x := by simpa using hx
  simp [results, h, hp', hx', asAddr, run_loadVar_row w g t ty cs fr d hg hu hd hi]
theorem three_boxes (w : World) (v1 v2 : Value) (T1 T2 T3 : Nat) (cs : List Value) : Blk (((w.alloc (.cells #[v1] T1)).alloc (.cells #[v2] T2)).alloc (.cells cs.toArray T3)) w.heap.size T1 [v1] ∧
    Blk (((w.alloc (.cells #[v1] T1)).alloc (.cells #[v2] T2)).alloc (.cells cs.toArray T3)) (w.heap.size + 1) T2 [v2] ∧ Blk (((w.alloc (.cells #[v1] T1)).alloc (.cells #[v2] T2)).alloc (.cells cs.toArray T3)) (w.heap.size + 1 + 1) T3 cs ∧
    Below w.heap.size w (((w.alloc (.cells #[v1] T1)).alloc (.cells #[v2] T2)).alloc (.cells cs.toArray T3)) ∧ (((w.alloc (.cells #[v1] T1)).alloc (.cells #[v2] T2)).alloc (.cells cs.toArray T3)).heap.size = w.heap.size + 3 := by
  have b0 := Blk.new w T1 [v1]
  have b1 := Blk.new (w.alloc (.cells #[v1] T1)) T2 [v2]
  have b2 := Blk.new ((w.alloc (.cells #[v1] T1)).alloc (.cells #[v2] T2)) T3 cs
  simp only [World.size_alloc] at b1 b2
  exact ⟨(b0.alloc _).alloc _, b1.alloc _, b2, ((below_new w _).alloc (by simp) _).alloc (by simp; omega) _, by simp⟩
set_option maxRecDepth 20000 in
set_option maxHeartbeats 1600000 in
theorem climb_no (n i : Int) (LA : Option Addr) (ln lc : Nat) (A : Option Addr) (m c : Nat) (w : World) (h : leafB n i = false) :
    Calls Tryd.prog 71 #[hV, .int .i64 n, .int .i64 i, .slice LA ln lc, .slice A m c] w fun e w' => e = .returned (.tuple #[dv zero32, .int .i64 1]) ∧ Below w.heap.size w w' := by
  have HB := hide (three_boxes w hV (.slice A m c) 106 30 26 (List.replicate 32 (.int .u8 0)))
  have HL := hide (isLeaf_any n i (((w.alloc (.cells #[hV] 106)).alloc (.cells #[.slice A m c] 30)).alloc (.cells (List.replicate 32 (.int .u8 0)).toArray 26)))
  rw [h] at HL
  have HZ := hide (show (Tryd.prog.info? 26).map (·.size) = some ((bc zero32).toArray).size by rw [dv_size _ zero32_len]; exact Tryd.size26)
  have HO := hide (all_oneCell_toArray (bc_one zero32))
  have HS := hide (dv_size _ zero32_len)
  clear h
  go_enter Tryd.func71, Tryd.ntmps71
  go_wp2_with fail
  refine name_world ?_
  intro W3 hW3
  have e : W3 = ((w.alloc (.cells #[hV] 106)).alloc (.cells #[.slice A m c] 30)).alloc (.cells (List.replicate 32 (.int .u8 0)).toArray 26) := hW3.out
  rw [← e] at HB HL
  clear hW3 e
  refine HL.out.mono ?_
  rintro e w' ⟨rfl, rfl⟩
  go_wp2_with (refine wpList_store_row rfl 26 (.tmp 10) (.tmp 17) rfl (w.heap.size + 1 + 1) (bc zero32).toArray rfl rfl 26 _ HB.out.2.2.1 HZ.out (by rw [HS.out]; rfl) HO.out ?_)
  refine bodyPost_ret (v := .tuple #[dv zero32, .int .i64 1]) (results_cell_row_tmp rfl _ _ (w.heap.size + 1 + 1) 26 _ (0, 0) _ _ rfl rfl (setRow_heap _ _ _ _ _ _ HB.out.2.2.1) Tryd.underlying26 rfl HZ.out) rfl ⟨rfl, below_setRow HB.out.2.2.2.1 (by omega) _⟩
set_option maxRecDepth 20000 in
set_option maxHeartbeats 1600000 in
theorem climb_len (n i : Nat) (LA : Option Addr) (ln lc : Nat) (A : Option Addr) (m c : Nat) (w : World) (hi : i < n) (hn : n ≤ 65536) (_hm : m ≤ 9223372036854775807) (hne : m ≠ lenR n i) :
    Calls Tryd.prog 71 #[hV, .int .i64 (n : Nat), .int .i64 (i : Nat), .slice LA ln lc, .slice A m c] w fun e w' => e = .returned (.tuple #[dv zero32, .int .i64 70]) ∧ Below w.heap.size w w' := by
  have HB := hide (three_boxes w hV (.slice A m c) 106 30 26 (List.replicate 32 (.int .u8 0)))
  have HLB := hide (show leafB (n : Nat) (i : Nat) = true by unfold leafB; simp; omega)
  have HL := hide (isLeaf_any (n : Nat) (i : Nat) (((w.alloc (.cells #[hV] 106)).alloc (.cells #[.slice A m c] 30)).alloc (.cells (List.replicate 32 (.int .u8 0)).toArray 26)))
  rw [HLB.out] at HL
  have HZ := hide (show (Tryd.prog.info? 26).map (·.size) = some ((bc zero32).toArray).size by rw [dv_size _ zero32_len]; exact Tryd.size26)
  have HO := hide (all_oneCell_toArray (bc_one zero32))
  have HS := hide (dv_size _ zero32_len)
  have hne' : ((m : Int) != (lenR n i : Nat)) = true := by simp only [bne_iff_ne, ne_eq]; omega
  clear HLB hne
  go_enter Tryd.func71, Tryd.ntmps71
  go_wp2_with fail
  refine name_world ?_
  intro W3 hW3
  have e : W3 = ((w.alloc (.cells #[hV] 106)).alloc (.cells #[.slice A m c] 30)).alloc (.cells (List.replicate 32 (.int .u8 0)).toArray 26) := hW3.out
  rw [← e] at HB HL
  clear hW3 e
  refine HL.out.mono ?_
  rintro e w' ⟨rfl, rfl⟩
  have HP := hide (pathLength_any n i W3.drew hn hi)
  have HC := hide (fun W (h : Below W3.drew.heap.size W3.drew W) => show W.cell? ⟨w.heap.size + 1, 0, none⟩ = some (.slice A m c) from (h.cell (p := ⟨w.heap.size + 1, 0, none⟩) HB.out.2.1.lt).trans ((HB.out.2.1.cell 0).trans rfl))
  go_wp2_with fail
  refine wp_region_plan4 (fun W => Below W3.drew.heap.size W3.drew W) (.take 0 (.take 1 (.take 2 (.take 3 (.run 4 (.take 5 .done)))))) (by kernel_rfl) (by kernel_rfl) (Below.refl _ _) ?_
  (refine plan4_take (o := ?_) (v := ?_) (by simp only [List.getElem?_toArray, List.getElem?_cons_zero]; rfl) (yields_run (by rfl) ?_) ?_; rotate_left; (focus (intro w' hw'; have s0 := HC.out w' hw'; go_simp <;> with_reducible rfl)); (simp only [Act.put, List.setIfInBounds_toArray, List.set_cons_zero, List.set_cons_succ]))
  (refine plan4_take (o := ?_) (v := ?_) (by simp only [List.getElem?_toArray, List.getElem?_cons_succ, List.getElem?_cons_zero]; rfl) (yields_run (by rfl) ?_) ?_; rotate_left; (focus (intro w' hw'; skip; go_simp <;> with_reducible rfl)); (simp only [Act.put, List.setIfInBounds_toArray, List.set_cons_zero, List.set_cons_succ]))
  (refine plan4_take (o := ?_) (v := ?_) (by simp only [List.getElem?_toArray, List.getElem?_cons_succ, List.getElem?_cons_zero]; rfl) (yields_run (by rfl) ?_) ?_; rotate_left; (focus (intro w' hw'; skip; go_simp <;> with_reducible rfl)); (simp only [Act.put, List.setIfInBounds_toArray, List.set_cons_zero, List.set_cons_succ]))
  (refine plan4_take (o := ?_) (v := ?_) (by simp only [List.getElem?_toArray, List.getElem?_cons_succ, List.getElem?_cons_zero]; rfl) (yields_run (by rfl) ?_) ?_; rotate_left; (focus (intro w' hw'; skip; go_simp <;> with_reducible rfl)); (simp only [Act.put, List.setIfInBounds_toArray, List.set_cons_zero, List.set_cons_succ]))
  refine plan4_run (o := ?_) (by simp only [List.getElem?_toArray, List.getElem?_cons_succ, List.getElem?_cons_zero]; rfl) ?_
  intro R HR
  go_wp2_with fail
  with_reducible refine HP.out.mono ?_
  rintro e w5 ⟨rfl, h5⟩
  have H5 := hide h5
  clear h5 HP
  go_wp2_with fail
  refine HR.out _ _ H5.out ?_
  clear HR
  (refine plan4_take (o := ?_) (v := ?_) (by simp only [List.getElem?_toArray, List.getElem?_cons_succ, List.getElem?_cons_zero]; rfl) (yields_run (by rfl) ?_) ?_; rotate_left; (focus (intro w' hw'; skip; go_simp <;> with_reducible rfl)); (simp only [Act.put, List.setIfInBounds_toArray, List.set_cons_zero, List.set_cons_succ]))
  refine plan4_done ?_
  have HB5 := hide (show Below W3.heap.size W3 w5 from ((Below.refl _ W3).drew).trans H5.out)
  have HR5 := hide (HB.out.2.2.1.below HB5.out HB.out.2.2.1.lt)
  have HW5 := hide (below_one HB.out.2.2.2.1 HB5.out)
  go_wp2_with (refine wpList_store_row rfl 26 (.tmp 10) (.tmp 24) rfl (w.heap.size + 1 + 1) (bc zero32).toArray rfl rfl 26 _ HR5.out HZ.out (by rw [HS.out]; rfl) HO.out ?_)
  refine bodyPost_ret (v := .tuple #[dv zero32, .int .i64 70]) (results_cell_row_tmp rfl _ _ (w.heap.size + 1 + 1) 26 _ (0, 0) _ _ rfl rfl (setRow_heap _ _ _ _ _ _ HR5.out) Tryd.underlying26 rfl HZ.out) rfl ⟨rfl, below_setRow HW5.out (by omega) _⟩
/-- What lies in memory between two rounds of climb. -/
def ClI (w : World) (d0 : List UInt8) (p : List (List UInt8)) (pre : List (Nat × Bool)) (W : World) : Prop :=
  ∃ (A : Option Addr) (m c : Nat), Blk W w.heap.size 106 [hV] ∧ Blk W (w.heap.size + 1) 30 [.slice A m c] ∧ DSrc w A m c (p.drop (cntL pre)) ∧ Blk W (w.heap.size + 1 + 1) 26 (bc (pre.foldl stepD (d0, p)).1) ∧ Below w.heap.size w W ∧ w.heap.size + 3 ≤ W.heap.size
theorem clI_own {w : World} {d0 : List UInt8} {p : List (List UInt8)} {B : Nat} (hB : w.heap.size ≤ B) : OwnFrom B (ClI w d0 p) := fun pre Y Z row h hg hr => by
  obtain ⟨A, m, c, h1, h2, h3, h4, h5, h6⟩ := h
  exact ⟨A, m, c, blk_own (β := Unit) (B := B) () Y Z row h1 hg hr, blk_own (β := Unit) (B := B) () Y Z row h2 hg hr, h3, blk_own (β := Unit) (B := B) () Y Z row h4 hg hr, below_own (β := Unit) (B := B) hB () Y Z row h5 hg hr, Nat.le_trans h6 hg.size⟩
theorem clI_alloc {w : World} {d0 : List UInt8} {p : List (List UInt8)} {pre : List (Nat × Bool)} {W : World} (h : ClI w d0 p pre W) (ob : Obj) : ClI w d0 p pre (W.alloc ob) :=
  clI_own (Nat.le_refl _) pre W (W.alloc ob) none (by exact h) (only_of_below (below_new W ob) none) fun r e => by cases e
theorem DSrc.tail {w : World} {b o m c : Nat} {x : List UInt8} {L : List (List UInt8)} (h : DSrc w (some ⟨b, o, none⟩) m c (x :: L)) : DSrc w (if c = 1 then some ⟨b, o, none⟩ else some ⟨b, o + 32, none⟩) (m - 1) (c - 1) L := by
  have hl := h.len
  rw [List.length_cons] at hl
  have hd : D32 L := fun d hd => h.d32 d (List.mem_cons_of_mem _ hd)
  have hc := h.le
  refine ⟨by omega, ?_, hd, by omega, by have := h.top; omega, ?_⟩
  · by_cases hc1 : c = 1
    · have : L = [] := List.length_eq_zero_iff.1 (by omega)
      subst this
      exact fun h => absurd rfl h
    · rw [if_neg hc1]
      obtain ⟨b', o', e, hB⟩ := h.ds.at h.d32 (by simp)
      cases e
      have := bs_drop h.d32 hB 1
      simpa using Ds.of this
  · intro e
    split at e <;> cases e
theorem others_row {W : World} {X T : Nat} {cs : List Value} (h : Blk W X T cs) (ds : List Value) : KeepsOthers W (W.setRow X ds.toArray) :=
  KeepsOthers.of_grownBy (only_setRow (only_refl W (some X)) (.inl rfl) _) fun j o e ho => by
    injection e with e
    subst e
    unfold Blk at h
    rw [h] at ho; cases ho; rfl
/-- A whole row that is read, inside a fence. -/
theorem wpListIn_load_row' {F : Fence} {n : Nat} {P : Program} {ops : Array Oper} {rest : List Oper} {o : Oper} {a : Act} {w : World} {Q : Exit → Act → World → Prop} (hgd : o.guard = none) (ty : TypeId) (x : Operand) (ho : o.op = .load ty x)
    (g : Nat) (hx : a.eval x = .pointer (some ⟨g, 0, none⟩)) (t : TypeId) (cs : Array Value) (fr : Nat × Nat) (d : TypeDesc) (hg : w.heap[g]? = some (.cells cs t fr))
    (hu : P.underlying ty = some d) (hd : (match d with | .struct _ | .array _ _ => true | _ => false) = true) (hi : (P.info? ty).map (·.size) = some cs.size)
    (h : wpListIn F n P ops Q rest (a.put o.dst (.agg cs)) w) : wpListIn F n P ops Q (o :: rest) a w := by
  refine wpListIn_plain hgd fun K hK => ?_
  unfold Oper.wpIn
  refine ⟨by simp [Oper.about, ho], ?_⟩
  rw [Oper.semAt_plain F _ _ (by rw [ho]; intro c hc'; cases hc')]
  unfold execOp
  simp only [ho, hx, Instr.loadAt, Instr.sureAddr, Sem.run_bind, Sem.run_pure, Result.andThen_ok, run_loadVar_row w g t ty cs fr d hg hu hd hi]
  exact hK _ _ h
set_option maxRecDepth 100000 in
set_option maxHeartbeats 3200000 in
theorem climb_yes (n i : Nat) (LA : Option Addr) (lc : Nat) (leaf : List UInt8) (A : Option Addr) (m c : Nat) (p : List (List UInt8)) (w : World) (hT : Tab w) (hi : i < n) (hn : n ≤ 65536) (hl : Sb w LA leaf) (hnil : LA = none → lc = 0) (hll : leaf.length ≤ 10000000) (hp : DSrc w A m c p) (hm : m = lenR n i) (tx d0 r : List UInt8) (htx : tx = tagL ++ leaf) (hd0 : d0 = sha tx) (hr : r = climbR sha tagN n i d0 p) :
    Calls Tryd.prog 71 #[hV, .int .i64 (n : Nat), .int .i64 (i : Nat), .slice LA leaf.length lc, .slice A m c] w fun e w' => e = .returned (.tuple #[dv r, .int .i64 0]) ∧ Below w.heap.size w w' := by
  have HB := hide (three_boxes w hV (.slice A m c) 106 30 26 (List.replicate 32 (.int .u8 0)))
  have HLB := hide (show leafB (n : Nat) (i : Nat) = true by unfold leafB; simp; omega)
  have HL := hide (isLeaf_any (n : Nat) (i : Nat) (((w.alloc (.cells #[hV] 106)).alloc (.cells #[.slice A m c] 30)).alloc (.cells (List.replicate 32 (.int .u8 0)).toArray 26)))
  rw [HLB.out] at HL
  have HT := hide hT
  have HLF := hide (And.intro hl hnil)
  have HPP := hide hp
  have hm63 : m ≤ 9223372036854775807 := Nat.le_trans hp.le hp.top
  have hne' : ((m : Int) != (lenR n i : Nat)) = false := by simp only [bne_eq_false_iff_eq]; omega
  have HMM := hide (show m = p.length ∧ cntL (wayL n i) = p.length from ⟨hp.len, by rw [cntL_way n n i (Nat.le_refl _), ← hm, hp.len]⟩)
  have HCF := hide (hr.trans (climb_fold n n i d0 p (Nat.le_refl _)))
  have HTX := hide htx
  have HD0 := hide (show d0.length = 32 by rw [hd0]; exact sha_len _)
  have HDE := hide hd0
  have HR32 := hide (show r.length = 32 by rw [hr]; exact climbR_len n i d0 p HD0.out)
  have HWL := hide (wayL_len 16 n i (by omega))
  have HLT := hide (show tx.length ≤ 100000000 by rw [htx, List.length_append, sha_len]; omega)
  clear HLB hT hl hnil hp hm htx hd0 hr
  refine (callsIn_wide (n := 4)).1 ?_
  refine callsIn_of_wp_marks Tryd.func71 rfl trivial ?_ rfl
  simp only [Tryd.ntmps71, List.size_toArray, List.length_cons, List.length_nil, Nat.reduceAdd, Nat.reduceSub, Array.replicate_succ, Array.replicate_zero, List.push_toArray, List.append_toArray, List.nil_append, List.cons_append]
  gi_wp2_with fail
  refine ⟨trivial, ?_⟩
  refine callsIn_wide.2 ?_
  refine name_world ?_
  intro W3 hW3
  have e : W3 = ((w.alloc (.cells #[hV] 106)).alloc (.cells #[.slice A m c] 30)).alloc (.cells (List.replicate 32 (.int .u8 0)).toArray 26) := hW3.out
  rw [← e] at HB HL
  clear hW3 e
  refine HL.out.mono ?_
  rintro e w' ⟨rfl, rfl⟩
  have HP := hide (pathLength_any n i W3.drew hn hi)
  have HC := hide (fun W (h : Below W3.drew.heap.size W3.drew W) => show W.cell? ⟨w.heap.size + 1, 0, none⟩ = some (.slice A m c) from (h.cell (p := ⟨w.heap.size + 1, 0, none⟩) HB.out.2.1.lt).trans ((HB.out.2.1.cell 0).trans rfl))
  gi_wp2_with fail
  refine wpIn_wide.2 ?_
  refine wp_region_plan4 (fun W => Below W3.drew.heap.size W3.drew W) (.take 0 (.take 1 (.take 2 (.take 3 (.run 4 (.take 5 .done)))))) (by kernel_rfl) (by kernel_rfl) (Below.refl _ _) ?_
  (refine plan4_take (o := ?_) (v := ?_) (by simp only [List.getElem?_toArray, List.getElem?_cons_zero]; rfl) (yields_run (by rfl) ?_) ?_; rotate_left; (focus (intro w' hw'; have s0 := HC.out w' hw'; go_simp <;> with_reducible rfl)); (simp only [Act.put, List.setIfInBounds_toArray, List.set_cons_zero, List.set_cons_succ]))
  (refine plan4_take (o := ?_) (v := ?_) (by simp only [List.getElem?_toArray, List.getElem?_cons_succ, List.getElem?_cons_zero]; rfl) (yields_run (by rfl) ?_) ?_; rotate_left; (focus (intro w' hw'; skip; go_simp <;> with_reducible rfl)); (simp only [Act.put, List.setIfInBounds_toArray, List.set_cons_zero, List.set_cons_succ]))
  (refine plan4_take (o := ?_) (v := ?_) (by simp only [List.getElem?_toArray, List.getElem?_cons_succ, List.getElem?_cons_zero]; rfl) (yields_run (by rfl) ?_) ?_; rotate_left; (focus (intro w' hw'; skip; go_simp <;> with_reducible rfl)); (simp only [Act.put, List.setIfInBounds_toArray, List.set_cons_zero, List.set_cons_succ]))
  (refine plan4_take (o := ?_) (v := ?_) (by simp only [List.getElem?_toArray, List.getElem?_cons_succ, List.getElem?_cons_zero]; rfl) (yields_run (by rfl) ?_) ?_; rotate_left; (focus (intro w' hw'; skip; go_simp <;> with_reducible rfl)); (simp only [Act.put, List.setIfInBounds_toArray, List.set_cons_zero, List.set_cons_succ]))
  refine plan4_run (o := ?_) (by simp only [List.getElem?_toArray, List.getElem?_cons_succ, List.getElem?_cons_zero]; rfl) ?_
  intro R HR
  go_wp2_with fail
  with_reducible refine HP.out.mono ?_
  rintro e w5 ⟨rfl, h5⟩
  have H5 := hide h5
  clear h5 HP
  go_wp2_with fail
  refine HR.out _ _ H5.out ?_
  clear HR
  (refine plan4_take (o := ?_) (v := ?_) (by simp only [List.getElem?_toArray, List.getElem?_cons_succ, List.getElem?_cons_zero]; rfl) (yields_run (by rfl) ?_) ?_; rotate_left; (focus (intro w' hw'; skip; go_simp <;> with_reducible rfl)); (simp only [Act.put, List.setIfInBounds_toArray, List.set_cons_zero, List.set_cons_succ]))
  refine plan4_done ?_
  have HB5 := hide (show Below W3.heap.size W3 w5 from ((Below.refl _ W3).drew).trans H5.out)
  have HC5 := hide (And.intro (HB.out.1.below HB5.out HB.out.1.lt) (And.intro (HB.out.2.1.below HB5.out HB.out.2.1.lt) (And.intro (HB.out.2.2.1.below HB5.out HB.out.2.2.1.lt) (below_one HB.out.2.2.2.1 HB5.out))))
  have HLX := hide (leafText_any LA leaf.length lc leaf w5.drew ((HT.out.below HC5.out.2.2.2).below ((Below.refl _ w5).drew)) ((HLF.out.1.below HC5.out.2.2.2).below ((Below.refl _ w5).drew)) rfl HLF.out.2 (by omega))
  have HCL := hide (fun W (h : Below w5.drew.heap.size w5.drew W) => show W.cell? ⟨w.heap.size, 0, none⟩ = some hV from (h.cell (p := ⟨w.heap.size, 0, none⟩) HC5.out.1.lt).trans ((HC5.out.1.cell 0).trans rfl))
  clear HC HL HB H5 HB5
  rw [← HTX.out] at HLX
  have HZ := hide (show (Tryd.prog.info? 26).map (·.size) = some ((bc (d0)).toArray).size by rw [dv_size _ HD0.out]; exact Tryd.size26)
  have HO := hide (all_oneCell_toArray (bc_one d0))
  have HS := hide (dv_size _ HD0.out)
  gi_wp2_with fail
  refine wpIn_wide.2 ?_
  refine wp_region_plan4 (fun W => Below w5.drew.heap.size w5.drew W) (.take 0 (.take 1 (.run 2 (.run 3 (.last 4 .done))))) (by kernel_rfl) (by kernel_rfl) (Below.refl _ _) ?_
  (refine plan4_take (o := ?_) (v := ?_) (by simp only [List.getElem?_toArray, List.getElem?_cons_zero]; rfl) (yields_run (by rfl) ?_) ?_; rotate_left; (focus (intro w' hw'; have s0 := HCL.out w' hw'; go_simp <;> with_reducible rfl)); (simp only [Act.put, List.setIfInBounds_toArray, List.set_cons_zero, List.set_cons_succ]))
  (refine plan4_take (o := ?_) (v := ?_) (by simp only [List.getElem?_toArray, List.getElem?_cons_succ, List.getElem?_cons_zero]; rfl) (yields_run (by rfl) ?_) ?_; rotate_left; (focus (intro w' hw'; skip; go_simp <;> with_reducible rfl)); (simp only [Act.put, List.setIfInBounds_toArray, List.set_cons_zero, List.set_cons_succ]))
  refine plan4_run (o := ?_) (by simp only [List.getElem?_toArray, List.getElem?_cons_succ, List.getElem?_cons_zero]; rfl) ?_
  intro R HR
  go_wp2_with fail
  with_reducible refine HLX.out.mono ?_
  rintro e w6 ⟨A6, c6, rfl, h1, h2, h3, h4, h5⟩
  have HX6 := hide (And.intro h1 (And.intro h2 h3))
  have H6 := hide h5
  have HT6 := hide ((HT.out.below HC5.out.2.2.2).below ((((Below.refl _ w5).drew).trans h5)))
  clear h1 h2 h3 h4 h5 HLX
  go_wp2_with fail
  refine HR.out _ _ H6.out ?_
  clear HR
  refine plan4_run (o := ?_) (by simp only [List.getElem?_toArray, List.getElem?_cons_succ, List.getElem?_cons_zero]; rfl) ?_
  intro R HR
  go_wp2_with fail
  have HSU := hide (sum_is A6 tx.length c6 tx w6 HT6.out HX6.out.1 rfl HX6.out.2.1 HX6.out.2.2 HLT.out)
  rw [← HDE.out] at HSU
  with_reducible refine HSU.out.mono ?_
  rintro e w7 ⟨rfl, h5⟩
  have H7 := hide (show Below w5.heap.size w5 w7 from ((Below.refl _ w5).drew).trans (below_one H6.out h5))
  have H7d := hide (below_one H6.out h5)
  clear h5
  go_wp2_with fail
  refine HR.out _ _ H7d.out ?_
  clear HR
  refine plan4_last (o := ?_) (by simp only [List.getElem?_toArray, List.getElem?_cons_succ, List.getElem?_cons_zero]; rfl) ?_
  intro R HR
  have HR7 := hide (HC5.out.2.2.1.below H7.out HC5.out.2.2.1.lt)
  refine wpList_store_row rfl 26 (.tmp 10) (.tmp 28) rfl (w.heap.size + 1 + 1) (bc (d0)).toArray rfl rfl 26 _ HR7.out HZ.out (by rw [HS.out]; rfl) HO.out ?_
  refine HR.out _ _ ?_
  clear HR
  refine plan4_done ?_
  have HI8 := hide (show Blk (w7.setRow (w.heap.size + 1 + 1) (bc (d0)).toArray) w.heap.size 106 [hV] ∧ Blk (w7.setRow (w.heap.size + 1 + 1) (bc (d0)).toArray) (w.heap.size + 1) 30 [.slice A m c] ∧ Blk (w7.setRow (w.heap.size + 1 + 1) (bc (d0)).toArray) (w.heap.size + 1 + 1) 26 (bc (d0)) ∧ Below w.heap.size w (w7.setRow (w.heap.size + 1 + 1) (bc (d0)).toArray) from
    ⟨(setRow_other w7 _ w.heap.size _ (by omega)).trans (HC5.out.1.below H7.out HC5.out.1.lt), (setRow_other w7 _ (w.heap.size + 1) _ (by omega)).trans (HC5.out.2.1.below H7.out HC5.out.2.1.lt), HR7.out.row _, below_setRow (below_one HC5.out.2.2.2 H7.out) (by omega) _⟩)
  revert HI8
  generalize w7.setRow (w.heap.size + 1 + 1) (bc (d0)).toArray = W8
  intro HI8
  clear HR7 H7 H7d HT6 H6 HX6 HC5 HCL hne'
  gi_wp2_with fail
  refine ⟨trivial, ?_⟩
  refine (callsIn_wide.2 (steps_any _ _ _)).mono ?_
  rintro e w' ⟨rfl, rfl⟩
  gi_wp2_with fail
  have HW := hide (show ClI w d0 p [] ((W8.alloc (.cells #[.int .i64 (n : Nat)] 3)).alloc (.cells #[.int .i64 (i : Nat)] 3)) ∧ ((W8.alloc (.cells #[.int .i64 (n : Nat)] 3)).alloc (.cells #[.int .i64 (i : Nat)] 3)).heap.size = W8.heap.size + 2 ∧ ((W8.alloc (.cells #[.int .i64 (n : Nat)] 3)).alloc (.cells #[.int .i64 (i : Nat)] 3)).cell? ⟨W8.heap.size, 0, none⟩ = some (.int .i64 (n : Nat)) ∧ ((W8.alloc (.cells #[.int .i64 (n : Nat)] 3)).alloc (.cells #[.int .i64 (i : Nat)] 3)).cell? ⟨W8.heap.size + 1, 0, none⟩ = some (.int .i64 (i : Nat)) from by
    have b0 := Blk.new W8 3 [.int .i64 (n : Nat)]
    have b1 := Blk.new (W8.alloc (.cells #[.int .i64 (n : Nat)] 3)) 3 [.int .i64 (i : Nat)]
    simp only [World.size_alloc] at b1
    have hz := HI8.out.2.2.1.lt
    refine ⟨⟨A, m, c, (HI8.out.1.alloc _).alloc _, (HI8.out.2.1.alloc _).alloc _, HPP.out, (HI8.out.2.2.1.alloc _).alloc _, (HI8.out.2.2.2.alloc HI8.out.2.2.2.size _).alloc (by simp; have := HI8.out.2.2.2.size; omega) _, by simp; omega⟩, by simp, ((b0.alloc _).cell 0).trans rfl, (b1.cell 0).trans rfl⟩)
  have hzX : w.heap.size + 3 ≤ W8.heap.size := HI8.out.2.2.1.lt
  change Code.wpIn _ _ _ _ _ _ ((W8.alloc (.cells #[.int .i64 (n : Nat)] 3)).alloc (.cells #[.int .i64 (i : Nat)] 3))
  clear HI8
  revert HW
  generalize (W8.alloc (.cells #[.int .i64 (n : Nat)] 3)).alloc (.cells #[.int .i64 (i : Nat)] 3) = W0
  intro HW
  generalize W8.heap.size = X at *
  refine wp_rangeS rfl (by omega) (gf := 84) (lb := #[.pointer (some ⟨X, 0, none⟩), .pointer (some ⟨X + 1, 0, none⟩)]) rfl trivial (enters_of Tryd.func84 (by kernel_rfl) rfl)
    (steps_gives (4 - 1) (by omega) X (X + 1) n i hn hi W0 (by rw [HW.out.2.1]; omega) HW.out.2.2.1 HW.out.2.2.2) (Below.refl _ _) (fun _ => rfl)
    (ClI w d0 p) (fun _ _ _ => False) (clI_own (by rw [HW.out.2.1]; omega)) (fun _ _ _ _ _ hs _ _ => hs) HW.out.1
    (fun pre x a W => ClI w d0 p pre W ∧ AxS (w.heap.size + 3) (fun Y => { tmps := #[hV, .int .i64 (n : Nat), .int .i64 (i : Nat), .slice LA leaf.length lc, .slice A m c, .pointer (some ⟨w.heap.size, 0, none⟩), undef, undef, undef, .pointer (some ⟨w.heap.size + 1, 0, none⟩), .pointer (some ⟨w.heap.size + 1 + 1, 0, none⟩), .int .i64 0, .pointer (some ⟨Y, 0, none⟩), .int .i64 (n : Nat), .int .i64 (i : Nat), .bool true, .bool false, undef, .slice A m c, .int .i64 (m : Nat), .int .i64 (n : Nat), .int .i64 (i : Nat), .int .i64 (lenR n i : Nat), .bool false, undef, hV, .slice LA leaf.length lc, .slice A6 tx.length c6, dv d0, .int .i64 (n : Nat), .int .i64 (i : Nat), .func (.func 84) #[] #[.pointer (some ⟨X, 0, none⟩), .pointer (some ⟨X + 1, 0, none⟩)], .agg #[.int .i64 (x.1 : Nat), .bool x.2], undef, undef, undef, undef, undef, undef, undef, undef, undef, undef, undef, undef, undef, undef], defers := [] }) x a W)
    (fun pre x a' s A B row hs hg hr => ⟨clI_own (by rw [HW.out.2.1]; omega) pre A B row hs.1 hg hr, axS_own x a' s A B row hs.2 hg hr⟩) ?assign ?body ?done ?stop
  case assign =>
    intro lr pre x W K hI hK
    simp only [encS]
    have HI := hide hI
    have HKK := hide hK
    clear hI hK
    gi_wp2
    refine HKK.out _ _ ((KeepsOthers.alloc W _).from _) ⟨clI_alloc HI.out _, ?_⟩
    obtain ⟨A, m, c, h1, h2, h3, h4, h5, h6⟩ := HI.out
    exact ⟨W.heap.size, rfl, Blk.new W 82 [.int .i64 (x.1 : Nat), .bool x.2], h6⟩
  case body =>
    rintro lr pre x a' W ⟨rest, hwy⟩ ⟨hI, Y, rfl, hX, hX2⟩
    have HII := hide hI
    obtain ⟨A1, m1, c1, h1, h2, h3, h4, h5, h6⟩ := hI
    have HI := hide (And.intro h1 (And.intro h2 (And.intro h3 (And.intro h4 (And.intro h5 h6)))))
    have HHX := hide hX
    have e1 : W.cell? ⟨Y, 1, none⟩ = some (.bool x.2) := (hX.cell 1).trans rfl
    have HFO := hide (show (pre ++ [x]).foldl stepD (d0, p) = stepD (pre.foldl stepD (d0, p)) x by rw [List.foldl_append]; rfl)
    have HCA := hide (cntL_add pre x)
    have HFP := hide (And.intro (fold_path pre d0 p) (fold_32 pre d0 p HD0.out))
    have hxi : x.1 < n := by
      obtain ⟨m', q', h1, h2, h3, h4, _⟩ := way_at pre n i x rest hi hwy
      rw [h4]; simp only; omega
    have HWY := hide hwy
    clear hX hwy h1 h2 h3 h4 h5 h6
    obtain ⟨q, al⟩ := x
    simp only at e1 HHX hxi
    cases al with
    | true =>
      rw [stepD_t] at HFO
      gi_wp2
      refine ⟨KeepsFrom.refl _ _, A1, m1, c1, HI.out.1, HI.out.2.1, ?_, ?_, HI.out.2.2.2.2.1, HI.out.2.2.2.2.2⟩
      · rw [HCA.out]; exact HI.out.2.2.1
      · rw [HFO.out]; exact HI.out.2.2.2.1
    | false =>
      rw [stepD_f] at HFO
      have HNE := hide (show cntL pre < p.length by
        rw [← HMM.out.2, HWY.out]
        have := cntL_add (pre ++ [(q, false)]) (0, true)
        have e : ∀ r, cntL (pre ++ (q, false) :: r) = cntL pre + 1 + cntL r := fun r => by unfold cntL; rw [List.filter_append, List.length_append]; simp; omega
        rw [e]; omega)
      obtain ⟨y, ys, hys⟩ : ∃ y ys, p.drop (cntL pre) = y :: ys := by
        rw [List.drop_eq_getElem_cons HNE.out]; exact ⟨_, _, rfl⟩
      have HDP := hide (show p.drop (cntL (pre ++ [(q, false)])) = ys by
        rw [HCA.out]
        have := congrArg List.tail hys
        simpa [List.tail_drop] using this)
      have HYS := hide hys
      rw [hys] at HI
      clear hys
      obtain ⟨b, o, rfl, hB⟩ := HI.out.2.2.1.ds.at HI.out.2.2.1.d32 (by simp)
      have HY32 := hide (HI.out.2.2.1.d32 y (List.mem_cons_self ..))
      have HRG := hide (show w.rangeAt b o (bc y) from by
        have h := bs_range (bs_one HI.out.2.2.1.d32 hB 0 (by simp))
        simp only [Nat.mul_zero, Nat.add_zero] at h
        exact h)
      have hbw : b < w.heap.size := hB.lt (by have := HI.out.2.2.1.d32.flat; rw [this]; simp)
      have HFE := hide (show (pre ++ [(q, false)]).foldl stepD (d0, p) = (sha (stepT tagN q (pre.foldl stepD (d0, p)).1 y), ys) by rw [HFO.out, HFP.out.1, HYS.out]; rfl)
      have hm1 := HI.out.2.2.1.len
      rw [List.length_cons] at hm1
      have hm1' : 1 ≤ (m1 : Int) := by omega
      have hm0 : 0 < m1 := by omega
      have hc1 : m1 ≤ c1 := HI.out.2.2.1.le
      have hc63 := HI.out.2.2.1.top
      have HDT := hide HI.out.2.2.1.tail
      obtain ⟨d, hd⟩ : ∃ d, (pre.foldl stepD (d0, p)).1 = d := ⟨_, rfl⟩
      rw [hd] at HI HFE HFP
      replace HFP := hide HFP.out.2
      clear hd hm1 hB HFO
      have HSL := hide (show (stepT tagN q d y).length ≤ 100000000 by unfold stepT; split <;> (rw [nodeT_len (sha_len _) (by first | exact HFP.out | exact HY32.out) (by first | exact HFP.out | exact HY32.out)]; decide))
      have HZD := hide (show (Tryd.prog.info? 26).map (·.size) = some ((bc d).toArray).size by rw [dv_size _ HFP.out]; exact Tryd.size26)
      have HZY := hide (show (Tryd.prog.info? 26).map (·.size) = some ((bc y).toArray).size by rw [dv_size _ HY32.out]; exact Tryd.size26)
      have HC := hide (fun W' (h : Below W.drew.heap.size W.drew W') => show W'.cell? ⟨w.heap.size, 0, none⟩ = some hV ∧ W'.cell? ⟨w.heap.size + 1, 0, none⟩ = some (.slice (some ⟨b, o, none⟩) m1 c1) ∧ W'.cell? ⟨Y, 0, none⟩ = some (.int .i64 (q : Nat)) ∧ W'.cell? ⟨Y, 1, none⟩ = some (.bool false) ∧ W'.rangeAt (w.heap.size + 1 + 1) 0 (bc d) ∧ W'.rangeAt b o (bc y) from
        ⟨(h.cell (p := ⟨w.heap.size, 0, none⟩) HI.out.1.lt).trans ((HI.out.1.cell 0).trans rfl), (h.cell (p := ⟨w.heap.size + 1, 0, none⟩) HI.out.2.1.lt).trans ((HI.out.2.1.cell 0).trans rfl), (h.cell (p := ⟨Y, 0, none⟩) HHX.out.lt).trans ((HHX.out.cell 0).trans rfl), (h.cell (p := ⟨Y, 1, none⟩) HHX.out.lt).trans ((HHX.out.cell 1).trans rfl),
          range_below (bs_range HI.out.2.2.2.1.bs) (((Below.refl _ W).drew).trans h) HI.out.2.2.2.1.lt, range_below HRG.out (below_one HI.out.2.2.2.2.1 (((Below.refl _ W).drew).trans h)) hbw⟩)
      have HTW := hide (HT.out.below (below_one HI.out.2.2.2.2.1 ((Below.refl _ W).drew)))
      have HST := hide (stepText_any q false d y W.drew HTW.out (by omega) HFP.out HY32.out)
      clear HDP HCA HRG
      gi_wp2
      refine wpIn_region_plan4 (fun W' => Below W.drew.heap.size W.drew W') (.take 0 (.take 1 (.take 2 (.take 3 (.take 4 (.take 5 (.run 6 (.run 7 (.last 8 .done))))))))) (by kernel_rfl) (by kernel_rfl) (Below.refl _ _) ?_
      (refine plan4_take (o := ?_) (v := ?_) (by simp only [List.getElem?_toArray, List.getElem?_cons_zero]; rfl) (yields_run (by rfl) ?_) ?_; rotate_left; (focus (intro w' hw'; obtain ⟨s0, s1, s2, s3, -⟩ := HC.out w' hw'; go_simp <;> with_reducible rfl)); (simp only [Act.put, List.setIfInBounds_toArray, List.set_cons_zero, List.set_cons_succ]))
      (refine plan4_take (o := ?_) (v := ?_) (by simp only [List.getElem?_toArray, List.getElem?_cons_succ, List.getElem?_cons_zero]; rfl) (yields_run (by rfl) ?_) ?_; rotate_left; (focus (intro w' hw'; obtain ⟨s0, s1, s2, s3, -⟩ := HC.out w' hw'; go_simp <;> with_reducible rfl)); (simp only [Act.put, List.setIfInBounds_toArray, List.set_cons_zero, List.set_cons_succ]))
      (refine plan4_take (o := ?_) (by simp only [List.getElem?_toArray, List.getElem?_cons_succ, List.getElem?_cons_zero]; rfl) (yieldsIf_load_mid (by rfl) 26 (.tmp 10) rfl (w.heap.size + 1 + 1) 0 rfl (bc d) _ (fun W' h => (HC.out W' h).2.2.2.2.1) Tryd.underlying26 rfl HZD.out) ?_; (simp only [Act.put, List.setIfInBounds_toArray, List.set_cons_zero, List.set_cons_succ]))
      (refine plan4_take (o := ?_) (v := ?_) (by simp only [List.getElem?_toArray, List.getElem?_cons_succ, List.getElem?_cons_zero]; rfl) (yields_run (by rfl) ?_) ?_; rotate_left; (focus (intro w' hw'; obtain ⟨s0, s1, s2, s3, -⟩ := HC.out w' hw'; go_simp <;> with_reducible rfl)); (simp only [Act.put, List.setIfInBounds_toArray, List.set_cons_zero, List.set_cons_succ]))
      (refine plan4_take (o := ?_) (v := ?_) (by simp only [List.getElem?_toArray, List.getElem?_cons_succ, List.getElem?_cons_zero]; rfl) (yields_run (by rfl) ?_) ?_; rotate_left; (focus (intro w' hw'; skip; go_simp <;> with_reducible rfl)); (simp only [Act.put, List.setIfInBounds_toArray, List.set_cons_zero, List.set_cons_succ]))
      (refine plan4_take (o := ?_) (by simp only [List.getElem?_toArray, List.getElem?_cons_succ, List.getElem?_cons_zero]; rfl) (yieldsIf_load_mid (by rfl) 26 (.tmp 40) rfl b (o) rfl (bc y) _ (fun W' h => (HC.out W' h).2.2.2.2.2) Tryd.underlying26 rfl HZY.out) ?_; (simp only [Act.put, List.setIfInBounds_toArray, List.set_cons_zero, List.set_cons_succ]))
      refine plan4_run (o := ?_) (by simp only [List.getElem?_toArray, List.getElem?_cons_succ, List.getElem?_cons_zero]; rfl) ?_
      intro R HR
      go_wp2_with fail
      with_reducible refine HST.out.mono ?_
      rintro e w6 ⟨A6, c6, rfl, h1, h2, h3, h4, h5⟩
      have HX6 := hide (And.intro h1 (And.intro h2 h3))
      have H6 := hide h5
      have HT6 := hide (HTW.out.below h5)
      clear h1 h2 h3 h4 h5 HST
      go_wp2_with fail
      refine HR.out _ _ H6.out ?_
      clear HR
      refine plan4_run (o := ?_) (by simp only [List.getElem?_toArray, List.getElem?_cons_succ, List.getElem?_cons_zero]; rfl) ?_
      intro R HR
      go_wp2_with fail
      refine (sum_is A6 (stepT tagN q d y).length c6 (stepT tagN q d y) w6 HT6.out HX6.out.1 rfl HX6.out.2.1 HX6.out.2.2 HSL.out).mono ?_
      rintro e w7 ⟨rfl, h5⟩
      have H7d := hide (below_one H6.out h5)
      have H7 := hide (show Below W.heap.size W w7 from ((Below.refl _ W).drew).trans H7d.out)
      clear h5
      go_wp2_with fail
      refine HR.out _ _ H7d.out ?_
      clear HR
      refine plan4_last (o := ?_) (by simp only [List.getElem?_toArray, List.getElem?_cons_succ, List.getElem?_cons_zero]; rfl) ?_
      intro R HR
      have HR7 := hide (HI.out.2.2.2.1.below H7.out HI.out.2.2.2.1.lt)
      have HS := hide (dv_size _ (sha_len (stepT tagN q d y)))
      have HZ2 := hide (show (Tryd.prog.info? 26).map (·.size) = some ((bc (sha (stepT tagN q d y))).toArray).size by rw [HS.out]; exact Tryd.size26)
      have HO2 := hide (all_oneCell_toArray (bc_one (sha (stepT tagN q d y))))
      refine wpList_store_row rfl 26 (.tmp 10) (.tmp 43) rfl (w.heap.size + 1 + 1) (bc (sha (stepT tagN q d y))).toArray rfl rfl 26 _ HR7.out HZ2.out (by rw [HS.out, dv_size _ HFP.out]) HO2.out ?_
      refine HR.out _ _ ?_
      clear HR
      refine plan4_doneC ?_
      have HI9 := hide (show Blk (w7.setRow (w.heap.size + 1 + 1) (bc (sha (stepT tagN q d y))).toArray) w.heap.size 106 [hV] ∧ Blk (w7.setRow (w.heap.size + 1 + 1) (bc (sha (stepT tagN q d y))).toArray) (w.heap.size + 1) 30 [.slice (some ⟨b, o, none⟩) m1 c1] ∧ Blk (w7.setRow (w.heap.size + 1 + 1) (bc (sha (stepT tagN q d y))).toArray) (w.heap.size + 1 + 1) 26 (bc (sha (stepT tagN q d y))) ∧ Below w.heap.size w (w7.setRow (w.heap.size + 1 + 1) (bc (sha (stepT tagN q d y))).toArray) ∧ KeepsOthers W (w7.setRow (w.heap.size + 1 + 1) (bc (sha (stepT tagN q d y))).toArray) ∧ w.heap.size + 3 ≤ (w7.setRow (w.heap.size + 1 + 1) (bc (sha (stepT tagN q d y))).toArray).heap.size from
        ⟨(setRow_other w7 _ w.heap.size _ (by omega)).trans (HI.out.1.below H7.out HI.out.1.lt), (setRow_other w7 _ (w.heap.size + 1) _ (by omega)).trans (HI.out.2.1.below H7.out HI.out.2.1.lt), HR7.out.row _, below_setRow (below_one HI.out.2.2.2.2.1 H7.out) (by omega) _, (others_below H7.out).trans (others_row HR7.out _), by simp; have := HI.out.2.2.2.2.2; have := H7.out.size; omega⟩)
      revert HI9
      generalize w7.setRow (w.heap.size + 1 + 1) (bc (sha (stepT tagN q d y))).toArray = W9
      intro HI9
      have f9 := HI9.out.2.1.free 0
      have g9 : W9.cell? ⟨w.heap.size + 1, 0, none⟩ = some (.slice (some ⟨b, o, none⟩) m1 c1) := (HI9.out.2.1.cell 0).trans rfl
      have HCP := hide (show cntL (pre ++ [(q, false)]) = cntL pre + 1 from cntL_add pre (q, false))
      have HDY := hide (show p.drop (cntL (pre ++ [(q, false)])) = ys by
        rw [HCP.out, ← List.drop_drop, HYS.out]; rfl)
      clear HR7 HS HZ2 HO2 H7 H7d HT6 H6 HX6 HC e1
      by_cases hc1e : c1 = 1
      · subst hc1e
        have HDT1 := hide (show DSrc w (some ⟨b, o, none⟩) 0 0 ys from by
          have e : m1 - 1 = 0 := by omega
          have := HDT.out
          rw [e] at this
          exact this)
        gi_wp2
        refine ⟨(HI9.out.2.2.2.2.1.trans (KeepsOthers.setCell _ _ _)).from _, some ⟨b, o, none⟩, 0, 0, HI9.out.1.apart' (by omega) _, HI9.out.2.1.set 0 _, ?_, ?_, HI9.out.2.2.2.1.setCell (by simp only; omega) _, by simp [World.setCell]; exact HI9.out.2.2.2.2.2⟩
        · rw [HDY.out]; exact HDT1.out
        · rw [HFE.out]; exact HI9.out.2.2.1.apart' (by omega) _
      · have hc1n : ¬ (c1 : Int) = 1 := by omega
        have HDT1 := hide (show DSrc w (some ⟨b, o + 32, none⟩) (m1 - 1) (c1 - 1) ys from by have := HDT.out; rw [if_neg hc1e] at this; exact this)
        gi_wp2
        refine ⟨(HI9.out.2.2.2.2.1.trans (KeepsOthers.setCell _ _ _)).from _, some ⟨b, o + 32, none⟩, m1 - 1, c1 - 1, HI9.out.1.apart' (by omega) _, HI9.out.2.1.set 0 _, ?_, ?_, HI9.out.2.2.2.1.setCell (by simp only; omega) _, by simp [World.setCell]; exact HI9.out.2.2.2.2.2⟩
        · rw [HDY.out]; exact HDT1.out
        · rw [HFE.out]; exact HI9.out.2.2.1.apart' (by omega) _
  case done =>
    rintro D ys W hD rfl ⟨A1, m1, c1, h1, h2, h3, h4, h5, h6⟩ hK
    rw [← HCF.out] at h4
    have hz : w.heap.size + 1 + 1 < D := by have := HW.out.2.1; omega
    have HI := hide (And.intro h4 (And.intro h5 hK))
    clear h1 h2 h3 h4 h5 h6 hK hD HCF
    have HSR := hide (dv_size _ HR32.out)
    have HZR := hide (show (Tryd.prog.info? 26).map (·.size) = some ((bc r).toArray).size by rw [HSR.out]; exact Tryd.size26)
    have HOR := hide (all_oneCell_toArray (bc_one r))
    gi_wp2_with (first | (refine wpListIn_load_row' rfl 26 (.tmp 10) rfl (w.heap.size + 1 + 1) rfl 26 _ (0, 0) _ HI.out.1 Tryd.underlying26 rfl HZR.out ?_) | (refine wpListIn_store_row rfl 26 (.tmp 10) (.tmp 46) rfl (w.heap.size + 1 + 1) _ rfl rfl 26 _ HI.out.1 HZR.out rfl HOR.out ?_))
    have hB2 : Blk (W.setRow (w.heap.size + 1 + 1) (bc r).toArray) (w.heap.size + 1 + 1) 26 (bc r) := HI.out.1.row _
    have hK2 : (W.setRow (w.heap.size + 1 + 1) (bc r).toArray).heap[D]? = some (.deferred (some [])) := (setRow_other W _ D _ (by omega)).trans HI.out.2.2
    have hB3 : Blk ((W.setRow (w.heap.size + 1 + 1) (bc r).toArray).putObj D (.deferred none)) (w.heap.size + 1 + 1) 26 (bc r) := (World.putObj_heap_other (by omega)).trans hB2
    exact leaves_one _ D _ (.tuple #[dv r, .int .i64 0]) hK2 (results_cell_row_tmp rfl _ _ (w.heap.size + 1 + 1) 26 _ (0, 0) _ _ rfl rfl hB3 Tryd.underlying26 rfl HZR.out) ⟨rfl, below_put (below_setRow HI.out.2.1 (by omega) _) (by omega) _⟩
  case stop =>
    rintro D c pre W _ _ h _
    exact h.elim
end Go.Proofs.YthjfeodclphgaaaDoor

/- climb, whatever comes; Climb. -/
namespace Go.Proofs.YthjfeodclphgaaaDoor
open Go.RowKit Go.Shelf
theorem climb_any (n i : Int) (LA : Option Addr) (lc : Nat) (leaf : List UInt8) (A : Option Addr) (m c : Nat) (p : List (List UInt8)) (w : World) (hT : Tab w) (hl : Sb w LA leaf) (hnil : LA = none → lc = 0) (hll : leaf.length ≤ 10000000) (hp : DSrc w A m c p) :
    Calls Tryd.prog 71 #[hV, .int .i64 n, .int .i64 i, .slice LA leaf.length lc, .slice A m c] w fun e w' => e = .returned (.tuple #[dv (climbAns n i leaf p).1, .int .i64 (climbAns n i leaf p).2]) ∧ Below w.heap.size w w' := by
  cases h : leafB n i with
  | false =>
    rw [climbAns_no h]
    exact climb_no n i LA leaf.length lc A m c w h
  | true =>
    obtain ⟨h1, h2, h3, h4⟩ := leafB_nat h
    by_cases hm : p.length = lenR n.toNat i.toNat
    · rw [climbAns_yes h hm]
      conv in (Calls _ _ _ _ _) => rw [h1, h2]
      exact climb_yes n.toNat i.toNat LA lc leaf A m c p w hT h3 h4 hl hnil hll hp (by rw [hp.len, hm]) _ _ _ rfl rfl rfl
    · rw [climbAns_len h hm]
      conv in (Calls _ _ _ _ _) => rw [h1, h2]
      exact climb_len n.toNat i.toNat LA leaf.length lc A m c w h3 h4 (Nat.le_trans hp.le hp.top) (by rw [hp.len]; exact hm)
set_option maxRecDepth 20000 in
set_option maxHeartbeats 1600000 in
theorem Climb_any (n i : Int) (LA : Option Addr) (lc : Nat) (leaf : List UInt8) (A : Option Addr) (m c : Nat) (p : List (List UInt8)) (w : World) (hT : Tab w) (hl : Sb w LA leaf) (hnil : LA = none → lc = 0) (hll : leaf.length ≤ 10000000) (hp : DSrc w A m c p) :
    Calls Tryd.prog 41 #[.int .i64 n, .int .i64 i, .slice LA leaf.length lc, .slice A m c] w fun e w' => e = .returned (.tuple #[dv (climbAns n i leaf p).1, .int .i64 (climbAns n i leaf p).2]) ∧ Below w.heap.size w w' := by
  have HB := hide (below_new w (.cells (List.replicate 32 (.int .u8 0)).toArray 26))
  have HR := hide (Blk.new w 26 (List.replicate 32 (.int .u8 0)))
  have HC := hide (climb_any n i LA lc leaf A m c p (w.alloc (.cells (List.replicate 32 (.int .u8 0)).toArray 26)) (hT.below HB.out) (hl.below HB.out) hnil hll (hp.below HB.out))
  have H32 := hide (climbAns_32 n i leaf p)
  clear hT hl hnil hp
  revert HC H32
  generalize climbAns n i leaf p = r
  intro HC H32
  obtain ⟨d, e0⟩ := r
  simp only at HC H32
  have HS := hide (dv_size _ H32.out)
  have HZ := hide (show (Tryd.prog.info? 26).map (·.size) = some ((bc d).toArray).size by rw [HS.out]; exact Tryd.size26)
  have HO := hide (all_oneCell_toArray (bc_one d))
  go_enter Tryd.func41, Tryd.ntmps41
  go_wp2_with fail
  refine HC.out.mono ?_
  rintro e w2 ⟨rfl, h5⟩
  have HR2 := hide (HR.out.below h5 HR.out.lt)
  have HB2 := hide (below_one HB.out h5)
  clear h5 HC
  go_wp2_with (refine wpList_store_row rfl 26 (.tmp 8) (.tmp 15) rfl w.heap.size (bc d).toArray rfl rfl 26 _ HR2.out HZ.out (by rw [HS.out]; rfl) HO.out ?_)
  refine bodyPost_ret (v := .tuple #[dv d, .int .i64 e0]) (results_cell_row_tmp rfl _ _ w.heap.size 26 _ (0, 0) _ _ rfl rfl (setRow_heap _ _ _ _ _ _ HR2.out) Tryd.underlying26 rfl HZ.out) rfl ⟨rfl, below_setRow HB2.out (Nat.le_refl _) _⟩
end Go.Proofs.YthjfeodclphgaaaDoor
