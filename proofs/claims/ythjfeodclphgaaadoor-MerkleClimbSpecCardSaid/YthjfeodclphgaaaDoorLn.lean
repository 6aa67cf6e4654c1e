/- A loop over a function: the round is told which element comes behind those that came; it may leave the loop; what the assignment lays is said by Ax. Nothing here speaks of a program. -/
import Derived.Test.YthjfeodclphgaaaDoorRt
namespace Go.Proofs.YthjfeodclphgaaaDoor
open Go.RowKit Go.Shelf
section
variable {α : Type} {F : Fence} {n : Nat} {P : Program}
/-- What a function owes that yields elements: R says which element may come behind which. -/
def GivesS (F : Fence) (n : Nat) (P : Program) (gf : Nat) (lb : Array Value) (enc : α → Array Value) (R : List α → α → Prop) (S Sp : List α → Prop) (w0 : World) : Prop :=
  ∀ (l : Nat) (J Jx : List α → World → Prop) (W : World), Below w0.heap.size w0 W → AbidesFrom W.heap.size J → AbidesFrom W.heap.size Jx →
    (∀ pre x W1, J pre W1 → R pre x → YieldAt F (n - 1) P l (enc x) W1 fun e W' => (e = .returned (.bool true) ∧ J (pre ++ [x]) W') ∨ (e = .returned (.bool false) ∧ Jx (pre ++ [x]) W')) → J [] W →
    CallsIn F n P gf (#[.func (.yield l) #[] #[]] ++ lb) W fun e W' => (∃ v, e = .returned v) ∧ ((∃ xs, S xs ∧ J xs W') ∨ (∃ pre, Sp pre ∧ Jx pre W'))
/-- How a round is left: at its end, or by a jump out of the loop. -/
def LeftS (B : Nat) (I : List α → World → Prop) (Ix : Code → List α → World → Prop) (xs : List α) (W : World) : Exit → Act → World → Prop
  | .normal, _, W' => KeepsFrom B W W' ∧ I xs W'
  | .exit id, _, W' => KeepsFrom B W W' ∧ Ix (.exit id) xs W'
  | _, _, _ => False
theorem wp_rangeS {g : Operand} {ps : Array Tmp} {assign body : Code} {Q : Exit → Act → World → Prop} {a : Act} {w : World}
    (hro : F.round = none) (h1 : 1 ≤ n) {gf : Nat} {lb : Array Value} (hg : a.eval g = .func (.func gf) #[] lb) (hFg : F.fn gf) (eg : ∀ args w, (callFunc gf args).run P w = .ok (.enter gf args) w)
    {enc : α → Array Value} {R : List α → α → Prop} {S Sp : List α → Prop} {w0 : World} (hseq : GivesS F (n - 1) P gf lb enc R S Sp w0) (hb0 : Below w0.heap.size w0 w) (hps : ∀ x, (enc x).size = ps.size)
    (I : List α → World → Prop) (Ix : Code → List α → World → Prop) (hI : OwnFrom w.heap.size I) (hIx : ∀ c, OwnFrom w.heap.size (Ix c)) (h0 : I [] w) (Ax : List α → α → Act → World → Prop) (hAx : ∀ pre x a', OwnFrom w.heap.size (fun (_ : Unit) W => Ax pre x a' W))
    (hassign : ∀ (l : Nat) (pre : List α) (x : α) (W : World) (K : Act → World → Prop), I pre W → (∀ a' W', KeepsFrom w.heap.size W W' → Ax pre x a' W' → K a' W') →
      assign.wpIn (F.inRound l) (n - 1 - 1) P (Exit.then K (fun _ _ _ => False)) { tmps := (ps.zip (enc x)).foldl (fun t (p, v) => t.setIfInBounds p v) a.tmps, defers := [] } W)
    (hbody : ∀ (l : Nat) (pre : List α) (x : α) (a' : Act) (W : World), R pre x → Ax pre x a' W → body.wpIn (F.inRound l) (n - 1 - 1) P (LeftS w.heap.size I Ix (pre ++ [x]) W) a' W)
    (hdone : ∀ (D : Nat) (xs : List α) (W : World), w.heap.size ≤ D → S xs → I xs W → W.heap[D]? = some (.deferred (some [])) → Q .normal { a with defers := { target := .collected D, args := #[] } :: a.defers } W)
    (hstop : ∀ (D : Nat) (c : Code) (pre : List α) (W : World), w.heap.size ≤ D → Sp pre → Ix c pre W → W.heap[D]? = some (.deferred (some [])) → c.wpIn F n P Q { a with defers := { target := .collected D, args := #[] } :: a.defers } W) :
    (Code.rangeFunc g ps assign body).wpIn F n P Q a w := by
  refine wpIn_rangeFunc fun fn hfn => ?_
  rw [hro]
  let rc : LoopState → Option Code → Loop := fun st pe => { state := st, pending := pe, fn := fn, tmps := a.tmps, params := ps, assign := assign, body := body, defers := w.heap.size }
  let W1 := (w.alloc (.deferred (some []))).alloc (.loop (rc .ready none))
  have hs1 : W1.heap.size = w.heap.size + 2 := by simp [W1]
  have bk1 : W1.heap[w.heap.size + 1]? = some (.loop (rc .ready none)) := by
    have := World.alloc_heap_new (w.alloc (.deferred (some []))) (.loop (rc .ready none))
    rwa [World.size_alloc] at this
  have bk2 : W1.heap[w.heap.size]? = some (.deferred (some [])) := (Below.heap_alloc _ _ _ (by simp)).trans (World.alloc_heap_new w _)
  refine ⟨w.heap.size + 1, [{ target := .collected w.heap.size, args := #[] }], W1, { target := .fn (.func gf) lb, args := #[.func (.yield (w.heap.size + 1)) #[] #[]] }, W1, gf, #[.func (.yield (w.heap.size + 1)) #[] #[]] ++ lb, W1, run_enterLoop_outer _ _ _ _ _, ?_, ?_, ?_, fun _ => h1, ?_⟩
  · simp only [resolve, hg]
    simp [go_sem]
  · intro f' hf'
    simp [Target.leads] at hf'
    subst hf'
    exact hFg
  · simp only [invoke, eg]
  have hnw : ∀ {A : World} {row : Option Nat}, (∀ r, row = some r → W1.heap.size ≤ r ∧ ∃ o : Obj, A.heap[r]? = some o ∧ o.isWalk = true) → ∀ r, row = some r → w.heap.size ≤ r ∧ ∃ o : Obj, A.heap[r]? = some o ∧ o.isCells = false := fun hr r e => by
    obtain ⟨hB, o, ho, hw⟩ := hr r e
    exact ⟨by omega, o, ho, Obj.not_cells_of_walk hw⟩
  refine (hseq (w.heap.size + 1) (fun pre W => I pre W ∧ W.heap[w.heap.size + 1]? = some (.loop (rc .ready none)) ∧ W.heap[w.heap.size]? = some (.deferred (some [])))
    (fun pre W => ∃ c, Ix c pre W ∧ W.heap[w.heap.size + 1]? = some (.loop (rc .done (some c))) ∧ W.heap[w.heap.size]? = some (.deferred (some []))) W1 ?_ ?_ ?_ ?_ ⟨hI.alloc _ (hI.alloc _ h0), bk1, bk2⟩).mono ?_
  · exact hb0.trans ((((Below.refl _ w).alloc (Nat.le_refl _) _).alloc (by simp) _).mono hb0.size)
  · intro s A B row ⟨q1, q2, q3⟩ hgr hr
    exact ⟨hI s A B row q1 hgr (hnw hr), (grownBy_keeps hgr (fun r e => (hr r e).2) q2 rfl).trans q2, (grownBy_keeps hgr (fun r e => (hr r e).2) q3 rfl).trans q3⟩
  · intro s A B row ⟨c, q1, q2, q3⟩ hgr hr
    exact ⟨c, hIx c s A B row q1 hgr (hnw hr), (grownBy_keeps hgr (fun r e => (hr r e).2) q2 rfl).trans q2, (grownBy_keeps hgr (fun r e => (hr r e).2) q3 rfl).trans q3⟩
  · intro pre x W ⟨hi, hl, hk⟩ hx
    refine ⟨fn, _, assign, body, run_yield hl (hps x), roundIn_of_wpIn hfn (hassign _ pre x W _ hi fun a' W' hkf0 hax => ?_)⟩
    have hl0 := hkf0.same _ _ (by omega) hl rfl
    have hk0 := hkf0.same _ _ (Nat.le_refl _) hk rfl
    have hsz : w.heap.size + 1 < W'.heap.size := (Array.getElem?_eq_some_iff.1 hl0).1
    refine ⟨_, run_beginRound hl0 rfl, ?_⟩
    have hl2 : (W'.putObj (w.heap.size + 1) (.loop (rc .busy none))).heap[w.heap.size + 1]? = some (.loop (rc .busy none)) := World.putObj_heap_same hsz
    have hk2 : (W'.putObj (w.heap.size + 1) (.loop (rc .busy none))).heap[w.heap.size]? = some (.deferred (some [])) := (World.putObj_heap_other (by omega)).trans hk0
    refine wpIn_mono (hbody _ pre x a' _ hx ((hAx pre x a').putObj (s := ()) _ hax (by omega) hl0 rfl)) ?_
    intro e a3 W3 hp
    cases e with
    | normal =>
      obtain ⟨hkf, hi3⟩ := hp
      have hl3 := hkf.same _ _ (by omega) hl2 rfl
      have hk3 := hkf.same _ _ (Nat.le_refl _) hk2 rfl
      exact ⟨_, _, run_endRound (P := P) none hl3, .inl ⟨rfl, hI.putObj _ hi3 (by omega) hl3 rfl, World.putObj_heap_same (Array.getElem?_eq_some_iff.1 hl3).1, (World.putObj_heap_other (by omega)).trans hk3⟩⟩
    | exit id =>
      obtain ⟨hkf, hi3⟩ := hp
      have hl3 := hkf.same _ _ (by omega) hl2 rfl
      have hk3 := hkf.same _ _ (Nat.le_refl _) hk2 rfl
      exact ⟨_, _, run_endRound (P := P) (some (.exit id)) hl3, .inr ⟨rfl, _, (hIx _).putObj _ hi3 (by omega) hl3 rfl, World.putObj_heap_same (Array.getElem?_eq_some_iff.1 hl3).1, (World.putObj_heap_other (by omega)).trans hk3⟩⟩
    | ret => exact hp.elim
    | goto t => exact hp.elim
    | panic ch => exact hp.elim
    | outgrown => exact hp.elim
  · rintro e W2 ⟨⟨v, rfl⟩, ⟨xs, hS, hi, hl, hk⟩ | ⟨pre, hS, c, hi, hl, hk⟩⟩
    · exact ⟨none, _, run_endLoop (P := P) hl (by simp [rc]), hdone _ xs _ (Nat.le_refl _) hS (hI.putObj _ hi (by omega) hl rfl) ((World.putObj_heap_other (by omega)).trans hk)⟩
    · exact ⟨some c, _, run_endLoop (P := P) hl (by simp [rc]), hstop _ c pre _ (Nat.le_refl _) hS ((hIx c).putObj _ hi (by omega) hl rfl) ((World.putObj_heap_other (by omega)).trans hk)⟩
end
end Go.Proofs.YthjfeodclphgaaaDoor

/- steps: the steps of a way. -/
namespace Go.Proofs.YthjfeodclphgaaaDoor
open Go.RowKit Go.Shelf
attribute [local go_sem] Oper.semAt_some
/-- The steps of the way of the leaf i of n. -/
def wayL (n i : Nat) : List (Nat × Bool) := if _h : n ≤ 1 then [] else (i, aloneB n i) :: wayL ((n + 1) / 2) (i / 2)
termination_by n
decreasing_by omega
theorem wayL_one {n i : Nat} (h : n ≤ 1) : wayL n i = [] := by unfold wayL; rw [dif_pos h]
theorem wayL_more {n i : Nat} (h : 1 < n) : wayL n i = (i, aloneB n i) :: wayL ((n + 1) / 2) (i / 2) := by conv => lhs; unfold wayL; rw [dif_neg (by omega)]
/-- Which step comes behind which. -/
def WyR (n i : Nat) (pre : List (Nat × Bool)) (x : Nat × Bool) : Prop := ∃ rest, wayL n i = pre ++ x :: rest
def encS (x : Nat × Bool) : Array Value := #[.agg #[.int .i64 (x.1 : Nat), .bool x.2]]
theorem abides_below {β : Type} {B : Nat} {J : β → World → Prop} (h : AbidesFrom B J) {s : β} {W W' : World} (hJ : J s W) (hb : Below W.heap.size W W') : J s W' :=
  h s W W' none hJ ⟨hb.os, hb.tape, hb.output, hb.size, fun i hi _ => hb.block i hi⟩ (fun r e => by cases e)
theorem steps_any (n i : Int) (w : World) :
    Calls Tryd.prog 66 #[.int .i64 n, .int .i64 i] w fun e w' => e = .returned (.func (.func 84) #[] #[.pointer (some ⟨w.heap.size, 0, none⟩), .pointer (some ⟨w.heap.size + 1, 0, none⟩)]) ∧ w' = (w.alloc (.cells #[.int .i64 n] 3)).alloc (.cells #[.int .i64 i] 3) := by
  go_enter Tryd.func66, Tryd.ntmps66
  go_wp2_with fail
  go_ret
  exact ⟨rfl, rfl⟩
set_option maxRecDepth 100000 in
set_option maxHeartbeats 1000000 in
theorem steps_gives (k : Nat) (hk : 1 ≤ k) (B1 B2 n i : Nat) (hn : n ≤ 65536) (hi : i < n) (w : World) (hw : B1 < w.heap.size ∧ B2 < w.heap.size) (h1 : w.cell? ⟨B1, 0, none⟩ = some (.int .i64 (n : Nat))) (h2 : w.cell? ⟨B2, 0, none⟩ = some (.int .i64 (i : Nat))) :
    GivesS Fence.wide k Tryd.prog 84 #[.pointer (some ⟨B1, 0, none⟩), .pointer (some ⟨B2, 0, none⟩)] encS (WyR n i) (fun ys => ys = wayL n i) (fun pre => ∃ m, pre = (wayL n i).take m) w := fun l J Jx W hW hJ _ hY h0 => by
  have c1 := (hW.cell (p := ⟨B1, 0, none⟩) hw.1).trans h1
  have c2 := (hW.cell (p := ⟨B2, 0, none⟩) hw.2).trans h2
  have HJ := hide hJ
  have HY := hide hY
  have H0 := hide h0
  clear hW hJ hY h0 h1 h2 hw
  refine callsIn_of_wp Tryd.func84 rfl trivial ?_ rfl
  simp only [Tryd.ntmps84, List.size_toArray, List.length_cons, List.length_nil, Nat.reduceAdd, Nat.reduceSub, Array.replicate_succ, Array.replicate_zero, List.push_toArray, List.append_toArray, List.nil_append, List.cons_append]
  gi_wp2
  gi_quiet (fail)
  have HJ0 := hide (show J [] (W.drewN nq) from HJ.out _ W _ none H0.out ⟨rfl, rfl, rfl, Nat.le_refl _, fun _ _ _ => rfl⟩ (fun r e => by cases e))
  clear c1 c2 H0
  generalize W.drewN nq = W1 at *
  gi_wp2
  gi_loopw [4, 5] (fun s a wr => ∃ (m q : Nat) (pre : List (Nat × Bool)), s = .int .i64 (m : Nat) ∧ a = .int .i64 (q : Nat) ∧ 1 ≤ m ∧ m ≤ 65536 ∧ q < m ∧ Hid (wayL n i = pre ++ wayL m q) ∧ Hid (J pre wr)) (fun s _ _ => (intOf s).toNat)
  case atStart => exact ⟨n, i, [], rfl, rfl, by omega, hn, hi, hide (by simp), HJ0⟩
  case round =>
    obtain ⟨m, q, pre, rfl, rfl, hm, hm2, hq, HWY, HJP⟩ := hrel
    by_cases hlt : 1 < m
    · have hlt' : (1 : Int) < (m : Int) := by omega
      have HB1 := hide (below_new wr (.cells #[.int .i64 (q : Nat), .bool false] 82))
      have HK1 := hide (Blk.new wr 82 [.int .i64 (q : Nat), .bool false])
      have HNB := hide (nb_any q false (wr.alloc (.cells #[.int .i64 (q : Nat), .bool false] 82)) (by omega))
      by_cases hal : m ≤ nb q
      · have hal' : (m : Int) ≤ (nb q : Int) := by omega
        have HAL := hide (show aloneB m q = true from decide_eq_true hal)
        gi_wp2
        refine ⟨trivial, ?_⟩
        refine (callsIn_wide.2 HNB.out).mono ?_
        rintro e w5 ⟨rfl, hb⟩
        have HK5 := hide (HK1.out.below hb HK1.out.lt)
        have HB5 := hide (below_one HB1.out hb)
        have f5 := HK5.out.free 1
        have c0 : (w5.setCell ⟨wr.heap.size, 1, none⟩ (.bool true)).cell? ⟨wr.heap.size, 0, none⟩ = some (.int .i64 (q : Nat)) := ((HK5.out.set 1 (.bool true)).cell 0).trans rfl
        have c1 : (w5.setCell ⟨wr.heap.size, 1, none⟩ (.bool true)).cell? ⟨wr.heap.size, 1, none⟩ = some (.bool true) := ((HK5.out.set 1 (.bool true)).cell 1).trans rfl
        have e1 : w5.cell? ⟨wr.heap.size, 1, none⟩ = some (.bool false) := (HK5.out.cell 1).trans rfl
        have HB6 := hide (show Below wr.heap.size wr (w5.setCell ⟨wr.heap.size, 1, none⟩ (.bool true)) from HB5.out.setCell (Nat.le_refl _) _)
        have HJ6 := hide (abides_below HJ.out HJP.out HB6.out)
        have HLN := hide (show WyR n i pre (q, true) from ⟨_, by rw [HWY.out, wayL_more hlt, HAL.out]⟩)
        obtain ⟨fn, tmps, assign, body, hy, hR⟩ := HY.out pre (q, true) (w5.setCell ⟨wr.heap.size, 1, none⟩ (.bool true)) HJ6.out HLN.out
        unfold encS at hy
        dsimp only at hy
        have HR := hide hR
        clear hb hR
        gi_wp2
        refine HR.out.mono ?_
        rintro e W3 (⟨rfl, hJ3⟩ | ⟨rfl, hJx3⟩)
        · have HJ3 := hide hJ3
          clear hJ3 HR HLN HJ6 HB6 HB5 HK5
          gi_wp2
          go_roundw
          case rel => exact ⟨(m + 1) / 2, q / 2, pre ++ [(q, true)], (by first | go_num | (congr 1; omega)), (by first | go_num | (congr 1; omega)), by omega, by omega, by omega, hide (by rw [HWY.out, wayL_more hlt, HAL.out, List.append_assoc]; rfl), HJ3⟩
          case measure => simp [intOf]; omega
        · have HJX := hide (show ∃ r, Jx ((wayL n i).take r) W3 from ⟨pre.length + 1, by rw [HWY.out, wayL_more hlt, HAL.out, List.take_length_add_append]; exact hJx3⟩)
          clear hJx3 HR HLN HJ6 HB6 HB5 HK5
          gi_wp2
          refine bodyPost_ret (results_none rfl _ _ _) rfl ?_
          exact ⟨⟨_, rfl⟩, .inr (by first | exact HJX.out | (obtain ⟨r, h⟩ := HJX.out; exact ⟨_, ⟨r, rfl⟩, h⟩))⟩
      · have hal' : ¬ (m : Int) ≤ (nb q : Int) := by omega
        have HAL := hide (show aloneB m q = false from decide_eq_false hal)
        gi_wp2
        refine ⟨trivial, ?_⟩
        refine (callsIn_wide.2 HNB.out).mono ?_
        rintro e w5 ⟨rfl, hb⟩
        have HK5 := hide (HK1.out.below hb HK1.out.lt)
        have HB5 := hide (below_one HB1.out hb)
        have f5 := HK5.out.free 1
        have c0 : (w5.setCell ⟨wr.heap.size, 1, none⟩ (.bool false)).cell? ⟨wr.heap.size, 0, none⟩ = some (.int .i64 (q : Nat)) := ((HK5.out.set 1 (.bool false)).cell 0).trans rfl
        have c1 : (w5.setCell ⟨wr.heap.size, 1, none⟩ (.bool false)).cell? ⟨wr.heap.size, 1, none⟩ = some (.bool false) := ((HK5.out.set 1 (.bool false)).cell 1).trans rfl
        have e1 : w5.cell? ⟨wr.heap.size, 1, none⟩ = some (.bool false) := (HK5.out.cell 1).trans rfl
        have HB6 := hide (show Below wr.heap.size wr (w5.setCell ⟨wr.heap.size, 1, none⟩ (.bool false)) from HB5.out.setCell (Nat.le_refl _) _)
        have HJ6 := hide (abides_below HJ.out HJP.out HB6.out)
        have HLN := hide (show WyR n i pre (q, false) from ⟨_, by rw [HWY.out, wayL_more hlt, HAL.out]⟩)
        obtain ⟨fn, tmps, assign, body, hy, hR⟩ := HY.out pre (q, false) (w5.setCell ⟨wr.heap.size, 1, none⟩ (.bool false)) HJ6.out HLN.out
        unfold encS at hy
        dsimp only at hy
        have HR := hide hR
        clear hb hR
        gi_wp2
        refine HR.out.mono ?_
        rintro e W3 (⟨rfl, hJ3⟩ | ⟨rfl, hJx3⟩)
        · have HJ3 := hide hJ3
          clear hJ3 HR HLN HJ6 HB6 HB5 HK5
          gi_wp2
          go_roundw
          case rel => exact ⟨(m + 1) / 2, q / 2, pre ++ [(q, false)], (by first | go_num | (congr 1; omega)), (by first | go_num | (congr 1; omega)), by omega, by omega, by omega, hide (by rw [HWY.out, wayL_more hlt, HAL.out, List.append_assoc]; rfl), HJ3⟩
          case measure => simp [intOf]; omega
        · have HJX := hide (show ∃ r, Jx ((wayL n i).take r) W3 from ⟨pre.length + 1, by rw [HWY.out, wayL_more hlt, HAL.out, List.take_length_add_append]; exact hJx3⟩)
          clear hJx3 HR HLN HJ6 HB6 HB5 HK5
          gi_wp2
          refine bodyPost_ret (results_none rfl _ _ _) rfl ?_
          exact ⟨⟨_, rfl⟩, .inr (by first | exact HJX.out | (obtain ⟨r, h⟩ := HJX.out; exact ⟨_, ⟨r, rfl⟩, h⟩))⟩
    · have hlt' : ¬ (1 : Int) < (m : Int) := by omega
      gi_wp2
      go_end0
      exact ⟨⟨_, rfl⟩, .inl (by rw [HWY.out, wayL_one (by omega), List.append_nil]; exact HJP.out)⟩
theorem steps_stops (k : Nat) (hk : 1 ≤ k) (B1 B2 n i : Nat) (hn : n ≤ 65536) (hi : i < n) (w : World) (hw : B1 < w.heap.size ∧ B2 < w.heap.size) (h1 : w.cell? ⟨B1, 0, none⟩ = some (.int .i64 (n : Nat))) (h2 : w.cell? ⟨B2, 0, none⟩ = some (.int .i64 (i : Nat))) :
    SeqStopsK Fence.wide k Tryd.prog 84 #[.pointer (some ⟨B1, 0, none⟩), .pointer (some ⟨B2, 0, none⟩)] encS (fun _ _ => True) (fun ys => ys = wayL n i) (fun pre => ∃ m, pre = (wayL n i).take m) (wayL n i).length w := fun l J Jx W hW hJ hJx hY h0 =>
  steps_gives k hk B1 B2 n i hn hi w hw h1 h2 l J Jx W hW hJ hJx (fun pre x W1 hj ⟨rest, hr⟩ => by
    obtain ⟨fn, tmps, assign, body, hy, hR⟩ := hY pre x W1 hj (by rw [hr]; simp)
    exact ⟨fn, tmps, assign, body, hy, hR.mono fun e W' h => h.imp (fun h => ⟨h.1, h.2.1⟩) id⟩) h0
end Go.Proofs.YthjfeodclphgaaaDoor

/- pathLength. -/
namespace Go.Proofs.YthjfeodclphgaaaDoor
open Go.RowKit Go.Shelf
attribute [local go_sem] Oper.semAt_some
/-- How many steps are not alone. -/
def cntL (l : List (Nat × Bool)) : Nat := (l.filter fun x => !x.2).length
theorem cntL_add (l : List (Nat × Bool)) (x : Nat × Bool) : cntL (l ++ [x]) = cntL l + if x.2 then 0 else 1 := by
  unfold cntL
  rw [List.filter_append, List.length_append]
  cases h : x.2 <;> simp [h]
theorem cntL_le (l : List (Nat × Bool)) : cntL l ≤ l.length := List.length_filter_le _ _
theorem cntL_way : ∀ (k n i : Nat), n ≤ k → cntL (wayL n i) = lenR n i
  | k, n, i, hk => by
    by_cases h1 : n ≤ 1
    · rw [wayL_one h1, lenR_one h1]; rfl
    · cases k with
      | zero => omega
      | succ k =>
        rw [wayL_more (by omega), lenR_more (by omega), ← cntL_way k ((n + 1) / 2) (i / 2) (by omega)]
        unfold cntL
        cases h : aloneB n i <;> simp <;> omega
theorem wayL_len : ∀ (k n i : Nat), n ≤ 2 ^ k → (wayL n i).length ≤ k
  | 0, n, i, h => by rw [wayL_one (by simpa using h)]; exact Nat.le_refl _
  | k + 1, n, i, h => by
    by_cases h1 : n ≤ 1
    · rw [wayL_one h1]; exact Nat.zero_le _
    · rw [wayL_more (by omega), List.length_cons]
      have := wayL_len k ((n + 1) / 2) (i / 2) (by rw [Nat.pow_succ] at h; omega)
      omega
/-- What the loop's variable is, and where it lies. -/
def AxS (B : Nat) (tm : Nat → Act) (x : Nat × Bool) (a : Act) (W : World) : Prop := ∃ X, a = tm X ∧ Blk W X 82 [.int .i64 (x.1 : Nat), .bool x.2] ∧ B ≤ X
theorem axS_own {B B' : Nat} {tm : Nat → Act} (x : Nat × Bool) (a : Act) : OwnFrom B' (fun (_ : Unit) W => AxS B tm x a W) := fun _ X Y row h hg hr => by
  obtain ⟨X0, e, h1, h2⟩ := h
  exact ⟨X0, e, blk_own (β := Unit) (B := B') () X Y row h1 hg hr, h2⟩
def LnI (w : World) (pre : List (Nat × Bool)) (W : World) : Prop := Blk W w.heap.size 3 [.int .i64 (cntL pre : Nat)] ∧ Below w.heap.size w W ∧ w.heap.size + 3 ≤ W.heap.size
theorem lnI_own {w : World} {B : Nat} (hB : w.heap.size + 3 ≤ B) : OwnFrom B (LnI w) := fun pre X Y row h hg hr =>
  ⟨blk_own (β := Unit) (B := B) () X Y row h.1 hg hr, below_own (β := Unit) (B := B) (by omega) () X Y row h.2.1 hg hr, Nat.le_trans h.2.2 hg.size⟩
set_option maxRecDepth 100000 in
set_option maxHeartbeats 1600000 in
theorem pathLength_any (n i : Nat) (w : World) (hn : n ≤ 65536) (hi : i < n) :
    Calls Tryd.prog 89 #[.int .i64 (n : Nat), .int .i64 (i : Nat)] w fun e w' => e = .returned (.int .i64 (lenR n i : Nat)) ∧ Below w.heap.size w w' := by
  have HCW := hide (cntL_way n n i (Nat.le_refl _))
  have HWL := hide (wayL_len 16 n i (by omega))
  refine (callsIn_wide (n := 4)).1 ?_
  refine callsIn_of_wp_marks Tryd.func89 rfl trivial ?_ rfl
  simp only [Tryd.ntmps89, List.size_toArray, List.length_cons, List.length_nil, Nat.reduceAdd, Nat.reduceSub, Array.replicate_succ, Array.replicate_zero, List.push_toArray, List.append_toArray, List.nil_append, List.cons_append]
  gi_wp2_with (refine ⟨trivial, ?_⟩; gi_at_call 66; refine (callsIn_wide.2 (steps_any _ _ _)).mono ?_; rintro e w' ⟨rfl, rfl⟩)
  have HW := hide (show LnI w [] (((w.alloc (.cells #[.int .i64 0] 3)).alloc (.cells #[.int .i64 (n : Nat)] 3)).alloc (.cells #[.int .i64 (i : Nat)] 3)) ∧
      (((w.alloc (.cells #[.int .i64 0] 3)).alloc (.cells #[.int .i64 (n : Nat)] 3)).alloc (.cells #[.int .i64 (i : Nat)] 3)).heap.size = w.heap.size + 3 ∧
      (((w.alloc (.cells #[.int .i64 0] 3)).alloc (.cells #[.int .i64 (n : Nat)] 3)).alloc (.cells #[.int .i64 (i : Nat)] 3)).cell? ⟨w.heap.size + 1, 0, none⟩ = some (.int .i64 (n : Nat)) ∧
      (((w.alloc (.cells #[.int .i64 0] 3)).alloc (.cells #[.int .i64 (n : Nat)] 3)).alloc (.cells #[.int .i64 (i : Nat)] 3)).cell? ⟨w.heap.size + 2, 0, none⟩ = some (.int .i64 (i : Nat)) from by
    have b0 := Blk.new w 3 [.int .i64 0]
    have b1 := Blk.new (w.alloc (.cells #[.int .i64 0] 3)) 3 [.int .i64 (n : Nat)]
    have b2 := Blk.new ((w.alloc (.cells #[.int .i64 0] 3)).alloc (.cells #[.int .i64 (n : Nat)] 3)) 3 [.int .i64 (i : Nat)]
    simp only [World.size_alloc] at b1 b2
    exact ⟨⟨(b0.alloc _).alloc _, ((below_new w _).alloc (by simp) _).alloc (by simp; omega) _, by simp⟩, by simp, ((b1.alloc _).cell 0).trans rfl, (b2.cell 0).trans rfl⟩)
  change Code.wpIn _ _ _ _ _ _ (((w.alloc (.cells #[.int .i64 0] 3)).alloc (.cells #[.int .i64 (n : Nat)] 3)).alloc (.cells #[.int .i64 (i : Nat)] 3))
  generalize ((w.alloc (.cells #[.int .i64 0] 3)).alloc (.cells #[.int .i64 (n : Nat)] 3)).alloc (.cells #[.int .i64 (i : Nat)] 3) = W0 at *
  refine wpIn_rangeFunc_ownH rfl (by omega) (gf := 84) (lb := #[.pointer (some ⟨w.heap.size + 1, 0, none⟩), .pointer (some ⟨w.heap.size + 1 + 1, 0, none⟩)]) rfl trivial (enters_of Tryd.func84 (by kernel_rfl) rfl)
    (steps_stops (4 - 1) (by omega) (w.heap.size + 1) (w.heap.size + 1 + 1) n i hn hi W0 (by rw [HW.out.2.1]; omega) HW.out.2.2.1 HW.out.2.2.2)
    (fun _ _ => trivial) (fun _ _ _ _ _ _ _ _ => trivial) (Below.refl _ _) (fun _ => rfl)
    (LnI w) (fun _ _ _ => False) (lnI_own (by rw [HW.out.2.1]; omega)) (fun _ _ _ _ _ hs _ _ => hs) HW.out.1
    (fun x a W => AxS (w.heap.size + 3) (fun X => { tmps := #[.int .i64 (n : Nat), .int .i64 (i : Nat), undef, undef, .pointer (some ⟨w.heap.size, 0, none⟩), .pointer (some ⟨X, 0, none⟩), .int .i64 (n : Nat), .int .i64 (i : Nat), .func (.func 84) #[] #[.pointer (some ⟨w.heap.size + 1, 0, none⟩), .pointer (some ⟨w.heap.size + 1 + 1, 0, none⟩)], .agg #[.int .i64 (x.1 : Nat), .bool x.2], undef, undef, undef, undef, undef, undef], defers := [] }) x a W) (fun x a' => axS_own x a') ?assign ?body ?done ?stop
  case assign =>
    intro lr pre x W K hI hK
    simp only [encS]
    have HI := hide hI
    have HK := hide hK
    clear hI hK
    gi_wp2
    refine HK.out _ _ ?_ trivial ?_ ?_
    · exact (KeepsOthers.alloc W _).from _
    · exact ⟨HI.out.1.alloc _, HI.out.2.1.alloc HI.out.2.1.size _, by have := HI.out.2.2; simp; omega⟩
    · exact ⟨W.heap.size, rfl, Blk.new W 82 [.int .i64 (x.1 : Nat), .bool x.2], HI.out.2.2⟩
  case body =>
    rintro lr pre x a' W hl hr hI ⟨X, rfl, hX, hX2⟩ hlen
    have HI := hide hI
    have HHX := hide hX
    have c1 : W.cell? ⟨X, 1, none⟩ = some (.bool x.2) := (hX.cell 1).trans rfl
    have c0 : W.cell? ⟨w.heap.size, 0, none⟩ = some (.int .i64 (cntL pre : Nat)) := (hI.1.cell 0).trans rfl
    have f0 : W.frozen? ⟨w.heap.size, 0, none⟩ = false := hI.1.free 0
    have hcl : cntL pre ≤ 100 := by have := cntL_le pre; have := HWL.out; omega
    have HAD := hide (cntL_add pre x)
    clear hI hX hr
    obtain ⟨p, al⟩ := x
    simp only at c1 HHX HAD
    cases al with
    | true =>
      gi_wp2
      refine ⟨KeepsFrom.refl _ _, trivial, ?_⟩
      have e : cntL (pre ++ [(p, true)]) = cntL pre := by rw [HAD.out]; simp
      unfold LnI
      rw [e]
      exact HI.out
    | false =>
      gi_wp2
      refine ⟨(KeepsOthers.setCell _ _ _).from _, trivial, ?_⟩
      have e : cntL (pre ++ [(p, false)]) = cntL pre + 1 := by rw [HAD.out]; simp
      unfold LnI
      rw [e]
      exact ⟨HI.out.1.set 0 _, HI.out.2.1.setCell (Nat.le_refl _) _, by simp [World.setCell]; exact HI.out.2.2⟩
  case done =>
    rintro D ys W hD rfl hI hK
    have hz : w.heap.size < D := by have := HW.out.2.1; omega
    have HI := hide (And.intro hI hK)
    have c1 : W.cell? ⟨w.heap.size, 0, none⟩ = some (.int .i64 (cntL (wayL n i) : Nat)) := (hI.1.cell 0).trans rfl
    have f1 := hI.1.free 0
    rw [HCW.out] at c1
    clear hI hK hD
    gi_wp2
    have hB2 : Blk (W.setCell ⟨w.heap.size, 0, none⟩ (.int .i64 (lenR n i : Nat))) w.heap.size 3 [.int .i64 (lenR n i : Nat)] := HI.out.1.1.set 0 _
    have hK2 : (W.setCell ⟨w.heap.size, 0, none⟩ (.int .i64 (lenR n i : Nat))).heap[D]? = some (.deferred (some [])) := (heap_setCell_other W ⟨w.heap.size, 0, none⟩ D _ (by simp only; omega)).trans HI.out.2
    have hB3 : Blk ((W.setCell ⟨w.heap.size, 0, none⟩ (.int .i64 (lenR n i : Nat))).putObj D (.deferred none)) w.heap.size 3 [.int .i64 (lenR n i : Nat)] := (World.putObj_heap_other (by omega)).trans hB2
    exact leaves_one _ D _ (.int .i64 (lenR n i : Nat)) hK2 (results_one rfl _ _ w.heap.size 3 _ rfl hB3 Tryd.underlying3 rfl) ⟨rfl, below_put (HI.out.1.2.1.setCell (Nat.le_refl _) _) (by omega) _⟩
  case stop =>
    rintro D c pre W _ _ h _
    exact h.elim
end Go.Proofs.YthjfeodclphgaaaDoor
