/- The law for loops over functions that make what they yield, where the assignment lays memory; what a loop around such a loop leaves. -/
import Derived.Test.YtgigccgklahddaaPcs
namespace Go.Proofs.Ytgigccgklahddaa
open Go.RowKit

section
variable {α : Type} {F : Fence} {n : Nat} {P : Program}
theorem wp_rangeR2 {g : Operand} {ps : Array Tmp} {assign body : Code} {Q : Exit → Act → World → Prop} {a : Act} {w : World}
    (hro : F.round = none) (h1 : 1 ≤ n) {gf : Nat} {lb : Array Value} (hg : a.eval g = .func (.func gf) #[] lb) (hFg : F.fn gf) (eg : ∀ args w, (callFunc gf args).run P w = .ok (.enter gf args) w)
    {enc : α → Array Value} {R : α → World → Prop} {Kp : World → World → Prop} {S : List α → Prop} {N : Nat} {w0 : World} (hseq : Gives F (n - 1) P gf lb enc R Kp S N w0)
    (hKt : ∀ {A B C : World}, Kp A B → Kp B C → Kp A C) (hKb : ∀ (W : World) (l : Nat) (o o' : Obj), w.heap.size ≤ l → W.heap[l]? = some o → o.isCells = false → Kp W (W.putObj l o')) (hb0 : Below w0.heap.size w0 w) (hps : ∀ x, (enc x).size = ps.size)
    (I : List α → World → Prop) (hI : OwnFrom w.heap.size I) (h0 : I [] w) (Ax : List α → α → Act → World → Prop) (hAx : ∀ pre x a', OwnFrom w.heap.size (fun (_ : Unit) W => Ax pre x a' W))
    (hassign : ∀ (l : Nat) (pre : List α) (x : α) (W : World) (K : Act → World → Prop), I pre W → R x W → (∀ a' W', KeepsFrom w.heap.size W W' → Kp W W' → Ax pre x a' W' → K a' W') →
      assign.wpIn (F.inRound l) (n - 1 - 1) P (Exit.then K (fun _ _ _ => False)) { tmps := (ps.zip (enc x)).foldl (fun t (p, v) => t.setIfInBounds p v) a.tmps, defers := [] } W)
    (hbody : ∀ (l : Nat) (pre : List α) (x : α) (a' : Act) (W : World), Ax pre x a' W → pre.length < N → body.wpIn (F.inRound l) (n - 1 - 1) P (fun e _ W' => e = .normal ∧ KeepsFrom w.heap.size W W' ∧ Kp W W' ∧ I (pre ++ [x]) W') a' W)
    (hdone : ∀ (D : Nat) (xs : List α) (W : World), w.heap.size ≤ D → S xs → I xs W → W.heap[D]? = some (.deferred (some [])) → Q .normal { a with defers := { target := .collected D, args := #[] } :: a.defers } W) :
    (Code.rangeFunc g ps assign body).wpIn F n P Q a w := by
  refine wpIn_rangeFunc fun fn hfn => ?_
  rw [hro]
  let rc : LoopState → Loop := fun st => { state := st, pending := none, fn := fn, tmps := a.tmps, params := ps, assign := assign, body := body, defers := w.heap.size }
  let W1 := (w.alloc (.deferred (some []))).alloc (.loop (rc .ready))
  have hs1 : W1.heap.size = w.heap.size + 2 := by simp [W1]
  have bk1 : W1.heap[w.heap.size + 1]? = some (.loop (rc .ready)) := by
    have := World.alloc_heap_new (w.alloc (.deferred (some []))) (.loop (rc .ready))
    rwa [World.size_alloc] at this
  have bk2 : W1.heap[w.heap.size]? = some (.deferred (some [])) := (Below.heap_alloc _ _ _ (by simp)).trans (World.alloc_heap_new w _)
  refine ⟨w.heap.size + 1, [{ target := .collected w.heap.size, args := #[] }], W1, { target := .fn (.func gf) lb, args := #[.func (.yield (w.heap.size + 1)) #[] #[]] }, W1, gf, #[.func (.yield (w.heap.size + 1)) #[] #[]] ++ lb, W1, run_enterLoop_outer _ _ _ _ _, ?_, ?_, ?_, fun _ => h1, ?_⟩
  · simp only [resolve, hg]
    simp [go_sem]
  · intro f' hf'
    simp [Target.leads] at hf'
    subst hf'
    exact hFg
  · simp only [invoke, eg]
  refine (hseq (w.heap.size + 1) (fun pre W => I pre W ∧ W.heap[w.heap.size + 1]? = some (.loop (rc .ready)) ∧ W.heap[w.heap.size]? = some (.deferred (some []))) W1 ?_ ?_ ?_ ⟨hI.alloc _ (hI.alloc _ h0), bk1, bk2⟩).mono ?_
  · exact hb0.trans ((((Below.refl _ w).alloc (Nat.le_refl _) _).alloc (by simp) _).mono hb0.size)
  · intro s A B row ⟨q1, q2, q3⟩ hgr hr
    refine ⟨hI s A B row q1 hgr fun r e => ?_, (grownBy_keeps hgr (fun r e => (hr r e).2) q2 rfl).trans q2, (grownBy_keeps hgr (fun r e => (hr r e).2) q3 rfl).trans q3⟩
    obtain ⟨hB, o, ho, hw⟩ := hr r e
    exact ⟨by omega, o, ho, Obj.not_cells_of_walk hw⟩
  · intro pre x W ⟨hi, hl, hk⟩ hx hlen
    refine ⟨fn, _, assign, body, run_yield hl (hps x), roundIn_of_wpIn hfn (hassign _ pre x W _ hi hx fun a' W' hkf0 hkp0 hax => ?_)⟩
    have hl0 := hkf0.same _ _ (by omega) hl rfl
    have hk0 := hkf0.same _ _ (Nat.le_refl _) hk rfl
    have hsz : w.heap.size + 1 < W'.heap.size := (Array.getElem?_eq_some_iff.1 hl0).1
    refine ⟨_, run_beginRound hl0 rfl, ?_⟩
    have hl2 : (W'.putObj (w.heap.size + 1) (.loop (rc .busy))).heap[w.heap.size + 1]? = some (.loop (rc .busy)) := World.putObj_heap_same hsz
    have hk2 : (W'.putObj (w.heap.size + 1) (.loop (rc .busy))).heap[w.heap.size]? = some (.deferred (some [])) := (World.putObj_heap_other (by omega)).trans hk0
    refine wpIn_mono (hbody _ pre x a' _ ((hAx pre x a').putObj (s := ()) _ hax (by omega) hl0 rfl) hlen) ?_
    rintro e a3 W3 ⟨rfl, hkf, hkp, hi3⟩
    have hl3 := hkf.same _ _ (by omega) hl2 rfl
    have hk3 := hkf.same _ _ (Nat.le_refl _) hk2 rfl
    exact ⟨_, _, run_endRound (P := P) none hl3, rfl, ⟨hI.putObj _ hi3 (by omega) hl3 rfl, World.putObj_heap_same (Array.getElem?_eq_some_iff.1 hl3).1, (World.putObj_heap_other (by omega)).trans hk3⟩, hKt hkp0 (hKt (hKt (hKb _ _ _ _ (by omega) hl0 rfl) hkp) (hKb _ _ _ _ (by omega) hl3 rfl))⟩
  · rintro e W2 ⟨⟨v, rfl⟩, xs, hS, hi, hl, hk⟩
    refine ⟨none, _, run_endLoop (P := P) hl (by simp [rc]), ?_⟩
    exact hdone _ xs _ (Nat.le_refl _) hS (hI.putObj _ hi (by omega) hl rfl) ((World.putObj_heap_other (by omega)).trans hk)
end

/-- What loops over functions have left: one mark each, the newest first. -/
def Marks (B : Nat) : List Deferred → World → Nat → Prop
  | [], _, _ => True
  | d :: ds, W, top => ∃ r, d.target = .collected r ∧ B ≤ r ∧ r < top ∧ W.heap[r]? = some (.deferred (some [])) ∧ Marks B ds W r
theorem Marks.keep {B : Nat} {W W' : World} : ∀ {ds : List Deferred} {top : Nat}, Marks B ds W top → (∀ i, B ≤ i → i < top → W.heap[i]? = some (.deferred (some [])) → W'.heap[i]? = some (.deferred (some []))) → Marks B ds W' top
  | [], _, _, _ => trivial
  | _ :: _, _, ⟨r, h1, h2, h3, h4, h5⟩, h => ⟨r, h1, h2, h3, h r h2 h3 h4, h5.keep fun i hi hj => h i hi (Nat.lt_trans hj h3)⟩
theorem Marks.up {B : Nat} {W : World} : ∀ {ds : List Deferred} {top top' : Nat}, Marks B ds W top → top ≤ top' → Marks B ds W top'
  | [], _, _, _, _ => trivial
  | _ :: _, _, _, ⟨r, h1, h2, h3, h4, h5⟩, h => ⟨r, h1, h2, Nat.lt_of_lt_of_le h3 h, h4, h5⟩
theorem marks_leave {F : Fence} {n : Nat} {P : Program} {fn : Func} {tmps : Array Value} {R : Ending → World → Prop} {u : FrameMode} (hu : u ≠ .run) {B : Nat} {J : Unit → World → Prop} (hJ : OwnFrom B J) (hend : ∀ W, J () W → LeavesIn F n P fn tmps R [] u W) :
    ∀ (ds : List Deferred) (W : World) (top : Nat), Marks B ds W top → J () W → LeavesInM F n P fn tmps R ds u W
  | [], W, _, _, hj => hend W hj
  | d :: ds, W, top, ⟨r, h1, h2, h3, h4, h5⟩, hj => by
    refine ⟨hu, .inl ⟨r, _, h1, run_takeDeferred h4, ?_⟩⟩
    exact marks_leave hu hJ hend ds _ r (h5.keep fun i _ hi h => (World.putObj_heap_other (by omega)).trans h) (hJ.putObj (s := ()) _ hj h2 h4 rfl)

section
variable {n0 B : Nat}
theorem cels_own {β : Type} (A : Option Addr) (vs : List Value) : OwnFrom B (fun (_ : β) W => Cels n0 W A vs) := fun _ X Y row h hg hr hne => by
  obtain ⟨b, o, e, hlt, hk, hc⟩ := h hne
  have hc0 := hc 0 (List.length_pos_iff.2 hne)
  have hX : Y.heap[b]? = X.heap[b]? := hg.block b hlt fun h => by
    obtain ⟨_, ob, ho, hw⟩ := hr b h.symm
    unfold World.cell? at hc0
    simp only [ho] at hc0
    cases ob <;> simp [Obj.isCells] at hc0 hw
  refine ⟨b, o, e, Nat.lt_of_lt_of_le hlt hg.size, hk.imp_right fun ⟨T, cs, h1, h2⟩ => ⟨T, cs, hX.trans h1, h2⟩, fun i hi => (World.cell?_of_block (a := ⟨b, o + i, none⟩) hX).trans (hc i hi)⟩
theorem sec_own {β : Type} (s : Sec) : OwnFrom B (fun (_ : β) W => s.In n0 W) := fun q X Y row h hg hr => ⟨cels_own (β := β) s.A (bs s.l) q X Y row h.cels hg hr, h.le, h.cap, h.nil⟩
theorem dsk_own {β : Type} (d : Dsk) : OwnFrom B (fun (_ : β) W => d.In n0 W) := fun q X Y row h hg hr =>
  ⟨⟨cels_own (β := β) _ _ q X Y row h.sec.cels hg hr, fun s hs => sec_own (β := β) s q X Y row (h.sec.each s hs) hg hr, h.sec.le, h.sec.top, h.sec.nil⟩, ⟨cels_own (β := β) _ _ q X Y row h.pen.cels hg hr, fun p hp => ⟨sec_own (β := β) p.s q X Y row (h.pen.each p hp).1 hg hr, (h.pen.each p hp).2⟩, h.pen.le, h.pen.top, h.pen.nil⟩, h.left⟩
theorem marks_own {β : Type} (b : Nat) (ds : List Deferred) (top : Nat) (h : top ≤ B) : OwnFrom B (fun (_ : β) W => Marks b ds W top) := fun _ X Y row hs hg hr => hs.keep fun i _ hi hx => (hg.block i (Array.getElem?_eq_some_iff.1 hx).1 fun e => by
  obtain ⟨h1, _⟩ := hr i e.symm
  omega).trans hx
end
end Go.Proofs.Ytgigccgklahddaa
