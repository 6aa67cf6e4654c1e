/- Sum. -/
import Derived.Test.YtalgceplcahgbaaDoorChunk
import Derived.Test.YtalgceplcahgbaaDoorPad
import Derived.RangeFuncNested
import Derived.Laws.EntriesVeiled
namespace Go.Proofs.YtalgceplcahgbaaDoor
open Go.RowKit Go.Shelf

attribute [local go_sem] Oper.semAt_some

set_option maxHeartbeats 400000 in
theorem newState_any (w : World) : Calls Tryd.prog 46 #[] w fun e w' => e = .returned (.pointer (some ⟨w.heap.size, 0, none⟩)) ∧ w' = w.alloc (.cells (uc (words init8)).toArray 90) := by
  go_enter Tryd.func46, Tryd.ntmps46
  go_wp2_with fail
  go_ret
  exact ⟨rfl, rfl⟩

theorem wpListIn_store_row {F : Fence} {n : Nat} {P : Program} {w : World} {ops : Array Oper} {rest : List Oper} {o : Oper} {a : Act} {Q : Exit → Act → World → Prop} (hgd : o.guard = none) (ty : TypeId) (x y : Operand) (ho : o.op = .store ty x y)
    (g : Nat) (cells : Array Value) (hx : a.eval x = .pointer (some ⟨g, 0, none⟩)) (hy : a.eval y = .agg cells)
    (t : TypeId) (old : Array Value) (hg : w.heap[g]? = some (.cells old t (0, 0))) (hi : (P.info? ty).map (·.size) = some cells.size)
    (hold : old.size = cells.size) (h1 : cells.all (·.oneCell') = true)
    (h : wpListIn F n P ops Q rest (a.put o.dst undef) (w.setRow g cells)) : wpListIn F n P ops Q (o :: rest) a w := by
  refine wpListIn_plain hgd fun K hK' => ?_
  unfold Oper.wpIn
  refine ⟨?_, ?_⟩
  · simp [Oper.about, ho]
  · rw [Oper.semAt_plain F _ _ (by rw [ho]; intro c hc'; cases hc')]
    unfold execOp
    simp only [ho, hx, hy, Instr.storeAt, Instr.sureAddr, Sem.run_bind, Sem.run_pure, Result.andThen_ok, run_storeVar_row w g t ty old cells hg hi hold h1]
    exact hK' _ _ h

theorem leaves_two {fn : Func} {R : Ending → World → Prop} {n : Nat} (tmps : Array Value) (D2 D : Nat) (W : World) (v : Value) (h2 : W.heap[D2]? = some (.deferred (some []))) (h1 : W.heap[D]? = some (.deferred (some []))) (hne : D ≠ D2)
    (hr : (results fn tmps).run Tryd.prog ((W.putObj D2 (.deferred none)).putObj D (.deferred none)) = .ok v ((W.putObj D2 (.deferred none)).putObj D (.deferred none))) (hR : R (.returned v) ((W.putObj D2 (.deferred none)).putObj D (.deferred none))) :
    LeavesInM Fence.wide n Tryd.prog fn tmps R [{ target := .collected D2, args := #[] }, { target := .collected D, args := #[] }] .returning W := by
  refine ⟨by simp, .inl ⟨_, _, rfl, run_takeDeferred h2, ⟨by simp, .inl ⟨_, _, rfl, run_takeDeferred ((World.putObj_heap_other hne).trans h1), ?_⟩⟩⟩⟩
  exact ⟨v, hr, hR⟩
theorem below_put {B : Nat} {a w : World} (h : Below B a w) {D : Nat} (hD : B ≤ D) (o : Obj) : Below B a (w.putObj D o) :=
  ⟨h.os, h.tape, h.output, by simpa [World.putObj] using h.size, fun i hi => (World.putObj_heap_other (by omega)).trans (h.block i hi)⟩

theorem padded_is (a : Option Addr) (cap r : Nat) (rest : List UInt8) (n : Nat) (w : World) (hl : Sb w a rest) (hr : rest.length < 64) (hn : n ≤ 1000000000) (h : r = rest.length) :
    Calls Tryd.prog 49 #[.slice a r cap, .int .i64 (n : Nat)] w fun e w' => e = .returned (.slice (some ⟨w.heap.size, 0, none⟩) (pend rest.length) 128) ∧ Blk w' w.heap.size 94 (bc (pl rest n 8)) ∧ Below w.heap.size w w' := by
  subst h
  exact padded_any a cap rest n w hl hr hn

/-- The closure of absorb. -/
abbrev clo (S : Nat) : Value := .func (.func 47) #[.pointer (some ⟨S, 0, none⟩)] #[]

/-- What lies in memory between two rounds. -/
structure SumI (w : World) (n : Nat) (s : S8) (W : World) : Prop where
  res : Blk W w.heap.size 26 (List.replicate 32 (.int .u8 0))
  st : St W (w.heap.size + 1) s
  cl : Blk W (w.heap.size + 2) 66 [clo (w.heap.size + 1)]
  bel : Below w.heap.size w W
  sz : n ≤ W.heap.size

theorem SumI.own {w : World} {n : Nat} {s : S8} {W W' : World} {row : Option Nat} (h : SumI w n s W) (hg : W.grownBy W' row) (hr : ∀ r, row = some r → w.heap.size + 3 ≤ r) : SumI w n s W' := by
  have key : ∀ k, k < w.heap.size + 3 → k < W.heap.size → W'.heap[k]? = W.heap[k]? := fun k hk hl => hg.block k hl (by intro e; have := hr k e.symm; omega)
  refine ⟨(key _ (by omega) h.res.lt).trans h.res, (key _ (by omega) (Blk.lt h.st)).trans h.st, (key _ (by omega) h.cl.lt).trans h.cl, ?_, Nat.le_trans h.sz hg.size⟩
  exact ⟨hg.os.trans h.bel.os, hg.tape.trans h.bel.tape, hg.output.trans h.bel.output, Nat.le_trans h.bel.size hg.size, fun i hi => (key i (by omega) (Nat.lt_of_lt_of_le hi h.bel.size)).trans (h.bel.block i hi)⟩
theorem SumI.step {w : World} {n : Nat} {s s' : S8} {W W' : World} (h : SumI w n s W) (hg : W.grownBy W' (some (w.heap.size + 1))) (hs : St W' (w.heap.size + 1) s') : SumI w n s' W' :=
  ⟨h.res.only hg (by omega), hs, h.cl.only hg (by omega), below_of_only h.bel hg (by omega), Nat.le_trans h.sz hg.size⟩

theorem fold_ups (s : S8) (l : List UInt8) (m k : Nat) (h : k ≤ m) : (ups (m := m) k).foldl (fun s j => comp s (blk l j.1)) s = comps s l k := by
  induction k with
  | zero => simp [ups, comps_zero]
  | succ k ih => rw [ups_succ (by omega), List.foldl_append, ih (by omega), comps_succ]; rfl

theorem chunk_bytes {w W : World} {a : Option Addr} {l : List UInt8} {b off m : Nat} (hl : Sb w a l) (hb : Below w.heap.size w W) (ha : a = some ⟨b, off, none⟩) (hm : 64 * m ≤ l.length) (x : Fin m) : Bs W b (off + 64 * x.1) (blk l x.1) ∧ (blk l x.1).length = 64 := by
  have hx := x.2
  have hlen : (blk l x.1).length = 64 := by unfold blk; simp; omega
  refine ⟨?_, hlen⟩
  obtain ⟨b', o', e, hB⟩ := hl.below hb (by intro e; rw [e] at hm; simp at hm; omega)
  rw [ha] at e
  simp only [Option.some.injEq, Addr.mk.injEq, and_true] at e
  obtain ⟨rfl, rfl⟩ := e
  unfold blk
  exact (hB.drop (64 * x.1)).take 64

set_option maxRecDepth 100000 in
set_option maxHeartbeats 1000000 in
theorem sum_any (a : Option Addr) (cap : Nat) (l : List UInt8) (w : World) (hT : Tab w) (hl : Sb w a l) (hle : l.length ≤ cap) (hcap : cap ≤ 9223372036854775807) (hn : l.length ≤ 100000000) :
    Calls Tryd.prog 18 #[.slice a l.length cap] w fun e w' => e = .returned (dv (sha l)) ∧ Below w.heap.size w w' := by
  have HT := hide hT
  have HL := hide hl
  obtain ⟨m, hm⟩ : ∃ m, l.length / 64 = m := ⟨_, rfl⟩
  have HM : Hid (l.length - l.length % 64 = 64 * m ∧ 64 * m ≤ l.length ∧ m ≤ 1000000000) := hide ⟨by omega, by omega, by omega⟩
  obtain ⟨b, off, hA⟩ : ∃ b off, Chunks a (l.length - l.length % 64) cap b off m := by
    by_cases h0 : m = 0
    · exact ⟨0, 0, .inl ⟨by omega, h0⟩⟩
    · obtain ⟨b, o, e, _⟩ := hl (by intro e; rw [e] at hm; simp at hm; omega)
      exact ⟨b, o, .inr ⟨e, by omega, by omega⟩⟩
  have HA := hide hA
  clear hT hl hm hA
  refine (callsIn_wide (n := 4)).1 ?_
  refine callsIn_of_wp_marks Tryd.func18 rfl trivial ?_ rfl
  simp only [Tryd.ntmps18, List.size_toArray, List.length_cons, List.length_nil, Nat.reduceAdd, Nat.reduceSub, Array.replicate_succ, Array.replicate_zero, List.push_toArray, List.append_toArray, List.nil_append, List.cons_append]
  have hm0 : 0 ≤ (l.length : Int) - (l.length : Int) % 64 ∧ (l.length : Int) - (l.length : Int) % 64 ≤ l.length := by omega
  gi_wp2_with (first | (refine ⟨trivial, ?_⟩; gi_at_call 46; refine (callsIn_wide.2 (newState_any _)).mono ?_; rintro e w' ⟨rfl, rfl⟩) | (refine ⟨trivial, ?_⟩; gi_at_call 48; refine (callsIn_wide.2 (chunk_any _ _ _ _)).mono ?_; rintro e w' ⟨rfl, rfl⟩))
  have HW : Hid (SumI w (w.heap.size + 5) init8 (((((w.alloc (.cells (List.replicate 32 (.int .u8 0)).toArray 26)).alloc (.cells (uc (words init8)).toArray 90)).alloc (.cells [clo (w.heap.size + 1)].toArray 66)).alloc (.cells #[.slice a (l.length - l.length % 64) cap] 22)).alloc (.cells #[.int .i64 64] 3)) ∧
      (((((w.alloc (.cells (List.replicate 32 (.int .u8 0)).toArray 26)).alloc (.cells (uc (words init8)).toArray 90)).alloc (.cells [clo (w.heap.size + 1)].toArray 66)).alloc (.cells #[.slice a (l.length - l.length % 64) cap] 22)).alloc (.cells #[.int .i64 64] 3)).heap.size = w.heap.size + 5 ∧
      (((((w.alloc (.cells (List.replicate 32 (.int .u8 0)).toArray 26)).alloc (.cells (uc (words init8)).toArray 90)).alloc (.cells [clo (w.heap.size + 1)].toArray 66)).alloc (.cells #[.slice a (l.length - l.length % 64) cap] 22)).alloc (.cells #[.int .i64 64] 3)).cell? ⟨w.heap.size + 3, 0, none⟩ = some (.slice a (l.length - l.length % 64) cap) ∧
      (((((w.alloc (.cells (List.replicate 32 (.int .u8 0)).toArray 26)).alloc (.cells (uc (words init8)).toArray 90)).alloc (.cells [clo (w.heap.size + 1)].toArray 66)).alloc (.cells #[.slice a (l.length - l.length % 64) cap] 22)).alloc (.cells #[.int .i64 64] 3)).cell? ⟨w.heap.size + 4, 0, none⟩ = some (.int .i64 64)) := by
    have b0 := Blk.new w 26 (List.replicate 32 (.int .u8 0))
    have b1 := Blk.new (w.alloc (.cells (List.replicate 32 (.int .u8 0)).toArray 26)) 90 (uc (words init8))
    have b2 := Blk.new ((w.alloc (.cells (List.replicate 32 (.int .u8 0)).toArray 26)).alloc (.cells (uc (words init8)).toArray 90)) 66 [clo (w.heap.size + 1)]
    have b3 := Blk.new (((w.alloc (.cells (List.replicate 32 (.int .u8 0)).toArray 26)).alloc (.cells (uc (words init8)).toArray 90)).alloc (.cells [clo (w.heap.size + 1)].toArray 66)) 22 [.slice a (l.length - l.length % 64) cap]
    have b4 := Blk.new ((((w.alloc (.cells (List.replicate 32 (.int .u8 0)).toArray 26)).alloc (.cells (uc (words init8)).toArray 90)).alloc (.cells [clo (w.heap.size + 1)].toArray 66)).alloc (.cells #[.slice a (l.length - l.length % 64) cap] 22)) 3 [.int .i64 64]
    simp only [World.size_alloc] at b1 b2 b3 b4
    refine hide ⟨⟨(((b0.alloc _).alloc _).alloc _).alloc _, ((b1.alloc _).alloc _).alloc _, (b2.alloc _).alloc _, ?_, by simp⟩, by simp, ?_, ?_⟩
    · exact ((((below_new w _).alloc (by simp) _).alloc (by simp; omega) _).alloc (by simp; omega) _).alloc (by simp; omega) _
    · exact ((b3.alloc _).cell 0).trans rfl
    · exact (b4.cell 0).trans rfl
  change Code.wpIn _ _ _ _ _ _ (((((w.alloc (.cells (List.replicate 32 (.int .u8 0)).toArray 26)).alloc (.cells (uc (words init8)).toArray 90)).alloc (.cells [clo (w.heap.size + 1)].toArray 66)).alloc (.cells #[.slice a (l.length - l.length % 64) cap] 22)).alloc (.cells #[.int .i64 64] 3))
  generalize (((((w.alloc (.cells (List.replicate 32 (.int .u8 0)).toArray 26)).alloc (.cells (uc (words init8)).toArray 90)).alloc (.cells [clo (w.heap.size + 1)].toArray 66)).alloc (.cells #[.slice a (l.length - l.length % 64) cap] 22)).alloc (.cells #[.int .i64 64] 3)) = W0 at *
  refine wpIn_rangeFunc_ownG rfl (by omega) (gf := 75) (lb := #[.pointer (some ⟨w.heap.size + 1 + 1 + 1, 0, none⟩), .pointer (some ⟨w.heap.size + 1 + 1 + 1 + 1, 0, none⟩)]) rfl trivial (enters_of Tryd.func75 (by kernel_rfl) rfl)
    (chunk_stops (4 - 1) (by omega) (w.heap.size + 3) (w.heap.size + 4) (w.heap.size + 1) (w.heap.size + 5) b off m (l.length - l.length % 64) cap a HM.out.2.2 HA.out W0 ⟨by omega, by omega⟩ ⟨by omega, by omega⟩ (by rw [HW.out.2.1]; omega) HW.out.2.2.1 HW.out.2.2.2)
    (fun h k => h.trans k) (fun W lb o o' hlb _ _ _ => Kx.put W lb o' (by rw [HW.out.2.1] at hlb; omega)) (Below.refl _ _) (fun _ => rfl)
    (fun (pre : List (Fin m)) W => SumI w (w.heap.size + 5) (pre.foldl (fun (s : S8) (j : Fin m) => comp s (blk l j.1)) init8) W) (fun _ _ _ => False)
    (fun s A B row hs hg hr => hs.own hg (fun r e => by have := (hr r e).1; rw [HW.out.2.1] at this; omega))
    (fun _ _ _ _ _ hs _ _ => hs) HW.out.1
    (fun x => { tmps := #[.slice a l.length cap, undef, .pointer (some ⟨w.heap.size, 0, none⟩), .pointer (some ⟨w.heap.size + 1, 0, none⟩), .pointer (some ⟨w.heap.size + 1 + 1, 0, none⟩), .int .i64 ((l.length : Int) - (l.length : Int) % 64), .slice (some ⟨b, off + 64 * x.1, none⟩) 64 64, undef,
      .pointer (some ⟨w.heap.size + 1, 0, none⟩), .pointer (some ⟨w.heap.size + 1, 0, none⟩), clo (w.heap.size + 1), .slice a l.length cap, .int .i64 (l.length : Nat), .slice a l.length cap, .int .i64 (l.length : Nat), .int .i64 ((l.length : Int) % 64), .int .i64 ((l.length : Int) - (l.length : Int) % 64), .slice a l.length cap, .int .i64 ((l.length : Int) - (l.length : Int) % 64), .slice a (l.length - l.length % 64) cap,
      .func (.func 75) #[] #[.pointer (some ⟨w.heap.size + 1 + 1 + 1, 0, none⟩), .pointer (some ⟨w.heap.size + 1 + 1 + 1 + 1, 0, none⟩)], .slice (some ⟨b, off + 64 * x.1, none⟩) 64 64, undef, undef, undef, undef, undef, undef, undef, undef, undef, undef, undef, undef, undef, undef, undef, undef], defers := [] }) ?assign ?body ?done ?stop
  case assign =>
    intro lr x W K hK
    simp only [encB]
    gi_wp2
    exact hK
  case body =>
    rintro lr pre x W hI hlen
    have hcl := hI.cl.cell 0
    rw [List.getElem?_cons_zero] at hcl
    have HCB : Hid (Bs W b (off + 64 * x.1) (blk l x.1) ∧ (blk l x.1).length = 64) := hide (by
      rcases HA.out with ⟨_, h0⟩ | ⟨ea, _, _⟩
      · exact absurd x.2 (by omega)
      · exact chunk_bytes HL.out hI.bel ea HM.out.2.1 x)
    have HAB := hide (absorb_any (w.heap.size + 1) b (off + 64 * x.1) 64 (pre.foldl (fun s j => comp s (blk l j.1)) init8) (blk l x.1) W (HT.out.below hI.bel) hI.st HCB.out.1 HCB.out.2 (by omega) (by omega))
    have HI := hide hI
    clear hI
    gi_wp2_with (refine ⟨trivial, ?_⟩; gi_at_call 47; refine (CallsIn.inRound lr (callsIn_wide.2 HAB.out)).mono ?_; rintro e w' ⟨rfl, hst', hg'⟩)
    have hN : SumI w (w.heap.size + 5) ((pre ++ [x]).foldl (fun (s : S8) (j : Fin m) => comp s (blk l j.1)) init8) w' := by
      rw [List.foldl_append]
      exact HI.out.step hg' hst'
    refine ⟨KeepsFrom.of_grownBy hg' (fun j e => by injection e with e; rw [HW.out.2.1]; omega), ⟨hg'.size, fun k hk hne => hg'.block k (Nat.lt_of_lt_of_le hk HI.out.sz) (by intro e; injection e with e; exact hne e)⟩, hN⟩
  case done =>
    rintro D ys W hD rfl hI hK
    rw [fold_ups _ _ _ _ (Nat.le_refl _)] at hI
    have HI := hide hI
    have HK := hide hK
    clear hI hK
    obtain ⟨rest, hrest⟩ : ∃ rest, l.drop (l.length - l.length % 64) = rest := ⟨_, rfl⟩
    have hrl : l.length - (l.length - l.length % 64) = rest.length := by rw [← hrest, List.length_drop]
    have HREST := hide (And.intro hrest (And.intro hrl (show rest.length < 64 by omega)))
    clear hrest hrl
    have HP : ∀ A2 : Option Addr, Sb W A2 rest → Hid (∀ c2, Calls Tryd.prog 49 #[.slice A2 (l.length - (l.length - l.length % 64)) c2, .int .i64 (l.length : Nat)] W fun e w' => e = .returned (.slice (some ⟨W.heap.size, 0, none⟩) (pend rest.length) 128) ∧ Blk w' W.heap.size 94 (bc (pl rest l.length 8)) ∧ Below W.heap.size W w') :=
      fun A2 h => hide fun c2 => padded_is A2 c2 _ rest l.length W h HREST.out.2.2 (by omega) HREST.out.2.1
    by_cases hcw : cap = l.length - l.length % 64
    · have HP1 := HP a (fun hne => absurd (by rw [← HREST.out.1]; exact List.drop_of_length_le (by omega)) hne)
      clear HP
      gi_wp2_with (first | (refine ⟨trivial, ?_⟩; gi_at_call 49; refine (callsIn_wide.2 (HP1.out _)).mono ?_; rintro e w2 ⟨rfl, hB2, hb2⟩) | (refine ⟨trivial, ?_⟩; gi_at_call 48; refine (callsIn_wide.2 (chunk_any _ _ _ _)).mono ?_; rintro e w3 ⟨rfl, rfl⟩))
      have hw2 := hB2.lt
      have hDW : D < W.heap.size := (Array.getElem?_eq_some_iff.1 HK.out).1
      have hRW : w.heap.size + 5 ≤ W.heap.size := HI.out.sz
      have HW2 : Hid (SumI w (w2.heap.size + 2) (comps init8 l m) ((w2.alloc (.cells #[.slice (some ⟨W.heap.size, 0, none⟩) (pend rest.length) 128] 22)).alloc (.cells #[.int .i64 64] 3)) ∧
          ((w2.alloc (.cells #[.slice (some ⟨W.heap.size, 0, none⟩) (pend rest.length) 128] 22)).alloc (.cells #[.int .i64 64] 3)).heap.size = w2.heap.size + 2 ∧
          ((w2.alloc (.cells #[.slice (some ⟨W.heap.size, 0, none⟩) (pend rest.length) 128] 22)).alloc (.cells #[.int .i64 64] 3)).cell? ⟨w2.heap.size, 0, none⟩ = some (.slice (some ⟨W.heap.size, 0, none⟩) (pend rest.length) 128) ∧
          ((w2.alloc (.cells #[.slice (some ⟨W.heap.size, 0, none⟩) (pend rest.length) 128] 22)).alloc (.cells #[.int .i64 64] 3)).cell? ⟨w2.heap.size + 1, 0, none⟩ = some (.int .i64 64) ∧
          Blk ((w2.alloc (.cells #[.slice (some ⟨W.heap.size, 0, none⟩) (pend rest.length) 128] 22)).alloc (.cells #[.int .i64 64] 3)) W.heap.size 94 (bc (pl rest l.length 8)) ∧
          ((w2.alloc (.cells #[.slice (some ⟨W.heap.size, 0, none⟩) (pend rest.length) 128] 22)).alloc (.cells #[.int .i64 64] 3)).heap[D]? = some (.deferred (some []))) := by
        have b3 := Blk.new w2 22 [.slice (some ⟨W.heap.size, 0, none⟩) (pend rest.length) 128]
        have b4 := Blk.new (w2.alloc (.cells [Value.slice (some ⟨W.heap.size, 0, none⟩) (pend rest.length) 128].toArray 22)) 3 [.int .i64 64]
        simp only [World.size_alloc] at b4
        have hg : W.grownBy ((w2.alloc (.cells #[.slice (some ⟨W.heap.size, 0, none⟩) (pend rest.length) 128] 22)).alloc (.cells #[.int .i64 64] 3)) none := only_alloc (only_alloc (only_of_below hb2 none) _) _
        have hS := HI.out.own hg (fun r e => by cases e)
        refine hide ⟨⟨hS.res, hS.st, hS.cl, hS.bel, by simp⟩, by simp, ((b3.alloc _).cell 0).trans rfl, (b4.cell 0).trans rfl, (hB2.alloc _).alloc _, ?_⟩
        exact (hg.block D hDW (by intro e; cases e)).trans HK.out
      clear hB2 hb2
      generalize ((w2.alloc (.cells #[.slice (some ⟨W.heap.size, 0, none⟩) (pend rest.length) 128] 22)).alloc (.cells #[.int .i64 64] 3)) = W3 at *
      have HPE : Hid (pend rest.length = 64 * ((rest.length + 8) / 64 + 1) ∧ pend rest.length ≤ 128) := hide ⟨rfl, by have := HREST.out.2.2; unfold pend; omega⟩
      refine wpIn_rangeFunc_ownG rfl (by omega) (gf := 75) (lb := #[.pointer (some ⟨w2.heap.size, 0, none⟩), .pointer (some ⟨w2.heap.size + 1, 0, none⟩)]) rfl trivial (enters_of Tryd.func75 (by kernel_rfl) rfl)
        (chunk_stops (4 - 1) (by omega) w2.heap.size (w2.heap.size + 1) (w.heap.size + 1) (w2.heap.size + 2) W.heap.size 0 ((rest.length + 8) / 64 + 1) (pend rest.length) 128 (some ⟨W.heap.size, 0, none⟩) (by have := HREST.out.2.2; omega) (.inr ⟨rfl, HPE.out.1, HPE.out.2⟩) W3 ⟨by omega, by omega⟩ ⟨by omega, by omega⟩ (by rw [HW2.out.2.1]; omega) HW2.out.2.2.1 HW2.out.2.2.2.1)
        (fun h k => h.trans k) (fun W lb o o' hlb _ _ _ => Kx.put W lb o' (by rw [HW2.out.2.1] at hlb; omega)) (Below.refl _ _) (fun _ => rfl)
        (fun (pre : List (Fin ((rest.length + 8) / 64 + 1))) W' => SumI w (w2.heap.size + 2) (pre.foldl (fun (s : S8) (j : Fin ((rest.length + 8) / 64 + 1)) => comp s (blk (tail8 rest l.length) j.1)) (comps init8 l m)) W' ∧ Blk W' W.heap.size 94 (bc (pl rest l.length 8)) ∧ W'.heap[D]? = some (.deferred (some []))) (fun _ _ _ => False)
        (fun s A B row hs hg hr => by
          have hrow : ∀ r, row = some r → w2.heap.size + 2 ≤ r := fun r e => by have := (hr r e).1; rw [HW2.out.2.1] at this; exact this
          exact ⟨hs.1.own hg (fun r e => by have := hrow r e; omega), (hg.block _ hs.2.1.lt (by intro e; have := hrow _ e.symm; omega)).trans hs.2.1, (hg.block _ (Array.getElem?_eq_some_iff.1 hs.2.2).1 (by intro e; have := hrow _ e.symm; omega)).trans hs.2.2⟩)
        (fun _ _ _ _ _ hs _ _ => hs) ⟨HW2.out.1, HW2.out.2.2.2.2.1, HW2.out.2.2.2.2.2⟩
        (fun x => { tmps := #[.slice a l.length (l.length - l.length % 64), undef, .pointer (some ⟨w.heap.size, 0, none⟩), .pointer (some ⟨w.heap.size + 1, 0, none⟩), .pointer (some ⟨w.heap.size + 1 + 1, 0, none⟩), .int .i64 ((l.length : Int) - (l.length : Int) % 64), undef, .slice (some ⟨W.heap.size, 64 * x.1, none⟩) 64 64,
          .pointer (some ⟨w.heap.size + 1, 0, none⟩), .pointer (some ⟨w.heap.size + 1, 0, none⟩), clo (w.heap.size + 1), .slice a l.length (l.length - l.length % 64), .int .i64 (l.length : Nat), .slice a l.length (l.length - l.length % 64), .int .i64 (l.length : Nat), .int .i64 ((l.length : Int) % 64), .int .i64 ((l.length : Int) - (l.length : Int) % 64), .slice a l.length (l.length - l.length % 64), .int .i64 ((l.length : Int) - (l.length : Int) % 64), .slice a (l.length - l.length % 64) (l.length - l.length % 64),
          .func (.func 75) #[] #[.pointer (some ⟨w.heap.size + 1 + 1 + 1, 0, none⟩), .pointer (some ⟨w.heap.size + 1 + 1 + 1 + 1, 0, none⟩)], undef, undef, undef, undef, .slice a l.length (l.length - l.length % 64), .int .i64 ((l.length : Int) - (l.length : Int) % 64), .slice a (l.length - (l.length - l.length % 64)) 0, .slice a l.length (l.length - l.length % 64), .int .i64 (l.length : Nat), .slice (some ⟨W.heap.size, 0, none⟩) (pend rest.length) 128,
          .func (.func 75) #[] #[.pointer (some ⟨w2.heap.size, 0, none⟩), .pointer (some ⟨w2.heap.size + 1, 0, none⟩)], .slice (some ⟨W.heap.size, 64 * x.1, none⟩) 64 64, undef, undef, undef, undef, undef], defers := [] }) ?assign2 ?body2 ?done2 ?stop2
      case assign2 =>
        intro lr x W K hK
        simp only [encB]
        gi_wp2
        exact hK
      case body2 =>
        rintro lr pre x W' ⟨hI, hX, hD'⟩ hlen
        have hcl := hI.cl.cell 0
        rw [List.getElem?_cons_zero] at hcl
        have HCB : Hid (Bs W' W.heap.size (64 * x.1) (blk (tail8 rest l.length) x.1) ∧ (blk (tail8 rest l.length) x.1).length = 64) := hide (by
          have hx := x.2
          have hlen : (blk (tail8 rest l.length) x.1).length = 64 := by
            have := tail8_len rest l.length
            rw [HPE.out.1] at this
            unfold blk; simp; omega
          refine ⟨?_, hlen⟩
          have := ((Bs.blk hX).take (pend rest.length)).drop (64 * x.1)
          rw [pl_last rest l.length HREST.out.2.2] at this
          unfold blk
          have h2 := this.take 64
          rw [Nat.zero_add] at h2
          exact h2)
        have HAB := hide (absorb_any (w.heap.size + 1) W.heap.size (64 * x.1) 64 (pre.foldl (fun (s : S8) (j : Fin ((rest.length + 8) / 64 + 1)) => comp s (blk (tail8 rest l.length) j.1)) (comps init8 l m)) (blk (tail8 rest l.length) x.1) W' (HT.out.below hI.bel) hI.st HCB.out.1 HCB.out.2 (by omega) (by omega))
        have HI2 := hide (And.intro hI (And.intro hX hD'))
        clear hI hX hD'
        gi_wp2_with (refine ⟨trivial, ?_⟩; gi_at_call 47; refine (CallsIn.inRound lr (callsIn_wide.2 HAB.out)).mono ?_; rintro e w' ⟨rfl, hst', hg'⟩)
        have hN : SumI w (w2.heap.size + 2) ((pre ++ [x]).foldl (fun (s : S8) (j : Fin ((rest.length + 8) / 64 + 1)) => comp s (blk (tail8 rest l.length) j.1)) (comps init8 l m)) w' := by
          rw [List.foldl_append]
          exact HI2.out.1.step hg' hst'
        refine ⟨KeepsFrom.of_grownBy hg' (fun j e => by injection e with e; rw [HW2.out.2.1]; omega), ⟨hg'.size, fun k hk hne => hg'.block k (Nat.lt_of_lt_of_le hk HI2.out.1.sz) (by intro e; injection e with e; exact hne e)⟩, hN, HI2.out.2.1.only hg' (by omega), (hg'.block D (Array.getElem?_eq_some_iff.1 HI2.out.2.2).1 (by intro e; injection e with e; have := hD; rw [HW.out.2.1] at this; omega)).trans HI2.out.2.2⟩
      case done2 =>
        rintro D2 ys W4 hD2 rfl ⟨hI4, _, hK1⟩ hK2
        rw [fold_ups _ _ _ _ (Nat.le_refl _)] at hI4
        have HFIN : Hid (comps (comps init8 l m) (tail8 rest l.length) ((rest.length + 8) / 64 + 1) = fin8 l) := hide (by
          rw [sha_split, HREST.out.1]
          have e1 : comps init8 (l.take (l.length - l.length % 64)) (l.length / 64) = comps init8 l m := by
            have : l.length / 64 = m := by have := HM.out.1; omega
            rw [this]
            refine comps_congr _ _ _ _ fun i hi => ?_
            have := HM.out.1
            unfold blk
            rw [List.drop_take, List.take_take, Nat.min_eq_left (by omega)]
          have e2 : l.length % 64 = rest.length := by have := HREST.out.2.1; omega
          rw [e1, e2])
        rw [HFIN.out] at hI4
        have HI4 := hide hI4
        have HK1 := hide hK1
        have HK2 := hide hK2
        have HDG := hide (digest_any (w.heap.size + 1) (fin8 l) W4 hI4.st)
        clear hI4 hK1 hK2
        have hsz : (Tryd.prog.info? 26).map (·.size) = some ((bc (out8 (fin8 l))).toArray).size := by
          have e : ((bc (out8 (fin8 l))).toArray).size = 32 := by simp [bc_len, out8_len]
          rw [e]; exact Tryd.size26
        have HZ := hide hsz
        have HO := hide (all_oneCell_toArray (bc_one (out8 (fin8 l))))
        have HZ2 := hide (show (List.replicate 32 (Value.int .u8 0)).toArray.size = ((bc (out8 (fin8 l))).toArray).size by simp [bc_len, out8_len])
        clear hsz
        gi_wp2_with (first | (refine ⟨trivial, ?_⟩; gi_at_call 50; refine (callsIn_wide.2 HDG.out).mono ?_; rintro e w5 ⟨rfl, hb5⟩) | (refine wpListIn_store_row rfl 26 (.tmp 2) (.tmp 37) rfl w.heap.size _ rfl rfl 26 _ (Blk.below HI4.out.res hb5 (Nat.lt_of_lt_of_le HI4.out.res.lt (Nat.le_refl _))) HZ.out HZ2.out HO.out ?_))
        have hR5 : Blk w5 w.heap.size 26 (List.replicate 32 (Value.int .u8 0)) := Blk.below HI4.out.res hb5 HI4.out.res.lt
        have hD1 := hD
        rw [HW.out.2.1] at hD1
        have hD3 := hD2
        rw [HW2.out.2.1] at hD3
        have hlt2 := (Array.getElem?_eq_some_iff.1 HK2.out).1
        have hlt1 := (Array.getElem?_eq_some_iff.1 HK1.out).1
        have k2 : (w5.setRow w.heap.size (bc (out8 (fin8 l))).toArray).heap[D2]? = some (.deferred (some [])) := (setRow_other _ _ D2 _ (by omega)).trans ((hb5.block D2 hlt2).trans HK2.out)
        have k1 : (w5.setRow w.heap.size (bc (out8 (fin8 l))).toArray).heap[D]? = some (.deferred (some [])) := (setRow_other _ _ D _ (by omega)).trans ((hb5.block D hlt1).trans HK1.out)
        have hrow : Blk (w5.setRow w.heap.size (bc (out8 (fin8 l))).toArray) w.heap.size 26 (bc (out8 (fin8 l))) := hR5.row _
        refine leaves_two _ D2 D _ (dv (out8 (fin8 l))) k2 k1 (by omega) (results_cell_row rfl _ _ w.heap.size 26 _ (0, 0) _ rfl ((World.putObj_heap_other (by omega)).trans ((World.putObj_heap_other (by omega)).trans hrow)) Tryd.underlying26 rfl HZ.out) ⟨by rw [sha_fin], ?_⟩
        refine below_put (below_put (below_setRow (below_one HI4.out.bel hb5) (Nat.le_refl _) _) (by omega) _) (by omega) _
      case stop2 =>
        rintro D c pre W _ _ h _
        exact h.elim
    · have HP1 := HP (a.map (fun x => x.add (l.length - l.length % 64))) (fun hne => by
        have hb := HL.out.below HI.out.bel
        obtain ⟨b1, o1, e1, hB1⟩ := hb (by rintro rfl; rw [← HREST.out.1] at hne; simp at hne)
        refine ⟨b1, o1 + (l.length - l.length % 64), by rw [e1]; simp [Addr.add_mid], ?_⟩
        rw [← HREST.out.1]
        exact hB1.drop _)
      clear HP
      gi_wp2_with (first | (refine ⟨trivial, ?_⟩; gi_at_call 49; refine (callsIn_wide.2 (HP1.out _)).mono ?_; rintro e w2 ⟨rfl, hB2, hb2⟩) | (refine ⟨trivial, ?_⟩; gi_at_call 48; refine (callsIn_wide.2 (chunk_any _ _ _ _)).mono ?_; rintro e w3 ⟨rfl, rfl⟩))
      have hw2 := hB2.lt
      have hDW : D < W.heap.size := (Array.getElem?_eq_some_iff.1 HK.out).1
      have hRW : w.heap.size + 5 ≤ W.heap.size := HI.out.sz
      have HW2 : Hid (SumI w (w2.heap.size + 2) (comps init8 l m) ((w2.alloc (.cells #[.slice (some ⟨W.heap.size, 0, none⟩) (pend rest.length) 128] 22)).alloc (.cells #[.int .i64 64] 3)) ∧
          ((w2.alloc (.cells #[.slice (some ⟨W.heap.size, 0, none⟩) (pend rest.length) 128] 22)).alloc (.cells #[.int .i64 64] 3)).heap.size = w2.heap.size + 2 ∧
          ((w2.alloc (.cells #[.slice (some ⟨W.heap.size, 0, none⟩) (pend rest.length) 128] 22)).alloc (.cells #[.int .i64 64] 3)).cell? ⟨w2.heap.size, 0, none⟩ = some (.slice (some ⟨W.heap.size, 0, none⟩) (pend rest.length) 128) ∧
          ((w2.alloc (.cells #[.slice (some ⟨W.heap.size, 0, none⟩) (pend rest.length) 128] 22)).alloc (.cells #[.int .i64 64] 3)).cell? ⟨w2.heap.size + 1, 0, none⟩ = some (.int .i64 64) ∧
          Blk ((w2.alloc (.cells #[.slice (some ⟨W.heap.size, 0, none⟩) (pend rest.length) 128] 22)).alloc (.cells #[.int .i64 64] 3)) W.heap.size 94 (bc (pl rest l.length 8)) ∧
          ((w2.alloc (.cells #[.slice (some ⟨W.heap.size, 0, none⟩) (pend rest.length) 128] 22)).alloc (.cells #[.int .i64 64] 3)).heap[D]? = some (.deferred (some []))) := by
        have b3 := Blk.new w2 22 [.slice (some ⟨W.heap.size, 0, none⟩) (pend rest.length) 128]
        have b4 := Blk.new (w2.alloc (.cells [Value.slice (some ⟨W.heap.size, 0, none⟩) (pend rest.length) 128].toArray 22)) 3 [.int .i64 64]
        simp only [World.size_alloc] at b4
        have hg : W.grownBy ((w2.alloc (.cells #[.slice (some ⟨W.heap.size, 0, none⟩) (pend rest.length) 128] 22)).alloc (.cells #[.int .i64 64] 3)) none := only_alloc (only_alloc (only_of_below hb2 none) _) _
        have hS := HI.out.own hg (fun r e => by cases e)
        refine hide ⟨⟨hS.res, hS.st, hS.cl, hS.bel, by simp⟩, by simp, ((b3.alloc _).cell 0).trans rfl, (b4.cell 0).trans rfl, (hB2.alloc _).alloc _, ?_⟩
        exact (hg.block D hDW (by intro e; cases e)).trans HK.out
      clear hB2 hb2
      generalize ((w2.alloc (.cells #[.slice (some ⟨W.heap.size, 0, none⟩) (pend rest.length) 128] 22)).alloc (.cells #[.int .i64 64] 3)) = W3 at *
      have HPE : Hid (pend rest.length = 64 * ((rest.length + 8) / 64 + 1) ∧ pend rest.length ≤ 128) := hide ⟨rfl, by have := HREST.out.2.2; unfold pend; omega⟩
      refine wpIn_rangeFunc_ownG rfl (by omega) (gf := 75) (lb := #[.pointer (some ⟨w2.heap.size, 0, none⟩), .pointer (some ⟨w2.heap.size + 1, 0, none⟩)]) rfl trivial (enters_of Tryd.func75 (by kernel_rfl) rfl)
        (chunk_stops (4 - 1) (by omega) w2.heap.size (w2.heap.size + 1) (w.heap.size + 1) (w2.heap.size + 2) W.heap.size 0 ((rest.length + 8) / 64 + 1) (pend rest.length) 128 (some ⟨W.heap.size, 0, none⟩) (by have := HREST.out.2.2; omega) (.inr ⟨rfl, HPE.out.1, HPE.out.2⟩) W3 ⟨by omega, by omega⟩ ⟨by omega, by omega⟩ (by rw [HW2.out.2.1]; omega) HW2.out.2.2.1 HW2.out.2.2.2.1)
        (fun h k => h.trans k) (fun W lb o o' hlb _ _ _ => Kx.put W lb o' (by rw [HW2.out.2.1] at hlb; omega)) (Below.refl _ _) (fun _ => rfl)
        (fun (pre : List (Fin ((rest.length + 8) / 64 + 1))) W' => SumI w (w2.heap.size + 2) (pre.foldl (fun (s : S8) (j : Fin ((rest.length + 8) / 64 + 1)) => comp s (blk (tail8 rest l.length) j.1)) (comps init8 l m)) W' ∧ Blk W' W.heap.size 94 (bc (pl rest l.length 8)) ∧ W'.heap[D]? = some (.deferred (some []))) (fun _ _ _ => False)
        (fun s A B row hs hg hr => by
          have hrow : ∀ r, row = some r → w2.heap.size + 2 ≤ r := fun r e => by have := (hr r e).1; rw [HW2.out.2.1] at this; exact this
          exact ⟨hs.1.own hg (fun r e => by have := hrow r e; omega), (hg.block _ hs.2.1.lt (by intro e; have := hrow _ e.symm; omega)).trans hs.2.1, (hg.block _ (Array.getElem?_eq_some_iff.1 hs.2.2).1 (by intro e; have := hrow _ e.symm; omega)).trans hs.2.2⟩)
        (fun _ _ _ _ _ hs _ _ => hs) ⟨HW2.out.1, HW2.out.2.2.2.2.1, HW2.out.2.2.2.2.2⟩
        (fun x => { tmps := #[.slice a l.length cap, undef, .pointer (some ⟨w.heap.size, 0, none⟩), .pointer (some ⟨w.heap.size + 1, 0, none⟩), .pointer (some ⟨w.heap.size + 1 + 1, 0, none⟩), .int .i64 ((l.length : Int) - (l.length : Int) % 64), undef, .slice (some ⟨W.heap.size, 64 * x.1, none⟩) 64 64,
          .pointer (some ⟨w.heap.size + 1, 0, none⟩), .pointer (some ⟨w.heap.size + 1, 0, none⟩), clo (w.heap.size + 1), .slice a l.length cap, .int .i64 (l.length : Nat), .slice a l.length cap, .int .i64 (l.length : Nat), .int .i64 ((l.length : Int) % 64), .int .i64 ((l.length : Int) - (l.length : Int) % 64), .slice a l.length cap, .int .i64 ((l.length : Int) - (l.length : Int) % 64), .slice a (l.length - l.length % 64) cap,
          .func (.func 75) #[] #[.pointer (some ⟨w.heap.size + 1 + 1 + 1, 0, none⟩), .pointer (some ⟨w.heap.size + 1 + 1 + 1 + 1, 0, none⟩)], undef, undef, undef, undef, .slice a l.length cap, .int .i64 ((l.length : Int) - (l.length : Int) % 64), .slice (a.map (fun x => x.add (l.length - l.length % 64))) (l.length - (l.length - l.length % 64)) (cap - (l.length - l.length % 64)), .slice a l.length cap, .int .i64 (l.length : Nat), .slice (some ⟨W.heap.size, 0, none⟩) (pend rest.length) 128,
          .func (.func 75) #[] #[.pointer (some ⟨w2.heap.size, 0, none⟩), .pointer (some ⟨w2.heap.size + 1, 0, none⟩)], .slice (some ⟨W.heap.size, 64 * x.1, none⟩) 64 64, undef, undef, undef, undef, undef], defers := [] }) ?assign2 ?body2 ?done2 ?stop2
      case assign2 =>
        intro lr x W K hK
        simp only [encB]
        gi_wp2
        exact hK
      case body2 =>
        rintro lr pre x W' ⟨hI, hX, hD'⟩ hlen
        have hcl := hI.cl.cell 0
        rw [List.getElem?_cons_zero] at hcl
        have HCB : Hid (Bs W' W.heap.size (64 * x.1) (blk (tail8 rest l.length) x.1) ∧ (blk (tail8 rest l.length) x.1).length = 64) := hide (by
          have hx := x.2
          have hlen : (blk (tail8 rest l.length) x.1).length = 64 := by
            have := tail8_len rest l.length
            rw [HPE.out.1] at this
            unfold blk; simp; omega
          refine ⟨?_, hlen⟩
          have := ((Bs.blk hX).take (pend rest.length)).drop (64 * x.1)
          rw [pl_last rest l.length HREST.out.2.2] at this
          unfold blk
          have h2 := this.take 64
          rw [Nat.zero_add] at h2
          exact h2)
        have HAB := hide (absorb_any (w.heap.size + 1) W.heap.size (64 * x.1) 64 (pre.foldl (fun (s : S8) (j : Fin ((rest.length + 8) / 64 + 1)) => comp s (blk (tail8 rest l.length) j.1)) (comps init8 l m)) (blk (tail8 rest l.length) x.1) W' (HT.out.below hI.bel) hI.st HCB.out.1 HCB.out.2 (by omega) (by omega))
        have HI2 := hide (And.intro hI (And.intro hX hD'))
        clear hI hX hD'
        gi_wp2_with (refine ⟨trivial, ?_⟩; gi_at_call 47; refine (CallsIn.inRound lr (callsIn_wide.2 HAB.out)).mono ?_; rintro e w' ⟨rfl, hst', hg'⟩)
        have hN : SumI w (w2.heap.size + 2) ((pre ++ [x]).foldl (fun (s : S8) (j : Fin ((rest.length + 8) / 64 + 1)) => comp s (blk (tail8 rest l.length) j.1)) (comps init8 l m)) w' := by
          rw [List.foldl_append]
          exact HI2.out.1.step hg' hst'
        refine ⟨KeepsFrom.of_grownBy hg' (fun j e => by injection e with e; rw [HW2.out.2.1]; omega), ⟨hg'.size, fun k hk hne => hg'.block k (Nat.lt_of_lt_of_le hk HI2.out.1.sz) (by intro e; injection e with e; exact hne e)⟩, hN, HI2.out.2.1.only hg' (by omega), (hg'.block D (Array.getElem?_eq_some_iff.1 HI2.out.2.2).1 (by intro e; injection e with e; have := hD; rw [HW.out.2.1] at this; omega)).trans HI2.out.2.2⟩
      case done2 =>
        rintro D2 ys W4 hD2 rfl ⟨hI4, _, hK1⟩ hK2
        rw [fold_ups _ _ _ _ (Nat.le_refl _)] at hI4
        have HFIN : Hid (comps (comps init8 l m) (tail8 rest l.length) ((rest.length + 8) / 64 + 1) = fin8 l) := hide (by
          rw [sha_split, HREST.out.1]
          have e1 : comps init8 (l.take (l.length - l.length % 64)) (l.length / 64) = comps init8 l m := by
            have : l.length / 64 = m := by have := HM.out.1; omega
            rw [this]
            refine comps_congr _ _ _ _ fun i hi => ?_
            have := HM.out.1
            unfold blk
            rw [List.drop_take, List.take_take, Nat.min_eq_left (by omega)]
          have e2 : l.length % 64 = rest.length := by have := HREST.out.2.1; omega
          rw [e1, e2])
        rw [HFIN.out] at hI4
        have HI4 := hide hI4
        have HK1 := hide hK1
        have HK2 := hide hK2
        have HDG := hide (digest_any (w.heap.size + 1) (fin8 l) W4 hI4.st)
        clear hI4 hK1 hK2
        have hsz : (Tryd.prog.info? 26).map (·.size) = some ((bc (out8 (fin8 l))).toArray).size := by
          have e : ((bc (out8 (fin8 l))).toArray).size = 32 := by simp [bc_len, out8_len]
          rw [e]; exact Tryd.size26
        have HZ := hide hsz
        have HO := hide (all_oneCell_toArray (bc_one (out8 (fin8 l))))
        have HZ2 := hide (show (List.replicate 32 (Value.int .u8 0)).toArray.size = ((bc (out8 (fin8 l))).toArray).size by simp [bc_len, out8_len])
        clear hsz
        gi_wp2_with (first | (refine ⟨trivial, ?_⟩; gi_at_call 50; refine (callsIn_wide.2 HDG.out).mono ?_; rintro e w5 ⟨rfl, hb5⟩) | (refine wpListIn_store_row rfl 26 (.tmp 2) (.tmp 37) rfl w.heap.size _ rfl rfl 26 _ (Blk.below HI4.out.res hb5 (Nat.lt_of_lt_of_le HI4.out.res.lt (Nat.le_refl _))) HZ.out HZ2.out HO.out ?_))
        have hR5 : Blk w5 w.heap.size 26 (List.replicate 32 (Value.int .u8 0)) := Blk.below HI4.out.res hb5 HI4.out.res.lt
        have hD1 := hD
        rw [HW.out.2.1] at hD1
        have hD3 := hD2
        rw [HW2.out.2.1] at hD3
        have hlt2 := (Array.getElem?_eq_some_iff.1 HK2.out).1
        have hlt1 := (Array.getElem?_eq_some_iff.1 HK1.out).1
        have k2 : (w5.setRow w.heap.size (bc (out8 (fin8 l))).toArray).heap[D2]? = some (.deferred (some [])) := (setRow_other _ _ D2 _ (by omega)).trans ((hb5.block D2 hlt2).trans HK2.out)
        have k1 : (w5.setRow w.heap.size (bc (out8 (fin8 l))).toArray).heap[D]? = some (.deferred (some [])) := (setRow_other _ _ D _ (by omega)).trans ((hb5.block D hlt1).trans HK1.out)
        have hrow : Blk (w5.setRow w.heap.size (bc (out8 (fin8 l))).toArray) w.heap.size 26 (bc (out8 (fin8 l))) := hR5.row _
        refine leaves_two _ D2 D _ (dv (out8 (fin8 l))) k2 k1 (by omega) (results_cell_row rfl _ _ w.heap.size 26 _ (0, 0) _ rfl ((World.putObj_heap_other (by omega)).trans ((World.putObj_heap_other (by omega)).trans hrow)) Tryd.underlying26 rfl HZ.out) ⟨by rw [sha_fin], ?_⟩
        refine below_put (below_put (below_setRow (below_one HI4.out.bel hb5) (Nat.le_refl _) _) (by omega) _) (by omega) _
      case stop2 =>
        rintro D c pre W _ _ h _
        exact h.elim
  case stop =>
    rintro D c pre W _ _ h _
    exact h.elim
end Go.Proofs.YtalgceplcahgbaaDoor
