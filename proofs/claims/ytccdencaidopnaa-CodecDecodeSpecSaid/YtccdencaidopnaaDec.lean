/- Decode of the program: the value whose encoding the bytes are, or the error if there is none. -/
import Derived.Test.YtccdencaidopnaaRdL
import Derived.Recover
namespace Go.Proofs.Ytccdencaidopnaa
open Go.RowKit

/-- The blocks of Decode's two results. -/
structure Res (X : Nat) (w : World) : Prop where
  v : ∃ v0 v1 v2 v3, w.heap[X]? = some (.cells #[v0, v1, v2, v3] 24 (0, 0))
  e : ∃ y, w.heap[X + 1]? = some (.cells #[y] 28 (0, 0))

set_option maxHeartbeats 1600000 in
theorem catch_panicking (X : Nat) (t : TypeId) (pv : Value) (older : List PanicEntry) (w : World) (h : Res X w) :
    CallsD Try.prog 34 #[.pointer (some ⟨X, 0, none⟩), .pointer (some ⟨X + 1, 0, none⟩)] (.panicking ({ v := .iface t pv, recovered := false } :: older)) w fun e u' w' =>
      e = .returned (.tuple #[]) ∧ u' = .panicking ({ v := .iface t pv, recovered := true } :: older) ∧ w' = (put4 w X (.int .i64 0) (.int .i64 0) (.string ⟨#[]⟩) (.slice none 0 0)).setCell ⟨X + 1, 0, none⟩ (.int .i64 10) := by
  obtain ⟨⟨v0, v1, v2, v3, hv⟩, y, he⟩ := h
  have c0 : w.cell? ⟨X, 0, none⟩ = some v0 := by rw [cell_of_row w X 0 _ _ _ hv]; rfl
  have c1 : w.cell? ⟨X, 1, none⟩ = some v1 := by rw [cell_of_row w X 1 _ _ _ hv]; rfl
  have c2 : w.cell? ⟨X, 2, none⟩ = some v2 := by rw [cell_of_row w X 2 _ _ _ hv]; rfl
  have c3 : w.cell? ⟨X, 3, none⟩ = some v3 := by rw [cell_of_row w X 3 _ _ _ hv]; rfl
  have d0 : w.cell? ⟨X + 1, 0, none⟩ = some y := by rw [cell_of_row w (X + 1) 0 _ _ _ he]; rfl
  have cf : ∀ i, w.frozen? ⟨X, i, none⟩ = false := fun i => frozen_of_row w X i _ _ hv
  have df : w.frozen? ⟨X + 1, 0, none⟩ = false := frozen_of_row w (X + 1) 0 _ _ he
  clear hv he
  refine callsD_of_wpS Try.func34 rfl fun c₀ cs hu => ?_
  apply wpS_seq
  apply wpS_region
  simp [wpOpsS, go_sem, recoverD, hu, Try.ntmps34, Exit.thenS]
  refine wpS_cond (t := true) (by simp [Act.eval, Array.replicate]) ?_
  simp only [if_true]
  apply wpS_region
  simp [wpOpsS, go_sem, Array.replicate, c0, c1, c2, c3, d0, cf, df, bodyPostS, results, Try.results34]

set_option maxHeartbeats 1600000 in
theorem catch_idle (X : Nat) (w : World) :
    CallsD Try.prog 34 #[.pointer (some ⟨X, 0, none⟩), .pointer (some ⟨X + 1, 0, none⟩)] .returning w fun e u' w' => e = .returned (.tuple #[]) ∧ u' = .returning ∧ w' = w := by
  refine callsD_of_wpS Try.func34 rfl fun c₀ cs hu => ?_
  apply wpS_seq
  apply wpS_region
  simp [wpOpsS, go_sem, recoverD, hu, Try.ntmps34, Exit.thenS]
  refine wpS_cond (t := false) (by simp [Act.eval, Array.replicate]) ?_
  simp only [Bool.false_eq_true, if_false]
  refine wpS_of_wp (wp_skip ?_)
  cases c₀
  simp_all [bodyPostS, results, Try.results34]

/-- Bytes that came in, or that another call made. -/
structure Inb (w : World) (a : Option Addr) (l : List UInt8) : Prop where
  plain : ∀ p, a = some p → p.spot = none
  bytes : ∀ i (h : i < l.length), ∃ b o, a = some ⟨b, o, none⟩ ∧ b < w.heap.size ∧ w.cell? ⟨b, o + i, none⟩ = some (.int .u8 (l[i].toNat : Nat))

/-- What Decode returns. -/
def DecPost (l : List UInt8) (w : World) (e : Ending) (w' : World) : Prop :=
  ((∃ t : VT, e = .returned (.tuple #[t.val, .int .i64 0]) ∧ t.In w' ∧ t.wf = true ∧ t.dep ≤ 16 ∧ l = t.enc) ∨
    (e = .returned (.tuple #[.agg #[.int .i64 0, .int .i64 0, .string ⟨#[]⟩, .slice none 0 0], .int .i64 10]) ∧ ∀ t : VT, t.wf = true → t.dep ≤ 16 → t.fits → l ≠ t.enc)) ∧ Below w.heap.size w w'

abbrev start (w : World) (a : Option Addr) (n : Nat) : World :=
  ((w.alloc (.cells #[.int .i64 0, .int .i64 0, .string ⟨#[]⟩, .slice none 0 0] 24)).alloc (.cells #[.int .i64 0] 28)).alloc (.cells #[.slice a n n] 57)

/-- The block in which the bytes lie. -/
def home : Option Addr → Nat
  | some p => p.block
  | none => 0

theorem start_facts {w : World} {a : Option Addr} {l : List UInt8} (hi : Inb w a l) :
    Rd (home a) (w.heap.size + 1 + 1) a l (start w a l.length) ∧ Res w.heap.size (start w a l.length) ∧ Below w.heap.size w (start w a l.length) ∧ (start w a l.length).heap.size = w.heap.size + 3 := by
  have hbel : Below w.heap.size w (start w a l.length) := ((below_new _ _).alloc (by simp) _).alloc (by simp; omega) _
  refine ⟨⟨?_, fun p hp => ⟨hi.plain p hp, by rw [hp]; rfl⟩, fun i h => ?_⟩, ⟨⟨.int .i64 0, .int .i64 0, .string ⟨#[]⟩, .slice none 0 0, ?_⟩, .int .i64 0, ?_⟩, hbel, by simp⟩
  · simpa using heap_alloc_new ((w.alloc (.cells #[.int .i64 0, .int .i64 0, .string ⟨#[]⟩, .slice none 0 0] 24)).alloc (.cells #[.int .i64 0] 28)) (.cells #[.slice a l.length l.length] 57)
  · obtain ⟨b1, o1, e, hlt, hcell⟩ := hi.bytes i h
    exact ⟨b1, o1, e, by omega, Nat.lt_of_lt_of_le hlt hbel.size, (hbel.cell (p := ⟨b1, o1 + i, none⟩) hlt).trans hcell⟩
  · rw [Below.heap_alloc _ _ _ (by simp; omega), Below.heap_alloc _ _ _ (by simp)]
    exact heap_alloc_new _ _
  · rw [Below.heap_alloc _ _ _ (by simp)]
    simpa using heap_alloc_new (w.alloc (.cells #[.int .i64 0, .int .i64 0, .string ⟨#[]⟩, .slice none 0 0] 24)) (.cells #[.int .i64 0] 28)

theorem Res.only {X R : Nat} {w w' : World} (h : Res X w) (hg : w.grownBy w' (some R)) (_h1 : X < R) (h2 : X + 1 < R) : Res X w' := by
  obtain ⟨⟨v0, v1, v2, v3, hv⟩, y, he⟩ := h
  exact ⟨⟨v0, v1, v2, v3, (hg.block X (Array.getElem?_eq_some_iff.1 hv).1 (by intro e; injection e with e; omega)).trans hv⟩, y, (hg.block (X + 1) (Array.getElem?_eq_some_iff.1 he).1 (by intro e; injection e with e; omega)).trans he⟩

theorem Res.put {X : Nat} {w : World} (h : Res X w) (v0 v1 v2 v3 : Value) : Res X (put4 w X v0 v1 v2 v3) := by
  obtain ⟨⟨u0, u1, u2, u3, hv⟩, y, he⟩ := h
  refine ⟨⟨v0, v1, v2, v3, ?_⟩, y, by rw [put4_block _ _ _ _ _ _ _ (by omega)]; exact he⟩
  have h1 := heap_setCell_same w X 0 _ _ v0 hv
  have h2 := heap_setCell_same _ X 1 _ _ v1 h1
  have h3 := heap_setCell_same _ X 2 _ _ v2 h2
  have h4 := heap_setCell_same _ X 3 _ _ v3 h3
  exact h4

theorem Res.facts {X : Nat} {w : World} (h : Res X w) : (∃ v0 v1 v2 v3, w.cell? ⟨X, 0, none⟩ = some v0 ∧ w.cell? ⟨X, 1, none⟩ = some v1 ∧ w.cell? ⟨X, 2, none⟩ = some v2 ∧ w.cell? ⟨X, 3, none⟩ = some v3) ∧ (∃ y, w.cell? ⟨X + 1, 0, none⟩ = some y) ∧ (∀ i, w.frozen? ⟨X, i, none⟩ = false) ∧ w.frozen? ⟨X + 1, 0, none⟩ = false := by
  obtain ⟨⟨v0, v1, v2, v3, hv⟩, y, he⟩ := h
  exact ⟨⟨v0, v1, v2, v3, by rw [cell_of_row w X 0 _ _ _ hv]; rfl, by rw [cell_of_row w X 1 _ _ _ hv]; rfl, by rw [cell_of_row w X 2 _ _ _ hv]; rfl, by rw [cell_of_row w X 3 _ _ _ hv]; rfl⟩, ⟨y, by rw [cell_of_row w (X + 1) 0 _ _ _ he]; rfl⟩, fun i => frozen_of_row w X i _ _ hv, frozen_of_row w (X + 1) 0 _ _ he⟩

theorem Res.read {X : Nat} {w : World} (h : Res X w) (v0 v1 v2 v3 : Value) : (put4 w X v0 v1 v2 v3).cell? ⟨X, 0, none⟩ = some v0 ∧ (put4 w X v0 v1 v2 v3).cell? ⟨X, 1, none⟩ = some v1 ∧ (put4 w X v0 v1 v2 v3).cell? ⟨X, 2, none⟩ = some v2 ∧ (put4 w X v0 v1 v2 v3).cell? ⟨X, 3, none⟩ = some v3 := by
  obtain ⟨⟨u0, u1, u2, u3, hv⟩, y, he⟩ := h
  have h1 := heap_setCell_same w X 0 _ _ v0 hv
  have h2 := heap_setCell_same _ X 1 _ _ v1 h1
  have h3 := heap_setCell_same _ X 2 _ _ v2 h2
  have h4 := heap_setCell_same _ X 3 _ _ v3 h3
  exact ⟨by rw [cell_of_row _ X 0 _ _ _ h4]; rfl, by rw [cell_of_row _ X 1 _ _ _ h4]; rfl, by rw [cell_of_row _ X 2 _ _ _ h4]; rfl, by rw [cell_of_row _ X 3 _ _ _ h4]; rfl⟩

theorem Res.last {X : Nat} {w : World} (h : Res X w) (y' : Value) : (w.setCell ⟨X + 1, 0, none⟩ y').cell? ⟨X + 1, 0, none⟩ = some y' ∧ ∀ i, (w.setCell ⟨X + 1, 0, none⟩ y').cell? ⟨X, i, none⟩ = w.cell? ⟨X, i, none⟩ := by
  obtain ⟨_, y, he⟩ := h
  have h1 := heap_setCell_same w (X + 1) 0 _ _ y' he
  exact ⟨by rw [cell_of_row _ (X + 1) 0 _ _ _ h1]; rfl, fun i => World.cell?_of_block (a := ⟨X, i, none⟩) (Below.heap_setCell _ _ _ _ (by simp))⟩

theorem below_put {w w1 : World} (h : Below w.heap.size w w1) (v0 v1 v2 v3 : Value) : Below w.heap.size w (put4 w1 w.heap.size v0 v1 v2 v3) :=
  (((h.setCell (Nat.le_refl _) v0).setCell (Nat.le_refl _) v1).setCell (Nat.le_refl _) v2).setCell (Nat.le_refl _) v3

theorem below_only {w w0 w1 : World} {R : Nat} (h : Below w.heap.size w w0) (hg : w0.grownBy w1 (some R)) (hR : w.heap.size ≤ R) : Below w.heap.size w w1 :=
  h.trans ⟨hg.os, hg.tape, hg.output, hg.size, fun k hk => hg.block k (by have := h.size; omega) (by intro e; injection e with e; omega)⟩

/-- Behind a panic: the two results are set. -/
theorem bad_end {l : List UInt8} {w w1 : World} (hb : Below w.heap.size w w1) (hno : ∀ t : VT, t.wf = true → t.dep ≤ 16 → t.fits → l ≠ t.enc) :
    DecPost l w (.returned (.tuple #[.agg #[.int .i64 0, .int .i64 0, .string ⟨#[]⟩, .slice none 0 0], .int .i64 10])) ((put4 w1 w.heap.size (.int .i64 0) (.int .i64 0) (.string ⟨#[]⟩) (.slice none 0 0)).setCell ⟨w.heap.size + 1, 0, none⟩ (.int .i64 10)) :=
  ⟨.inr ⟨rfl, hno⟩, (below_put hb _ _ _ _).setCell (by simp) _⟩

set_option maxRecDepth 10000 in
set_option maxHeartbeats 1600000 in
theorem decode_some (b o : Nat) (cap : Nat) (l : List UInt8) (w : World) (hi : Inb w (some ⟨b, o, none⟩) l) (hl : l.length ≤ 1000000000) (hc : l.length ≤ cap) (_hcap : cap ≤ 9223372036854775807) :
    Calls Try.prog 18 #[.slice (some ⟨b, o, none⟩) l.length cap] w (DecPost l w) := by
  have hmf : ∀ (fn : Fn) (first cap : Array Value) (w : World), (Instr.makeFunc fn first cap).run Try.prog w = .ok (.func fn first cap) w := fun _ _ _ _ => rfl
  have HF := hide (start_facts hi)
  have HB := hide (fun (w1 : World) (h : Below w.heap.size w w1) (hno : ∀ t : VT, t.wf = true → t.dep ≤ 16 → t.fits → l ≠ t.enc) => bad_end h hno)
  have HG := hide (fun (e : Ending) (w1 : World) (h : DecPost l w e w1) => h)
  go_enter_defers Try.func18, Try.ntmps18
  go_wp2_with fail
  have HV := hide (value_all 16 (by omega) (home (some ⟨b, o, none⟩)) (w.heap.size + 1 + 1) (some ⟨b, o, none⟩) l 16 (start w (some ⟨b, o, none⟩) l.length) (by rfl) HF.out.1 hl)
  refine HV.out.mono ?_
  rintro e w1 ⟨⟨t, rest, a3, rfl, htin, htw, htd, htb, hlu, hrd3⟩ | ⟨rfl, hno⟩, hg2⟩ <;> generalize start w (some ⟨b, o, none⟩) l.length = W0 at *
  · have HT := hide (And.intro htw (And.intro htd hlu))
    clear htw htd hlu
    have hres := hide (HF.out.2.1.only hg2 (by omega) (by omega))
    have hs0 := hg2.size
    have hs3 := HF.out.2.2.2
    have hb1 := hide (below_only HF.out.2.2.1 hg2 (by omega))
    obtain ⟨⟨u0, u1, u2, u3, c0, c1, c2, c3⟩, ⟨y, d0⟩, cf, df⟩ := hres.out.facts
    go_wp2_with fail
    have hp := hide (hres.out.put (.int .i64 t.kind) (.int .i64 t.num) (.string t.str) (.slice (t.adr) t.els.length t.cap))
    have hq := hide (hres.out.read (.int .i64 t.kind) (.int .i64 t.num) (.string t.str) (.slice (t.adr) t.els.length t.cap))
    have hb2 := hide (below_put hb1.out (.int .i64 t.kind) (.int .i64 t.num) (.string t.str) (.slice (t.adr) t.els.length t.cap))
    have hin2 : t.In (put4 w1 w.heap.size (.int .i64 t.kind) (.int .i64 t.num) (.string t.str) (.slice (t.adr) t.els.length t.cap)) := htin.move fun x hx => put4_block _ _ _ _ _ _ _ (by have := (htb x hx).1; omega)
    have hrd4 : Rd (home (some ⟨b, o, none⟩)) (w.heap.size + 1 + 1) a3 rest (put4 w1 w.heap.size (.int .i64 t.kind) (.int .i64 t.num) (.string t.str) (.slice (t.adr) t.els.length t.cap)) := by
      refine ⟨by rw [put4_block _ _ _ _ _ _ _ (by omega)]; exact hrd3.block, hrd3.plain, fun i h => ?_⟩
      obtain ⟨b1, o1, e1, h1, h2, h3⟩ := hrd3.bytes i h
      have hbl : b1 = b := (hrd3.plain _ e1).2
      have hbw : b < w.heap.size := by
        cases hl0 : l with
        | nil =>
          have := congrArg List.length HT.out.2.2
          rw [hl0] at this
          simp at this
          omega
        | cons c l' =>
          obtain ⟨b2, o2, e2, h4, _⟩ := hi.bytes 0 (by rw [hl0]; simp)
          simp only [Option.some.injEq, Addr.mk.injEq, and_true] at e2
          omega
      exact ⟨b1, o1, e1, h1, by rw [put4_size]; exact h2, by rw [World.cell?_of_block (a := ⟨b1, o1 + i, none⟩) (put4_block _ _ _ _ _ _ _ (by show b1 ≠ w.heap.size; omega))]; exact h3⟩
    clear c0 c1 c2 c3 d0 cf df
    change Calls Try.prog 36 _ (put4 w1 w.heap.size (.int .i64 t.kind) (.int .i64 t.num) (.string t.str) (.slice (t.adr) t.els.length t.cap)) _
    generalize put4 w1 w.heap.size (.int .i64 t.kind) (.int .i64 t.num) (.string t.str) (.slice (t.adr) t.els.length t.cap) = W2 at *
    obtain ⟨_, ⟨y2, d0⟩, cf, df⟩ := hp.out.facts
    obtain ⟨c0, c1, c2, c3⟩ := hq.out
    cases rest with
    | nil =>
      refine (end_ok _ _ _ hrd4).mono ?_
      rintro e w2 ⟨rfl, rfl⟩
      go_wp2_with fail
      refine leaves_cons (f := 34) (args := #[.pointer (some ⟨w.heap.size, 0, none⟩), .pointer (some ⟨w.heap.size + 1, 0, none⟩)]) (by simp) (by simp [go_sem]) ?_
      refine (catch_idle w.heap.size ((put4 W2 w.heap.size (.int .i64 t.kind) (.int .i64 t.num) (.string t.str) (.slice (t.adr) t.els.length t.cap)).setCell ⟨w.heap.size + 1, 0, none⟩ (.int .i64 0))).mono ?_
      rintro e u' w'' ⟨rfl, rfl, rfl⟩
      have k1 := (hp.out.put (.int .i64 t.kind) (.int .i64 t.num) (.string t.str) (.slice (t.adr) t.els.length t.cap)).last (.int .i64 0)
      have k2 := hp.out.read (.int .i64 t.kind) (.int .i64 t.num) (.string t.str) (.slice (t.adr) t.els.length t.cap)
      have hin3 : t.In ((put4 W2 w.heap.size (.int .i64 t.kind) (.int .i64 t.num) (.string t.str) (.slice (t.adr) t.els.length t.cap)).setCell ⟨w.heap.size + 1, 0, none⟩ (.int .i64 0)) := hin2.move fun x hx => by
        rw [Below.heap_setCell _ _ _ _ (by have := (htb x hx).1; show x ≠ w.heap.size + 1; omega), put4_block _ _ _ _ _ _ _ (by have := (htb x hx).1; omega)]
      have hb3 := hide ((below_put hb2.out (.int .i64 t.kind) (.int .i64 t.num) (.string t.str) (.slice (t.adr) t.els.length t.cap)).setCell (p := ⟨w.heap.size + 1, 0, none⟩) (by simp) (.int .i64 0))
      generalize (put4 W2 w.heap.size (.int .i64 t.kind) (.int .i64 t.num) (.string t.str) (.slice (t.adr) t.els.length t.cap)).setCell ⟨w.heap.size + 1, 0, none⟩ (.int .i64 0) = W9 at *
      obtain ⟨k0, k1⟩ := k1
      rw [← k1, ← k1, ← k1, ← k1] at k2
      obtain ⟨m0, m1, m2, m3⟩ := k2
      simp [Leaves, settle, results, Try.results18, go_sem, k0, m0, m1, m2, m3]
      obtain ⟨htw, htd, hlu⟩ := HT.out
      exact ⟨.inl ⟨t, rfl, hin3, htw, htd, by simpa using hlu⟩, hb3.out⟩
    | cons c r =>
      refine (end_bad _ _ _ _ hrd4 (by simp)).mono ?_
      rintro e w2 ⟨rfl, rfl⟩
      go_wp2_with fail
      refine leaves_cons (f := 34) (args := #[.pointer (some ⟨w.heap.size, 0, none⟩), .pointer (some ⟨w.heap.size + 1, 0, none⟩)]) (by simp) (by simp [go_sem]) ?_
      refine (catch_panicking w.heap.size 28 _ [] W2 hp.out).mono ?_
      rintro e u' w'' ⟨rfl, rfl, rfl⟩
      have hbb := hide (HB.out W2 hb2.out (fun u a b c h => by
        obtain ⟨htw, htd, hlu⟩ := HT.out
        rw [h] at hlu
        have h9 := (VT.enc_prefix _ u t [] _ (Nat.le_refl _) a htw c (VT.In.fits _ (Nat.le_refl _) hin2) (by simpa using hlu)).2
        cases h9))
      have k1 := (hp.out.put (.int .i64 0) (.int .i64 0) (.string ⟨#[]⟩) (.slice none 0 0)).last (.int .i64 10)
      have k2 := hp.out.read (.int .i64 0) (.int .i64 0) (.string ⟨#[]⟩) (.slice none 0 0)
      generalize (put4 W2 w.heap.size (.int .i64 0) (.int .i64 0) (.string ⟨#[]⟩) (.slice none 0 0)).setCell ⟨w.heap.size + 1, 0, none⟩ (.int .i64 10) = W9 at *
      obtain ⟨k0, k1⟩ := k1
      rw [← k1, ← k1, ← k1, ← k1] at k2
      obtain ⟨m0, m1, m2, m3⟩ := k2
      simp [Leaves, settle, results, Try.results18, go_sem, k0, m0, m1, m2, m3]
      exact hbb.out
  · have HN := hide hno
    clear hno
    go_wp2_with fail
    refine leaves_cons (f := 34) (args := #[.pointer (some ⟨w.heap.size, 0, none⟩), .pointer (some ⟨w.heap.size + 1, 0, none⟩)]) (by simp) (by simp [go_sem]) ?_
    have hres := HF.out.2.1.only hg2 (by omega) (by omega)
    refine (catch_panicking w.heap.size 28 _ [] w1 hres).mono ?_
    rintro e u' w'' ⟨rfl, rfl, rfl⟩
    have hbb := hide (HB.out w1 (below_only HF.out.2.2.1 hg2 (by omega)) (fun t a b c h => HN.out t [] a b c (by simpa using h)))
    have k1 := (hres.put (.int .i64 0) (.int .i64 0) (.string ⟨#[]⟩) (.slice none 0 0)).last (.int .i64 10)
    have k2 := hres.read (.int .i64 0) (.int .i64 0) (.string ⟨#[]⟩) (.slice none 0 0)
    generalize (put4 w1 w.heap.size (.int .i64 0) (.int .i64 0) (.string ⟨#[]⟩) (.slice none 0 0)).setCell ⟨w.heap.size + 1, 0, none⟩ (.int .i64 10) = W9 at *
    obtain ⟨k0, k1⟩ := k1
    rw [← k1, ← k1, ← k1, ← k1] at k2
    obtain ⟨m0, m1, m2, m3⟩ := k2
    simp [Leaves, settle, results, Try.results18, go_sem, k0, m0, m1, m2, m3]
    exact hbb.out

set_option maxRecDepth 10000 in
set_option maxHeartbeats 1600000 in
theorem decode_none (w : World) : Calls Try.prog 18 #[.slice none 0 0] w (DecPost [] w) := by
  have hi : Inb w none [] := ⟨(fun p h => by cases h), (fun i h => by simp at h)⟩
  have hmf : ∀ (fn : Fn) (first cap : Array Value) (w : World), (Instr.makeFunc fn first cap).run Try.prog w = .ok (.func fn first cap) w := fun _ _ _ _ => rfl
  have HF := hide (start_facts hi)
  have HB := hide (fun (w1 : World) (h : Below w.heap.size w w1) (hno : ∀ t : VT, t.wf = true → t.dep ≤ 16 → t.fits → [] ≠ t.enc) => bad_end h hno)
  go_enter_defers Try.func18, Try.ntmps18
  go_wp2_with fail
  have HV := hide (value_all 16 (by omega) (home none) (w.heap.size + 1 + 1) none [] 16 (start w none 0) (by rfl) HF.out.1 (by simp))
  refine HV.out.mono ?_
  rintro e w1 ⟨⟨t, rest, a3, rfl, htin, htw, htd, htb, hlu, hrd3⟩ | ⟨rfl, hno⟩, hg2⟩ <;> generalize start w none 0 = W0 at *
  · exfalso
    refine enc_ne t ?_
    cases he : t.enc with
    | nil => rfl
    | cons c l => rw [he] at hlu; simp at hlu
  · have HN := hide hno
    clear hno
    go_wp2_with fail
    refine leaves_cons (f := 34) (args := #[.pointer (some ⟨w.heap.size, 0, none⟩), .pointer (some ⟨w.heap.size + 1, 0, none⟩)]) (by simp) (by simp [go_sem]) ?_
    have hres := HF.out.2.1.only hg2 (by omega) (by omega)
    refine (catch_panicking w.heap.size 28 _ [] w1 hres).mono ?_
    rintro e u' w'' ⟨rfl, rfl, rfl⟩
    have hbb := hide (HB.out w1 (below_only HF.out.2.2.1 hg2 (by omega)) (fun t a b c h => HN.out t [] a b c (by simpa using h)))
    have k1 := (hres.put (.int .i64 0) (.int .i64 0) (.string ⟨#[]⟩) (.slice none 0 0)).last (.int .i64 10)
    have k2 := hres.read (.int .i64 0) (.int .i64 0) (.string ⟨#[]⟩) (.slice none 0 0)
    generalize (put4 w1 w.heap.size (.int .i64 0) (.int .i64 0) (.string ⟨#[]⟩) (.slice none 0 0)).setCell ⟨w.heap.size + 1, 0, none⟩ (.int .i64 10) = W9 at *
    obtain ⟨k0, k1⟩ := k1
    rw [← k1, ← k1, ← k1, ← k1] at k2
    obtain ⟨m0, m1, m2, m3⟩ := k2
    simp [Leaves, settle, results, Try.results18, go_sem, k0, m0, m1, m2, m3]
    exact hbb.out

/-- Decode, wherever the bytes lie. -/
theorem decode_any (a : Option Addr) (l : List UInt8) (cap : Nat) (w : World) (hi : Inb w a l) (hl : l.length ≤ 1000000000) (hc : l.length ≤ cap) (hcap : cap ≤ 9223372036854775807) (h0 : a = none → cap = 0) :
    Calls Try.prog 18 #[.slice a l.length cap] w (DecPost l w) := by
  cases a with
  | none =>
    obtain rfl : cap = 0 := h0 rfl
    obtain rfl : l = [] := List.eq_nil_of_length_eq_zero (by omega)
    exact decode_none w
  | some p =>
    obtain ⟨b, o, s⟩ := p
    obtain rfl : s = none := hi.plain _ rfl
    exact decode_some b o cap l w hi hl hc hcap
end Go.Proofs.Ytccdencaidopnaa
