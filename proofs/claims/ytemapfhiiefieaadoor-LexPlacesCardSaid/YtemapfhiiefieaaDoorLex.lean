/- Lex. -/
import Derived.Test.YtemapfhiiefieaaDoorAll
import Derived.Recover
namespace Go.Proofs.YtemapfhiiefieaaDoor
open Go.RowKit

/-- The blocks of Lex's three results. -/
structure R3 (X : Nat) (w : World) : Prop where
  a : ∃ v, Blk w X 23 [v]
  b : ∃ v, Blk w (X + 1) 3 [v]
  c : ∃ v, Blk w (X + 2) 24 [v]
abbrev put3 (w : World) (X : Nat) (v0 v1 v2 : Value) : World := ((w.setCell ⟨X, 0, none⟩ v0).setCell ⟨X + 1, 0, none⟩ v1).setCell ⟨X + 2, 0, none⟩ v2
theorem R3.put {X : Nat} {w : World} (h : R3 X w) (v0 v1 v2 : Value) : Blk (put3 w X v0 v1 v2) X 23 [v0] ∧ Blk (put3 w X v0 v1 v2) (X + 1) 3 [v1] ∧ Blk (put3 w X v0 v1 v2) (X + 2) 24 [v2] := by
  obtain ⟨⟨x, hx⟩, ⟨y, hy⟩, ⟨z, hz⟩⟩ := h
  refine ⟨?_, ?_, ?_⟩
  · exact ((hx.set 0 v0).apart (by simp) _).apart (by simp) _
  · exact (((hy.apart (by simp) v0).set 0 v1)).apart (by simp) _
  · exact ((hz.apart (by simp) v0).apart (by simp) v1).set 0 v2
theorem R3.facts {X : Nat} {w : World} (h : R3 X w) : (∃ v, w.cell? ⟨X, 0, none⟩ = some v) ∧ (∃ v, w.cell? ⟨X + 1, 0, none⟩ = some v) ∧ (∃ v, w.cell? ⟨X + 2, 0, none⟩ = some v) ∧ w.frozen? ⟨X, 0, none⟩ = false ∧ w.frozen? ⟨X + 1, 0, none⟩ = false ∧ w.frozen? ⟨X + 2, 0, none⟩ = false := by
  obtain ⟨⟨x, hx⟩, ⟨y, hy⟩, ⟨z, hz⟩⟩ := h
  exact ⟨⟨x, by rw [hx.cell]; rfl⟩, ⟨y, by rw [hy.cell]; rfl⟩, ⟨z, by rw [hz.cell]; rfl⟩, hx.free 0, hy.free 0, hz.free 0⟩
theorem R3.below {X : Nat} {w w' : World} {B : Nat} (h : R3 X w) (hb : Below B w w') (hB : X + 2 < B) : R3 X w' := by
  obtain ⟨⟨x, hx⟩, ⟨y, hy⟩, ⟨z, hz⟩⟩ := h
  exact ⟨⟨x, hx.below hb (by omega)⟩, ⟨y, hy.below hb (by omega)⟩, ⟨z, hz.below hb (by omega)⟩⟩

set_option maxHeartbeats 1600000 in
theorem catch_place (X a : Nat) (w : World) (h : R3 X w) :
    CallsD Tryd.prog 24 #[.pointer (some ⟨X, 0, none⟩), .pointer (some ⟨X + 1, 0, none⟩), .pointer (some ⟨X + 2, 0, none⟩)] (.panicking [{ v := .iface 42 (.int .i64 (a : Nat)), recovered := false }]) w fun e u' w' =>
      e = .returned (.tuple #[]) ∧ u' = .panicking [{ v := .iface 42 (.int .i64 (a : Nat)), recovered := true }] ∧ w' = put3 w X (.slice none 0 0) (.int .i64 (a : Nat)) (.int .i64 30) := by
  obtain ⟨⟨v0, c0⟩, ⟨v1, c1⟩, ⟨v2, c2⟩, f0, f1, f2⟩ := h.facts
  clear h
  refine callsD_of_wpS Tryd.func24 rfl fun c₀ cs hu => ?_
  apply wpS_seq
  apply wpS_region
  simp [wpOpsS, go_sem, recoverD, hu, Tryd.ntmps24, Exit.thenS]
  apply wpS_seq
  apply wpS_region
  simp [wpOpsS, go_sem, Array.replicate, Exit.thenS]
  refine wpS_cond (t := true) (by simp [Act.eval]) ?_
  simp only [if_true]
  apply wpS_seq
  apply wpS_region
  simp [wpOpsS, go_sem, Exit.thenS]
  apply wpS_region
  simp [wpOpsS, go_sem, c0, c1, c2, f0, f1, f2, bodyPostS, results, Tryd.results24]

set_option maxHeartbeats 1600000 in
theorem catch_idle (X : Nat) (w : World) :
    CallsD Tryd.prog 24 #[.pointer (some ⟨X, 0, none⟩), .pointer (some ⟨X + 1, 0, none⟩), .pointer (some ⟨X + 2, 0, none⟩)] .returning w fun e u' w' => e = .returned (.tuple #[]) ∧ u' = .returning ∧ w' = w := by
  refine callsD_of_wpS Tryd.func24 rfl fun c₀ cs hu => ?_
  apply wpS_seq
  apply wpS_region
  simp [wpOpsS, go_sem, recoverD, hu, Tryd.ntmps24, Exit.thenS]
  apply wpS_seq
  apply wpS_region
  simp [wpOpsS, go_sem, Array.replicate, Exit.thenS]
  refine wpS_cond (t := false) (by simp [Act.eval]) ?_
  simp only [Bool.false_eq_true, if_false]
  refine wpS_of_wp (wp_skip ?_)
  cases c₀
  simp_all [bodyPostS, results, Tryd.results24]

set_option maxRecDepth 10000 in
set_option maxHeartbeats 800000 in
theorem newScanner_any (l : List UInt8) (w : World) : Calls Tryd.prog 25 #[.string (str l)] w fun e w' => e = .returned (.pointer (some ⟨w.heap.size, 0, none⟩)) ∧ w' = w.alloc (.cells (scs l 0 (.slice none 0 0)).toArray 49) := by
  go_enter Tryd.func25, Tryd.ntmps25
  go_wp2_with fail
  go_ret
  exact ⟨rfl, rfl⟩
theorem Sc.new (l : List UInt8) (w : World) (hT : Tab w) : Sc w.heap.size l 0 (.slice none 0 0) [] (w.alloc (.cells (scs l 0 (.slice none 0 0)).toArray 49)) :=
  ⟨Blk.new w 49 _, World.ownsRow_nil _ _ 35 4, tab_below hT (below_new w _) (cell_lt (hT 0 (by decide))), cell_lt (hT 0 (by decide))⟩

theorem own_slice {w : World} {base e size n : Nat} {v : Value} {xs : List Value} (h : w.ownsRow base e size v n xs) : ∃ A N C, v = .slice A N C := by
  rcases h.2 with ⟨rfl, _⟩ | ⟨g, cap, cur, rfl, _⟩
  · exact ⟨_, _, _, rfl⟩
  · exact ⟨_, _, _, rfl⟩
theorem ownsRow_lower {w : World} {base base' e size n : Nat} {v : Value} {xs : List Value} (h : w.ownsRow base e size v n xs) (hb : base' ≤ base) : w.ownsRow base' e size v n xs := by
  obtain ⟨h1, h2⟩ := h
  refine ⟨h1, ?_⟩
  rcases h2 with ⟨rfl, h0⟩ | ⟨g, cap, cur, rfl, hg, hrest⟩
  · exact .inl ⟨rfl, h0⟩
  · exact .inr ⟨g, cap, cur, rfl, Nat.le_trans hb hg, hrest⟩
theorem below_put3 {w w2 : World} (h : Below w.heap.size w w2) (v0 v1 v2 : Value) : Below w.heap.size w (put3 w2 w.heap.size v0 v1 v2) :=
  ((h.setCell (p := ⟨w.heap.size, 0, none⟩) (Nat.le_refl _) v0).setCell (p := ⟨w.heap.size + 1, 0, none⟩) (by simp) v1).setCell (p := ⟨w.heap.size + 2, 0, none⟩) (by simp) v2

/-- What Lex answers. -/
def LexPost (l : List UInt8) (w : World) (e : Ending) (w' : World) : Prop :=
  (if 65536 < l.length then e = .returned (.tuple #[.slice none 0 0, .int .i64 0, .int .i64 2])
    else match lexS l with
      | .ok ts => ∃ v, e = .returned (.tuple #[v, .int .i64 0, .int .i64 0]) ∧ w'.ownsRow w.heap.size 35 4 v ts.length (tcs ts)
      | .error p => e = .returned (.tuple #[.slice none 0 0, .int .i64 (p : Nat), .int .i64 30])) ∧ Below w.heap.size w w'

abbrev start (w : World) (e : Int) : World := ((w.alloc (.cells #[.slice none 0 0] 23)).alloc (.cells #[.int .i64 0] 3)).alloc (.cells #[.int .i64 e] 24)
theorem start_facts (w : World) (e : Int) : R3 w.heap.size (start w e) ∧ Blk (start w e) w.heap.size 23 [.slice none 0 0] ∧ Blk (start w e) (w.heap.size + 1) 3 [.int .i64 0] ∧ Blk (start w e) (w.heap.size + 2) 24 [.int .i64 e] ∧ Below w.heap.size w (start w e) ∧ (start w e).heap.size = w.heap.size + 3 := by
  have h1 : Blk (start w e) w.heap.size 23 [.slice none 0 0] := ((Blk.new w 23 [.slice none 0 0]).alloc _).alloc _
  have h2 : Blk (start w e) (w.heap.size + 1) 3 [.int .i64 0] := by
    have := (Blk.new (w.alloc (.cells #[.slice none 0 0] 23)) 3 [.int .i64 0]).alloc (.cells #[.int .i64 e] 24)
    simpa using this
  have h3 : Blk (start w e) (w.heap.size + 2) 24 [.int .i64 e] := by
    have := Blk.new ((w.alloc (.cells #[.slice none 0 0] 23)).alloc (.cells #[.int .i64 0] 3)) 24 [.int .i64 e]
    simpa using this
  exact ⟨⟨⟨_, h1⟩, ⟨_, h2⟩, ⟨_, h3⟩⟩, h1, h2, h3, ((below_new w _).alloc (by simp) _).alloc (by simp; omega) _, by simp⟩

set_option maxRecDepth 10000 in
set_option maxHeartbeats 4000000 in
theorem lex_any (l : List UInt8) (w : World) (hT : Tab w) (hl : l.length ≤ 1000000) : Calls Tryd.prog 12 #[.string (str l)] w (LexPost l w) := by
  have hmf : ∀ (fn : Fn) (first cap : Array Value) (w : World), (Instr.makeFunc fn first cap).run Tryd.prog w = .ok (.func fn first cap) w := fun _ _ _ _ => rfl
  have HT := hide hT
  have hs := str_size l
  clear hT
  by_cases h6 : 65536 < l.length
  · have h6d : decide ((65536 : Int) < (l.length : Int)) = true := by simp; omega
    have HF := hide (start_facts w 2)
    go_enter_defers Tryd.func12, Tryd.ntmps12
    go_wp2_with fail
    have k0 : (start w 2).cell? ⟨w.heap.size, 0, none⟩ = some (.slice none 0 0) := by rw [HF.out.2.1.cell]; rfl
    have k1 : (start w 2).cell? ⟨w.heap.size + 1, 0, none⟩ = some (.int .i64 0) := by rw [HF.out.2.2.1.cell]; rfl
    have k2 : (start w 2).cell? ⟨w.heap.size + 1 + 1, 0, none⟩ = some (.int .i64 2) := by rw [HF.out.2.2.2.1.cell]; rfl
    have HB := hide HF.out.2.2.2.2.1
    change bodyPostD _ _ _ _ _ (start w 2)
    clear HF
    generalize start w 2 = W9 at *
    simp [bodyPostD, Leaves, results, Tryd.results12, go_sem, k0, k1, k2]
    exact ⟨by rw [if_pos h6], HB.out⟩
  · have h6d : decide ((65536 : Int) < (l.length : Int)) = false := by simp; omega
    have HF := hide (start_facts w 0)
    go_enter_defers Tryd.func12, Tryd.ntmps12
    go_wp2_with fail
    refine (newScanner_any l (start w 0)).mono ?_
    rintro e w1 ⟨rfl, rfl⟩
    have HSC := hide (Sc.new l (start w 0) (tab_below HT.out HF.out.2.2.2.2.1 (cell_lt (HT.out 0 (by decide)))))
    have HBN := hide (below_new (start w 0) (.cells (scs l 0 (.slice none 0 0)).toArray 49))
    have HSZ := hide HF.out.2.2.2.2.2
    have HSQ := hide (show Sc (w.heap.size + 1 + 1 + 1) l 0 (.slice none 0 0) [] ((start w 0).alloc (.cells (scs l 0 (.slice none 0 0)).toArray 49)) by have := HSC.out; rw [HSZ.out] at this; exact this)
    have HBQ := hide (show Below (w.heap.size + 1 + 1 + 1) (start w 0) ((start w 0).alloc (.cells (scs l 0 (.slice none 0 0)).toArray 49)) by have := HBN.out; rw [HSZ.out] at this; exact this)
    clear HSC HBN
    go_wp2_with fail
    generalize hW0 : start w 0 = W0 at *
    clear hW0
    refine (readAll_any (w.heap.size + 1 + 1 + 1) l (.slice none 0 0) _ HSQ.out hl).mono ?_
    rintro e w2 hall
    unfold AllPost at hall
    cases hlx : lexS l with
    | ok ts =>
      rw [hlx] at hall
      obtain ⟨rfl, ⟨v, hsc⟩, hbe⟩ := hall
      obtain ⟨Av, Nv, Cv, rfl⟩ := own_slice hsc.own
      have HS2 := hide hsc
      have HB2 := hide (HBQ.out.trans hbe)
      have hr3 := hide (HF.out.1.below HB2.out (by omega))
      obtain ⟨⟨v0, c0⟩, ⟨v1, c1⟩, ⟨v2, c2⟩, f0, f1, f2⟩ := hr3.out.facts
      obtain ⟨_, _, d2, _⟩ := HS2.out.cells
      have HBW := hide (HF.out.2.2.2.2.1.trans (HB2.out.mono (by omega)))
      clear hsc hbe
      go_wp2_with fail
      refine leaves_cons (f := 24) (args := #[.pointer (some ⟨w.heap.size, 0, none⟩), .pointer (some ⟨w.heap.size + 1, 0, none⟩), .pointer (some ⟨w.heap.size + 2, 0, none⟩)]) (by simp) (by simp [go_sem]) ?_
      refine (catch_idle w.heap.size (put3 w2 w.heap.size (.slice Av Nv Cv) (.int .i64 0) (.int .i64 0))).mono ?_
      rintro e u' w'' ⟨rfl, rfl, rfl⟩
      obtain ⟨k0, k1, k2⟩ := hr3.out.put (.slice Av Nv Cv) (.int .i64 0) (.int .i64 0)
      have q0 := k0.cell 0
      have q1 := k1.cell 0
      have q2 := k2.cell 0
      simp only [List.getElem?_cons_zero] at q0 q1 q2
      have HBP := hide (below_put3 HBW.out (.slice Av Nv Cv) (.int .i64 0) (.int .i64 0))
      have HOW : Hid ((put3 w2 w.heap.size (.slice Av Nv Cv) (.int .i64 0) (.int .i64 0)).ownsRow w.heap.size 35 4 (.slice Av Nv Cv) ts.length (tcs ts)) := by
        have h0 := HS2.out.own
        have hk : ∀ (g : Nat) (i : Nat) (w' : World) (u : Value), g ≤ w.heap.size + 2 → w'.ownsRow (w.heap.size + 1 + 1 + 1 + 1) 35 4 (.slice Av Nv Cv) ts.length (tcs ts) → (w'.setCell ⟨g, i, none⟩ u).ownsRow (w.heap.size + 1 + 1 + 1 + 1) 35 4 (.slice Av Nv Cv) ts.length (tcs ts) := fun g i w' u hg ho =>
          World.ownsRow.kept ho (only_setCell (only_refl w' (some g)) (.inl rfl) _) (.inr (fun e => by have := (ho.lt g e).1; omega))
        have h1 := hk (w.heap.size + 2) 0 _ (.int .i64 0) (by omega) (hk (w.heap.size + 1) 0 _ (.int .i64 0) (by omega) (hk w.heap.size 0 w2 (.slice Av Nv Cv) (by omega) h0))
        exact hide (ownsRow_lower h1 (by omega))
      clear k0 k1 k2
      generalize put3 w2 w.heap.size (.slice Av Nv Cv) (.int .i64 0) (.int .i64 0) = W9 at *
      simp [Leaves, settle, results, Tryd.results12, go_sem, q0, q1, q2]
      refine ⟨?_, HBP.out⟩
      rw [if_neg h6, hlx]
      exact ⟨_, rfl, HOW.out⟩
    | error p =>
      rw [hlx] at hall
      obtain ⟨rfl, hbe⟩ := hall
      have HB2 := hide (HBQ.out.trans hbe)
      have hr3 := hide (HF.out.1.below HB2.out (by omega))
      have HBW := hide (HF.out.2.2.2.2.1.trans (HB2.out.mono (by omega)))
      clear hbe
      go_wp2_with fail
      refine leaves_cons (f := 24) (args := #[.pointer (some ⟨w.heap.size, 0, none⟩), .pointer (some ⟨w.heap.size + 1, 0, none⟩), .pointer (some ⟨w.heap.size + 2, 0, none⟩)]) (by simp) (by simp [go_sem]) ?_
      refine (catch_place w.heap.size p w2 hr3.out).mono ?_
      rintro e u' w'' ⟨rfl, rfl, rfl⟩
      obtain ⟨k0, k1, k2⟩ := hr3.out.put (.slice none 0 0) (.int .i64 (p : Nat)) (.int .i64 30)
      have q0 := k0.cell 0
      have q1 := k1.cell 0
      have q2 := k2.cell 0
      simp only [List.getElem?_cons_zero] at q0 q1 q2
      have HBP := hide (below_put3 HBW.out (.slice none 0 0) (.int .i64 (p : Nat)) (.int .i64 30))
      clear k0 k1 k2
      generalize put3 w2 w.heap.size (.slice none 0 0) (.int .i64 (p : Nat)) (.int .i64 30) = W9 at *
      simp [Leaves, settle, results, Tryd.results12, go_sem, q0, q1, q2]
      refine ⟨?_, HBP.out⟩
      rw [if_neg h6, hlx]
end Go.Proofs.YtemapfhiiefieaaDoor
