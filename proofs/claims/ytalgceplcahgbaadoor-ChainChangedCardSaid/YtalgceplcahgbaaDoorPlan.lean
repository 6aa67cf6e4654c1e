/- A region that draws its order, by a plan: which operation is taken first, which is run, and where two may come up. Nothing here speaks of a program. -/
import Derived.Test.YtalgceplcahgbaaDoorHoist
namespace Go.Proofs.YtalgceplcahgbaaDoor
open Go.RowKit

inductive Plan where
  | done
  | take (i : Nat) (p : Plan)
  | run (i : Nat) (p : Plan)
  | both (i : Nat) (p : Plan) (j : Nat) (q : Plan)

def Plan.len : Plan → Nat
  | .done => 0
  | .take _ p => p.len + 1
  | .run _ p => p.len + 1
  | .both _ p _ _ => p.len + 1

def planB (md : Region.Mode) (ops : Array Oper) : Plan → Array Bool → Bool
  | .done, listed => (Region.ready md ops listed).isEmpty
  | .take i p, listed => (Region.ready md ops listed).contains i && Region.free md ops listed i && planB md ops p (listed.setIfInBounds i true)
  | .run i p, listed => decide (Region.ready md ops listed = [i]) && planB md ops p (listed.setIfInBounds i true)
  | .both i p j q, listed => decide (Region.ready md ops listed = [i, j]) && decide (p.len = q.len) && planB md ops p (listed.setIfInBounds i true) && planB md ops q (listed.setIfInBounds j true)

section
variable {P : Program} {ops : Array Oper} {md : Region.Mode} {Q : Exit → Act → World → Prop} {S : World → Prop}

def wpPlan (P : Program) (ops : Array Oper) (Q : Exit → Act → World → Prop) (S : World → Prop) : Plan → Act → World → Prop
  | .done, a, w => Q .normal a w
  | .take i p, a, w => ∃ o v, ops[i]? = some o ∧ YieldsIf P ops S o v a ∧ wpPlan P ops Q S p (a.put o.dst v) w
  | .run i p, a, w => ∃ o, ops[i]? = some o ∧ wpList P ops (Exit.then (fun a' w' => S w' ∧ wpPlan P ops Q S p a' w') Q) [o] a w
  | .both i p j q, a, w => (∃ o, ops[i]? = some o ∧ wpList P ops (Exit.then (fun a' w' => S w' ∧ wpPlan P ops Q S p a' w') Q) [o] a w) ∧ (∃ o, ops[j]? = some o ∧ wpList P ops (Exit.then (fun a' w' => S w' ∧ wpPlan P ops Q S q a' w') Q) [o] a w)

theorem plan_sound (hs : Region.noSelect ops = true) (hQ : ∀ c d v a w, Q (.panic c) (Act.put a d v) w → Q (.panic c) a w) : ∀ (p : Plan) (listed : Array Bool) (a : Act) (w : World), S w → planB md ops p listed = true →
    wpPlan P ops Q S p a w → wpAnyH P md ops Q S p.len listed a w
  | .done, listed, a, w, _, hB, h => ⟨by simpa [planB] using hB, h⟩
  | .take i p, listed, a, w, hS, hB, h => by
    simp only [planB, Bool.and_eq_true] at hB
    obtain ⟨o, v, ho, hy, h'⟩ := h
    exact wpAnyH_take ho hs hB.1.2 hB.1.1 (fun c a w => hQ c _ _ a w) hy hS (plan_sound hs hQ p _ _ w hS hB.2 h')
  | .run i p, listed, a, w, hS, hB, h => by
    simp only [planB, Bool.and_eq_true, decide_eq_true_eq] at hB
    obtain ⟨o, ho, h'⟩ := h
    refine ⟨fun h1 => (by rw [hB.1] at h1; cases h1), fun j hj => ?_⟩
    rw [hB.1] at hj
    have hij : j = i := by simpa using hj
    subst hij
    exact wpOp_mono (fun a' w' h2 => ⟨h2.1, plan_sound hs hQ p _ a' w' h2.1 hB.2 h2.2⟩) (wpOp_of_list ho h')
  | .both i p k q, listed, a, w, hS, hB, h => by
    simp only [planB, Bool.and_eq_true, decide_eq_true_eq] at hB
    obtain ⟨⟨⟨hr, hl⟩, hB1⟩, hB2⟩ := hB
    obtain ⟨⟨o1, ho1, h1⟩, ⟨o2, ho2, h2⟩⟩ := h
    refine ⟨fun h1 => (by rw [hr] at h1; cases h1), fun j hj => ?_⟩
    rw [hr] at hj
    rcases List.mem_cons.1 hj with e | hj
    · subst e
      exact wpOp_mono (fun a' w' h3 => ⟨h3.1, plan_sound hs hQ p _ a' w' h3.1 hB1 h3.2⟩) (wpOp_of_list ho1 h1)
    · have e : j = k := by simpa using hj
      subst e
      exact wpOp_mono (fun a' w' h3 => ⟨h3.1, by rw [hl]; exact plan_sound hs hQ q _ a' w' h3.1 hB2 h3.2⟩) (wpOp_of_list ho2 h2)

/-- The region, by a plan. -/
theorem wp_region_plan {id : Nat} {a : Act} {w : World} {l : List Oper} (S : World → Prop) (p : Plan) (hm : P.follows .mixedOrders = true) (hB : (Region.noSelect l.toArray && decide (p.len = l.length) && planB .any l.toArray p (Array.replicate l.toArray.size false)) = true) (hS : S w.drew)
    (h : wpPlan P l.toArray (NoPanic Q) S p a w.drew) : (Code.region id l.toArray true).wp P Q a w := by
  simp only [Bool.and_eq_true, decide_eq_true_eq] at hB
  refine wp_region_noPanic (wp_region_held (S := S) hm ?_)
  have := plan_sound (md := .any) (Q := NoPanic Q) hB.1.1 (fun _ _ _ _ _ h => h) p _ a w.drew hS hB.2 h
  rw [hB.1.2] at this
  exact this

variable {p q : Plan} {o o1 o2 : Oper} {i j : Nat} {a : Act} {w : World}
theorem plan_take {v : Value} (ho : ops[i]? = some o) (hy : YieldsIf P ops S o v a) (h : wpPlan P ops Q S p (a.put o.dst v) w) : wpPlan P ops Q S (.take i p) a w := ⟨o, v, ho, hy, h⟩
theorem plan_run (ho : ops[i]? = some o) (h : ∀ R : Act → World → Prop, Hid (∀ a' w', S w' → wpPlan P ops Q S p a' w' → R a' w') → wpList P ops (Exit.then R Q) [o] a w) : wpPlan P ops Q S (.run i p) a w :=
  ⟨o, ho, h _ fun _ _ h1 h2 => ⟨h1, h2⟩⟩
theorem plan_both (ho1 : ops[i]? = some o1) (ho2 : ops[j]? = some o2) (h1 : ∀ R : Act → World → Prop, Hid (∀ a' w', S w' → wpPlan P ops Q S p a' w' → R a' w') → wpList P ops (Exit.then R Q) [o1] a w)
    (h2 : ∀ R : Act → World → Prop, Hid (∀ a' w', S w' → wpPlan P ops Q S q a' w' → R a' w') → wpList P ops (Exit.then R Q) [o2] a w) : wpPlan P ops Q S (.both i p j q) a w :=
  ⟨⟨o1, ho1, h1 _ fun _ _ h1 h2 => ⟨h1, h2⟩⟩, ⟨o2, ho2, h2 _ fun _ _ h1 h2 => ⟨h1, h2⟩⟩⟩
theorem plan_done (h : Q .normal a w) : wpPlan P ops (NoPanic Q) S .done a w := h
theorem yields_not (hw : Region.wanted o (yielded ops a.tmps) = false) : YieldsIf P ops S o undef a := .inr ⟨hw, rfl⟩
end
end Go.Proofs.YtalgceplcahgbaaDoor
