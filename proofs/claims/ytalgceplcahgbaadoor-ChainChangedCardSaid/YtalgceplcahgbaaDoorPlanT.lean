/- A region that draws its order, by a plan, where two or three may come up. Nothing here speaks of a program. -/
import Derived.Test.YtalgceplcahgbaaDoorPlan
namespace Go.Proofs.YtalgceplcahgbaaDoor
open Go.RowKit

inductive Plan3 where
  | done
  | take (i : Nat) (p : Plan3)
  | run (i : Nat) (p : Plan3)
  | both (i : Nat) (p : Plan3) (j : Nat) (q : Plan3)
  | three (i : Nat) (p : Plan3) (j : Nat) (q : Plan3) (k : Nat) (r : Plan3)

def Plan3.len : Plan3 → Nat
  | .done => 0
  | .take _ p => p.len + 1
  | .run _ p => p.len + 1
  | .both _ p _ _ => p.len + 1
  | .three _ p _ _ _ _ => p.len + 1

def plan3B (md : Region.Mode) (ops : Array Oper) : Plan3 → Array Bool → Bool
  | .done, listed => (Region.ready md ops listed).isEmpty
  | .take i p, listed => (Region.ready md ops listed).contains i && Region.free md ops listed i && plan3B md ops p (listed.setIfInBounds i true)
  | .run i p, listed => decide (Region.ready md ops listed = [i]) && plan3B md ops p (listed.setIfInBounds i true)
  | .both i p j q, listed => decide (Region.ready md ops listed = [i, j]) && decide (p.len = q.len) && plan3B md ops p (listed.setIfInBounds i true) && plan3B md ops q (listed.setIfInBounds j true)
  | .three i p j q k r, listed => decide (Region.ready md ops listed = [i, j, k]) && decide (p.len = q.len) && decide (p.len = r.len) && plan3B md ops p (listed.setIfInBounds i true) && plan3B md ops q (listed.setIfInBounds j true) && plan3B md ops r (listed.setIfInBounds k true)

section
variable {P : Program} {ops : Array Oper} {md : Region.Mode} {Q : Exit → Act → World → Prop} {S : World → Prop}

def wpPlan3 (P : Program) (ops : Array Oper) (Q : Exit → Act → World → Prop) (S : World → Prop) : Plan3 → Act → World → Prop
  | .done, a, w => Q .normal a w
  | .take i p, a, w => ∃ o v, ops[i]? = some o ∧ YieldsIf P ops S o v a ∧ wpPlan3 P ops Q S p (a.put o.dst v) w
  | .run i p, a, w => ∃ o, ops[i]? = some o ∧ wpList P ops (Exit.then (fun a' w' => S w' ∧ wpPlan3 P ops Q S p a' w') Q) [o] a w
  | .both i p j q, a, w => (∃ o, ops[i]? = some o ∧ wpList P ops (Exit.then (fun a' w' => S w' ∧ wpPlan3 P ops Q S p a' w') Q) [o] a w) ∧ (∃ o, ops[j]? = some o ∧ wpList P ops (Exit.then (fun a' w' => S w' ∧ wpPlan3 P ops Q S q a' w') Q) [o] a w)
  | .three i p j q k r, a, w => (∃ o, ops[i]? = some o ∧ wpList P ops (Exit.then (fun a' w' => S w' ∧ wpPlan3 P ops Q S p a' w') Q) [o] a w) ∧ (∃ o, ops[j]? = some o ∧ wpList P ops (Exit.then (fun a' w' => S w' ∧ wpPlan3 P ops Q S q a' w') Q) [o] a w) ∧ (∃ o, ops[k]? = some o ∧ wpList P ops (Exit.then (fun a' w' => S w' ∧ wpPlan3 P ops Q S r a' w') Q) [o] a w)

theorem plan3_sound (hs : Region.noSelect ops = true) (hQ : ∀ c d v a w, Q (.panic c) (Act.put a d v) w → Q (.panic c) a w) : ∀ (p : Plan3) (listed : Array Bool) (a : Act) (w : World), S w → plan3B md ops p listed = true →
    wpPlan3 P ops Q S p a w → wpAnyH P md ops Q S p.len listed a w
  | .done, listed, a, w, _, hB, h => ⟨by simpa [plan3B] using hB, h⟩
  | .take i p, listed, a, w, hS, hB, h => by
    simp only [plan3B, Bool.and_eq_true] at hB
    obtain ⟨o, v, ho, hy, h'⟩ := h
    exact wpAnyH_take ho hs hB.1.2 hB.1.1 (fun c a w => hQ c _ _ a w) hy hS (plan3_sound hs hQ p _ _ w hS hB.2 h')
  | .run i p, listed, a, w, hS, hB, h => by
    simp only [plan3B, Bool.and_eq_true, decide_eq_true_eq] at hB
    obtain ⟨o, ho, h'⟩ := h
    refine ⟨fun h1 => (by rw [hB.1] at h1; cases h1), fun j hj => ?_⟩
    rw [hB.1] at hj
    have hij : j = i := by simpa using hj
    subst hij
    exact wpOp_mono (fun a' w' h2 => ⟨h2.1, plan3_sound hs hQ p _ a' w' h2.1 hB.2 h2.2⟩) (wpOp_of_list ho h')
  | .both i p k q, listed, a, w, hS, hB, h => by
    simp only [plan3B, Bool.and_eq_true, decide_eq_true_eq] at hB
    obtain ⟨⟨⟨hr, hl⟩, hB1⟩, hB2⟩ := hB
    obtain ⟨⟨o1, ho1, h1⟩, ⟨o2, ho2, h2⟩⟩ := h
    refine ⟨fun h1 => (by rw [hr] at h1; cases h1), fun j hj => ?_⟩
    rw [hr] at hj
    rcases List.mem_cons.1 hj with e | hj
    · subst e
      exact wpOp_mono (fun a' w' h3 => ⟨h3.1, plan3_sound hs hQ p _ a' w' h3.1 hB1 h3.2⟩) (wpOp_of_list ho1 h1)
    · have e : j = k := by simpa using hj
      subst e
      exact wpOp_mono (fun a' w' h3 => ⟨h3.1, by rw [hl]; exact plan3_sound hs hQ q _ a' w' h3.1 hB2 h3.2⟩) (wpOp_of_list ho2 h2)
  | .three i p k q m r, listed, a, w, hS, hB, h => by
    simp only [plan3B, Bool.and_eq_true, decide_eq_true_eq] at hB
    obtain ⟨⟨⟨⟨⟨hr, hl⟩, hl2⟩, hB1⟩, hB2⟩, hB3⟩ := hB
    obtain ⟨⟨o1, ho1, h1⟩, ⟨o2, ho2, h2⟩, ⟨o3, ho3, h3⟩⟩ := h
    refine ⟨fun h1 => (by rw [hr] at h1; cases h1), fun j hj => ?_⟩
    rw [hr] at hj
    rcases List.mem_cons.1 hj with e | hj
    · subst e
      exact wpOp_mono (fun a' w' h4 => ⟨h4.1, plan3_sound hs hQ p _ a' w' h4.1 hB1 h4.2⟩) (wpOp_of_list ho1 h1)
    · rcases List.mem_cons.1 hj with e | hj
      · subst e
        exact wpOp_mono (fun a' w' h4 => ⟨h4.1, by rw [hl]; exact plan3_sound hs hQ q _ a' w' h4.1 hB2 h4.2⟩) (wpOp_of_list ho2 h2)
      · have e : j = m := by simpa using hj
        subst e
        exact wpOp_mono (fun a' w' h4 => ⟨h4.1, by rw [hl2]; exact plan3_sound hs hQ r _ a' w' h4.1 hB3 h4.2⟩) (wpOp_of_list ho3 h3)

/-- The region, by a plan. -/
theorem wp_region_plan3 {id : Nat} {a : Act} {w : World} {l : List Oper} (S : World → Prop) (p : Plan3) (hm : P.follows .mixedOrders = true) (hB : (Region.noSelect l.toArray && decide (p.len = l.length) && plan3B .any l.toArray p (Array.replicate l.toArray.size false)) = true) (hS : S w.drew)
    (h : wpPlan3 P l.toArray (NoPanic Q) S p a w.drew) : (Code.region id l.toArray true).wp P Q a w := by
  simp only [Bool.and_eq_true, decide_eq_true_eq] at hB
  refine wp_region_noPanic (wp_region_held (S := S) hm ?_)
  have := plan3_sound (md := .any) (Q := NoPanic Q) hB.1.1 (fun _ _ _ _ _ h => h) p _ a w.drew hS hB.2 h
  rw [hB.1.2] at this
  exact this

variable {p q : Plan3} {o o1 o2 : Oper} {i j : Nat} {a : Act} {w : World}
theorem plan3_take {v : Value} (ho : ops[i]? = some o) (hy : YieldsIf P ops S o v a) (h : wpPlan3 P ops Q S p (a.put o.dst v) w) : wpPlan3 P ops Q S (.take i p) a w := ⟨o, v, ho, hy, h⟩
theorem plan3_run (ho : ops[i]? = some o) (h : ∀ R : Act → World → Prop, Hid (∀ a' w', S w' → wpPlan3 P ops Q S p a' w' → R a' w') → wpList P ops (Exit.then R Q) [o] a w) : wpPlan3 P ops Q S (.run i p) a w :=
  ⟨o, ho, h _ fun _ _ h1 h2 => ⟨h1, h2⟩⟩
theorem plan3_both (ho1 : ops[i]? = some o1) (ho2 : ops[j]? = some o2) (h1 : ∀ R : Act → World → Prop, Hid (∀ a' w', S w' → wpPlan3 P ops Q S p a' w' → R a' w') → wpList P ops (Exit.then R Q) [o1] a w)
    (h2 : ∀ R : Act → World → Prop, Hid (∀ a' w', S w' → wpPlan3 P ops Q S q a' w' → R a' w') → wpList P ops (Exit.then R Q) [o2] a w) : wpPlan3 P ops Q S (.both i p j q) a w :=
  ⟨⟨o1, ho1, h1 _ fun _ _ h1 h2 => ⟨h1, h2⟩⟩, ⟨o2, ho2, h2 _ fun _ _ h1 h2 => ⟨h1, h2⟩⟩⟩
theorem plan3_three {r : Plan3} {o3 : Oper} {k : Nat} (ho1 : ops[i]? = some o1) (ho2 : ops[j]? = some o2) (ho3 : ops[k]? = some o3) (h1 : ∀ R : Act → World → Prop, Hid (∀ a' w', S w' → wpPlan3 P ops Q S p a' w' → R a' w') → wpList P ops (Exit.then R Q) [o1] a w)
    (h2 : ∀ R : Act → World → Prop, Hid (∀ a' w', S w' → wpPlan3 P ops Q S q a' w' → R a' w') → wpList P ops (Exit.then R Q) [o2] a w)
    (h3 : ∀ R : Act → World → Prop, Hid (∀ a' w', S w' → wpPlan3 P ops Q S r a' w' → R a' w') → wpList P ops (Exit.then R Q) [o3] a w) : wpPlan3 P ops Q S (.three i p j q k r) a w :=
  ⟨⟨o1, ho1, h1 _ fun _ _ h1 h2 => ⟨h1, h2⟩⟩, ⟨o2, ho2, h2 _ fun _ _ h1 h2 => ⟨h1, h2⟩⟩, ⟨o3, ho3, h3 _ fun _ _ h1 h2 => ⟨h1, h2⟩⟩⟩
theorem plan3_done (h : Q .normal a w) : wpPlan3 P ops (NoPanic Q) S .done a w := h
end
end Go.Proofs.YtalgceplcahgbaaDoor
