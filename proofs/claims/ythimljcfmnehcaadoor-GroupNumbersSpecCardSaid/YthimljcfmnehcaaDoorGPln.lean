/- A region that draws its order: what is taken first, or a plan: which operation is taken, which is run, where two or three may come up; or by an invariant. Nothing here speaks of a program. -/
import Derived.Deep.RegionHeld3
import Derived.WalkKit
import Derived.Below
import Derived.StillTail
namespace Go.Proofs.YthimljcfmnehcaaDoor.Gp

open Go.RowKit

section
variable {P : Program} {ops : Array Oper} {md : Region.Mode} {Q : Exit → Act → World → Prop} {S : World → Prop}

/-- The first ones: each has its value. -/
def hoistHeads (P : Program) (ops : Array Oper) (S : World → Prop) (K : Act → Prop) : List Oper → List Bool → Act → Prop
  | o :: l, true :: bs, a => ∃ v, YieldsIf P ops S o v a ∧ hoistHeads P ops S K l bs (a.put o.dst v)
  | _ :: l, false :: bs, a => hoistHeads P ops S K l bs a
  | _, _, a => K a
/-- The rest, one by one. -/
def hoistTail (P : Program) (ops : Array Oper) (Q : Exit → Act → World → Prop) (S : World → Prop) : List Oper → List Bool → Act → World → Prop
  | _ :: l, true :: bs, a, w => hoistTail P ops Q S l bs a w
  | o :: l, false :: bs, a, w => wpList P ops (Exit.then (fun a' w' => S w' ∧ hoistTail P ops Q S l bs a' w') Q) [o] a w
  | _, _, a, w => Q .normal a w

def tailB (md : Region.Mode) (ops : Array Oper) : List Bool → Nat → Array Bool → Bool
  | true :: bs, k, listed => tailB md ops bs (k + 1) listed
  | false :: bs, k, listed => decide (Region.ready md ops listed = [k]) && tailB md ops bs (k + 1) (listed.setIfInBounds k true)
  | [], _, listed => (Region.ready md ops listed).isEmpty
def headB (md : Region.Mode) (ops : Array Oper) (all : List Bool) : List Bool → Nat → Array Bool → Bool
  | true :: bs, k, listed => (Region.ready md ops listed).contains k && Region.free md ops listed k && headB md ops all bs (k + 1) (listed.setIfInBounds k true)
  | false :: bs, k, listed => headB md ops all bs (k + 1) listed
  | [], _, listed => tailB md ops all 0 listed
def cnt (b : Bool) : List Bool → Nat
  | [] => 0
  | x :: bs => (if x = b then 1 else 0) + cnt b bs
def hoistB (md : Region.Mode) (ops : Array Oper) (bs : List Bool) : Bool :=
  Region.noSelect ops && decide (bs.length = ops.size) && decide (cnt true bs + cnt false bs = ops.size) && headB md ops bs bs 0 (Array.replicate ops.size false)

theorem wpOp_of_list {i : Nat} {o : Oper} {K : Act → World → Prop} {a : Act} {w : World} (hi : ops[i]? = some o) (h : wpList P ops (Exit.then K Q) [o] a w) : wpOp P ops Q i K a w := by
  unfold wpOp
  simp only [hi]
  unfold wpList at h
  split
  · rename_i hw
    rw [if_pos hw] at h
    refine h.imp (fun hh => ?_) (fun hh => ⟨hh.1, hh.2⟩)
    unfold Oper.wp at *
    generalize (execOp a.eval o).run P w = r at *
    cases r with
    | ok n w' =>
      cases n <;> simp only [Oper.upon] at hh ⊢
      case enter f args =>
        refine Calls.mono hh fun e w'' he => ?_
        cases e <;> exact he
      case row r args => exact Rows.mono hh fun v w'' he => he
      all_goals exact hh
    | halt x w' => cases x <;> simp only [Oper.upon] at hh ⊢ <;> exact hh
  · rename_i hw
    rw [if_neg hw] at h
    exact h

theorem tail_sound : ∀ (bs : List Bool) (l : List Oper) (k : Nat) (listed : Array Bool) (a : Act) (w : World), bs.length = l.length → (∀ j, l[j]? = ops[k + j]?) → tailB md ops bs k listed = true →
    hoistTail P ops Q S l bs a w → wpAnyH P md ops Q S (cnt false bs) listed a w
  | [], l, _, _, a, w, hl, _, hB, h => by
    have : l = [] := List.length_eq_zero_iff.1 hl.symm
    subst this
    exact ⟨by simpa [tailB] using hB, h⟩
  | true :: bs, o :: l, k, listed, a, w, hl, hj, hB, h => by
    have := tail_sound bs l (k + 1) listed a w (by simpa using hl) (fun j => by have := hj (j + 1); simpa [Nat.add_assoc, Nat.add_comm 1 j] using this) hB h
    simpa [cnt] using this
  | false :: bs, o :: l, k, listed, a, w, hl, hj, hB, h => by
    have h0 : ops[k]? = some o := by simpa using (hj 0).symm
    simp only [tailB, Bool.and_eq_true, decide_eq_true_eq] at hB
    have hc : cnt false (false :: bs) = cnt false bs + 1 := by simp [cnt, Nat.add_comm]
    rw [hc]
    refine ⟨fun h1 => (by rw [hB.1] at h1; cases h1), fun i hi => ?_⟩
    rw [hB.1] at hi
    have hik : i = k := by simpa using hi
    subst hik
    exact wpOp_mono (fun a' w' h' => ⟨h'.1, tail_sound bs l (i + 1) _ a' w' (by simpa using hl) (fun j => by have := hj (j + 1); simpa [Nat.add_assoc, Nat.add_comm 1 j] using this) hB.2 h'.2⟩) (wpOp_of_list h0 h)
  | _ :: _, [], _, _, _, _, hl, _, _, _ => by simp at hl

theorem head_sound (hs : Region.noSelect ops = true) (hQ : ∀ c d v a w, Q (.panic c) (Act.put a d v) w → Q (.panic c) a w) (all : List Bool) (L : List Oper) (hL : all.length = L.length) (hLj : ∀ j, L[j]? = ops[0 + j]?) :
    ∀ (bs : List Bool) (l : List Oper) (k : Nat) (listed : Array Bool) (a : Act) (w : World), S w → bs.length = l.length → (∀ j, l[j]? = ops[k + j]?) → headB md ops all bs k listed = true →
    hoistHeads P ops S (fun a' => hoistTail P ops Q S L all a' w) l bs a → wpAnyH P md ops Q S (cnt true bs + cnt false all) listed a w
  | [], l, _, listed, a, w, _, hl, _, hB, h => by
    have : l = [] := List.length_eq_zero_iff.1 hl.symm
    subst this
    have := tail_sound (md := md) all L 0 listed a w hL hLj hB h
    simpa [cnt] using this
  | false :: bs, o :: l, k, listed, a, w, hS, hl, hj, hB, h => by
    have := head_sound hs hQ all L hL hLj bs l (k + 1) listed a w hS (by simpa using hl) (fun j => by have := hj (j + 1); simpa [Nat.add_assoc, Nat.add_comm 1 j] using this) hB h
    simpa [cnt] using this
  | true :: bs, o :: l, k, listed, a, w, hS, hl, hj, hB, h => by
    have h0 : ops[k]? = some o := by simpa using (hj 0).symm
    simp only [headB, Bool.and_eq_true] at hB
    obtain ⟨v, hy, h'⟩ := h
    have hc : cnt true (true :: bs) + cnt false all = (cnt true bs + cnt false all) + 1 := by simp [cnt]; omega
    rw [hc]
    exact wpAnyH_take h0 hs hB.1.2 hB.1.1 (fun c a w => hQ c _ _ a w) hy hS (head_sound hs hQ all L hL hLj bs l (k + 1) _ _ w hS (by simpa using hl) (fun j => by have := hj (j + 1); simpa [Nat.add_assoc, Nat.add_comm 1 j] using this) hB.2 h')
  | _ :: _, [], _, _, _, _, _, hl, _, _, _ => by simp at hl

/-- The region: bs says which are taken first. -/
theorem wp_region_hoist {id : Nat} {a : Act} {w : World} {l : List Oper} (S : World → Prop) (bs : List Bool) (hm : P.follows .mixedOrders = true) (hB : hoistB .any l.toArray bs = true) (hS : S w.drew)
    (h : hoistHeads P l.toArray S (fun a' => hoistTail P l.toArray (NoPanic Q) S l bs a' w.drew) l bs a) : (Code.region id l.toArray true).wp P Q a w := by
  simp only [hoistB, Bool.and_eq_true, decide_eq_true_eq] at hB
  refine wp_region_noPanic (wp_region_held (S := S) hm ?_)
  have := head_sound (md := .any) (Q := NoPanic Q) hB.1.1.1 (fun _ _ _ _ _ h => h) bs l (by simpa using hB.1.1.2) (by simp) bs l 0 _ a w.drew hS (by simpa using hB.1.1.2) (by simp) hB.2 h
  rw [hB.1.2] at this
  exact this
end

section
variable {P : Program} {ops : Array Oper} {Q : Exit → Act → World → Prop} {S : World → Prop} {K : Act → Prop} {o : Oper} {l : List Oper} {bs : List Bool} {a : Act} {w : World}
theorem head_take {v : Value} (hy : YieldsIf P ops S o v a) (h : hoistHeads P ops S K l bs (a.put o.dst v)) : hoistHeads P ops S K (o :: l) (true :: bs) a := ⟨v, hy, h⟩
theorem head_skip (h : hoistHeads P ops S K l bs a) : hoistHeads P ops S K (o :: l) (false :: bs) a := h
theorem head_done (h : K a) : hoistHeads P ops S K [] [] a := h
theorem tail_skip (h : hoistTail P ops Q S l bs a w) : hoistTail P ops Q S (o :: l) (true :: bs) a w := h
theorem tail_done (h : Q .normal a w) : hoistTail P ops (NoPanic Q) S [] [] a w := h
/-- One of the rest: S is shown behind it. -/
theorem tail_step (h : ∀ R : Act → World → Prop, Hid (∀ a' w', S w' → hoistTail P ops Q S l bs a' w' → R a' w') → wpList P ops (Exit.then R Q) [o] a w) : hoistTail P ops Q S (o :: l) (false :: bs) a w :=
  h _ fun _ _ h1 h2 => ⟨h1, h2⟩
theorem name_code {c : Code} {P : Program} {Q : Exit → Act → World → Prop} {a : Act} {w : World} (h : ∀ W, Hid (W = w) → c.wp P Q a W) : c.wp P Q a w := h w rfl
theorem yields_run {v : Value} (hw : Region.wanted o (yielded ops a.tmps) = true) (h : ∀ w, S w → (execOp a.eval o).run P w = .ok (.value v) w) : YieldsIf P ops S o v a := .inl ⟨hw, h⟩
end


inductive Plan3 where
  | done
  | take (i : Nat) (p : Plan3)
  | run (i : Nat) (p : Plan3)
  | both (i : Nat) (p : Plan3) (j : Nat) (q : Plan3)
  | three (i : Nat) (p : Plan3) (j : Nat) (q : Plan3) (k : Nat) (r : Plan3)

def Plan3.len : Plan3 → Nat
  | .done => 0
  | .take _ p => p.len + 1
  | .run _ p => p.len + 1
  | .both _ p _ _ => p.len + 1
  | .three _ p _ _ _ _ => p.len + 1

def plan3B (md : Region.Mode) (ops : Array Oper) : Plan3 → Array Bool → Bool
  | .done, listed => (Region.ready md ops listed).isEmpty
  | .take i p, listed => (Region.ready md ops listed).contains i && Region.free md ops listed i && plan3B md ops p (listed.setIfInBounds i true)
  | .run i p, listed => decide (Region.ready md ops listed = [i]) && plan3B md ops p (listed.setIfInBounds i true)
  | .both i p j q, listed => decide (Region.ready md ops listed = [i, j]) && decide (p.len = q.len) && plan3B md ops p (listed.setIfInBounds i true) && plan3B md ops q (listed.setIfInBounds j true)
  | .three i p j q k r, listed => decide (Region.ready md ops listed = [i, j, k]) && decide (p.len = q.len) && decide (p.len = r.len) && plan3B md ops p (listed.setIfInBounds i true) && plan3B md ops q (listed.setIfInBounds j true) && plan3B md ops r (listed.setIfInBounds k true)

section
variable {P : Program} {ops : Array Oper} {md : Region.Mode} {Q : Exit → Act → World → Prop} {S : World → Prop}

def wpPlan3 (P : Program) (ops : Array Oper) (Q : Exit → Act → World → Prop) (S : World → Prop) : Plan3 → Act → World → Prop
  | .done, a, w => Q .normal a w
  | .take i p, a, w => ∃ o v, ops[i]? = some o ∧ YieldsIf P ops S o v a ∧ wpPlan3 P ops Q S p (a.put o.dst v) w
  | .run i p, a, w => ∃ o, ops[i]? = some o ∧ wpList P ops (Exit.then (fun a' w' => S w' ∧ wpPlan3 P ops Q S p a' w') Q) [o] a w
  | .both i p j q, a, w => (∃ o, ops[i]? = some o ∧ wpList P ops (Exit.then (fun a' w' => S w' ∧ wpPlan3 P ops Q S p a' w') Q) [o] a w) ∧ (∃ o, ops[j]? = some o ∧ wpList P ops (Exit.then (fun a' w' => S w' ∧ wpPlan3 P ops Q S q a' w') Q) [o] a w)
  | .three i p j q k r, a, w => (∃ o, ops[i]? = some o ∧ wpList P ops (Exit.then (fun a' w' => S w' ∧ wpPlan3 P ops Q S p a' w') Q) [o] a w) ∧ (∃ o, ops[j]? = some o ∧ wpList P ops (Exit.then (fun a' w' => S w' ∧ wpPlan3 P ops Q S q a' w') Q) [o] a w) ∧ (∃ o, ops[k]? = some o ∧ wpList P ops (Exit.then (fun a' w' => S w' ∧ wpPlan3 P ops Q S r a' w') Q) [o] a w)

theorem plan3_sound (hs : Region.noSelect ops = true) (hQ : ∀ c d v a w, Q (.panic c) (Act.put a d v) w → Q (.panic c) a w) : ∀ (p : Plan3) (listed : Array Bool) (a : Act) (w : World), S w → plan3B md ops p listed = true →
    wpPlan3 P ops Q S p a w → wpAnyH P md ops Q S p.len listed a w
  | .done, listed, a, w, _, hB, h => ⟨by simpa [plan3B] using hB, h⟩
  | .take i p, listed, a, w, hS, hB, h => by
    simp only [plan3B, Bool.and_eq_true] at hB
    obtain ⟨o, v, ho, hy, h'⟩ := h
    exact wpAnyH_take ho hs hB.1.2 hB.1.1 (fun c a w => hQ c _ _ a w) hy hS (plan3_sound hs hQ p _ _ w hS hB.2 h')
  | .run i p, listed, a, w, hS, hB, h => by
    simp only [plan3B, Bool.and_eq_true, decide_eq_true_eq] at hB
    obtain ⟨o, ho, h'⟩ := h
    refine ⟨fun h1 => (by rw [hB.1] at h1; cases h1), fun j hj => ?_⟩
    rw [hB.1] at hj
    have hij : j = i := by simpa using hj
    subst hij
    exact wpOp_mono (fun a' w' h2 => ⟨h2.1, plan3_sound hs hQ p _ a' w' h2.1 hB.2 h2.2⟩) (wpOp_of_list ho h')
  | .both i p k q, listed, a, w, hS, hB, h => by
    simp only [plan3B, Bool.and_eq_true, decide_eq_true_eq] at hB
    obtain ⟨⟨⟨hr, hl⟩, hB1⟩, hB2⟩ := hB
    obtain ⟨⟨o1, ho1, h1⟩, ⟨o2, ho2, h2⟩⟩ := h
    refine ⟨fun h1 => (by rw [hr] at h1; cases h1), fun j hj => ?_⟩
    rw [hr] at hj
    rcases List.mem_cons.1 hj with e | hj
    · subst e
      exact wpOp_mono (fun a' w' h3 => ⟨h3.1, plan3_sound hs hQ p _ a' w' h3.1 hB1 h3.2⟩) (wpOp_of_list ho1 h1)
    · have e : j = k := by simpa using hj
      subst e
      exact wpOp_mono (fun a' w' h3 => ⟨h3.1, by rw [hl]; exact plan3_sound hs hQ q _ a' w' h3.1 hB2 h3.2⟩) (wpOp_of_list ho2 h2)
  | .three i p k q m r, listed, a, w, hS, hB, h => by
    simp only [plan3B, Bool.and_eq_true, decide_eq_true_eq] at hB
    obtain ⟨⟨⟨⟨⟨hr, hl⟩, hl2⟩, hB1⟩, hB2⟩, hB3⟩ := hB
    obtain ⟨⟨o1, ho1, h1⟩, ⟨o2, ho2, h2⟩, ⟨o3, ho3, h3⟩⟩ := h
    refine ⟨fun h1 => (by rw [hr] at h1; cases h1), fun j hj => ?_⟩
    rw [hr] at hj
    rcases List.mem_cons.1 hj with e | hj
    · subst e
      exact wpOp_mono (fun a' w' h4 => ⟨h4.1, plan3_sound hs hQ p _ a' w' h4.1 hB1 h4.2⟩) (wpOp_of_list ho1 h1)
    · rcases List.mem_cons.1 hj with e | hj
      · subst e
        exact wpOp_mono (fun a' w' h4 => ⟨h4.1, by rw [hl]; exact plan3_sound hs hQ q _ a' w' h4.1 hB2 h4.2⟩) (wpOp_of_list ho2 h2)
      · have e : j = m := by simpa using hj
        subst e
        exact wpOp_mono (fun a' w' h4 => ⟨h4.1, by rw [hl2]; exact plan3_sound hs hQ r _ a' w' h4.1 hB3 h4.2⟩) (wpOp_of_list ho3 h3)

/-- The region, by a plan. -/
theorem wp_region_plan3 {id : Nat} {a : Act} {w : World} {l : List Oper} (S : World → Prop) (p : Plan3) (hm : P.follows .mixedOrders = true) (hB : (Region.noSelect l.toArray && decide (p.len = l.length) && plan3B .any l.toArray p (Array.replicate l.toArray.size false)) = true) (hS : S w.drew)
    (h : wpPlan3 P l.toArray (NoPanic Q) S p a w.drew) : (Code.region id l.toArray true).wp P Q a w := by
  simp only [Bool.and_eq_true, decide_eq_true_eq] at hB
  refine wp_region_noPanic (wp_region_held (S := S) hm ?_)
  have := plan3_sound (md := .any) (Q := NoPanic Q) hB.1.1 (fun _ _ _ _ _ h => h) p _ a w.drew hS hB.2 h
  rw [hB.1.2] at this
  exact this

variable {p q : Plan3} {o o1 o2 : Oper} {i j : Nat} {a : Act} {w : World}
theorem plan3_take {v : Value} (ho : ops[i]? = some o) (hy : YieldsIf P ops S o v a) (h : wpPlan3 P ops Q S p (a.put o.dst v) w) : wpPlan3 P ops Q S (.take i p) a w := ⟨o, v, ho, hy, h⟩
theorem plan3_run (ho : ops[i]? = some o) (h : ∀ R : Act → World → Prop, Hid (∀ a' w', S w' → wpPlan3 P ops Q S p a' w' → R a' w') → wpList P ops (Exit.then R Q) [o] a w) : wpPlan3 P ops Q S (.run i p) a w :=
  ⟨o, ho, h _ fun _ _ h1 h2 => ⟨h1, h2⟩⟩
theorem plan3_both (ho1 : ops[i]? = some o1) (ho2 : ops[j]? = some o2) (h1 : ∀ R : Act → World → Prop, Hid (∀ a' w', S w' → wpPlan3 P ops Q S p a' w' → R a' w') → wpList P ops (Exit.then R Q) [o1] a w)
    (h2 : ∀ R : Act → World → Prop, Hid (∀ a' w', S w' → wpPlan3 P ops Q S q a' w' → R a' w') → wpList P ops (Exit.then R Q) [o2] a w) : wpPlan3 P ops Q S (.both i p j q) a w :=
  ⟨⟨o1, ho1, h1 _ fun _ _ h1 h2 => ⟨h1, h2⟩⟩, ⟨o2, ho2, h2 _ fun _ _ h1 h2 => ⟨h1, h2⟩⟩⟩
theorem plan3_three {r : Plan3} {o3 : Oper} {k : Nat} (ho1 : ops[i]? = some o1) (ho2 : ops[j]? = some o2) (ho3 : ops[k]? = some o3) (h1 : ∀ R : Act → World → Prop, Hid (∀ a' w', S w' → wpPlan3 P ops Q S p a' w' → R a' w') → wpList P ops (Exit.then R Q) [o1] a w)
    (h2 : ∀ R : Act → World → Prop, Hid (∀ a' w', S w' → wpPlan3 P ops Q S q a' w' → R a' w') → wpList P ops (Exit.then R Q) [o2] a w)
    (h3 : ∀ R : Act → World → Prop, Hid (∀ a' w', S w' → wpPlan3 P ops Q S r a' w' → R a' w') → wpList P ops (Exit.then R Q) [o3] a w) : wpPlan3 P ops Q S (.three i p j q k r) a w :=
  ⟨⟨o1, ho1, h1 _ fun _ _ h1 h2 => ⟨h1, h2⟩⟩, ⟨o2, ho2, h2 _ fun _ _ h1 h2 => ⟨h1, h2⟩⟩, ⟨o3, ho3, h3 _ fun _ _ h1 h2 => ⟨h1, h2⟩⟩⟩
theorem plan3_done (h : Q .normal a w) : wpPlan3 P ops (NoPanic Q) S .done a w := h
end

section
theorem yields_not {P : Program} {ops : Array Oper} {S : World → Prop} {o : Oper} {a : Act} (hw : Region.wanted o (yielded ops a.tmps) = false) : YieldsIf P ops S o undef a := .inr ⟨hw, rfl⟩
end


/-- Each operation waits for earlier ones alone. -/
def backB (md : Region.Mode) (ops : Array Oper) : Bool :=
  (List.range ops.size).all fun i => match ops[i]? with
    | some o => o.after.all fun e => !Region.binds md e || decide (e.on < i)
    | none => true

section
variable {P : Program} {ops : Array Oper} {md : Region.Mode} {Q : Exit → Act → World → Prop}

def unl (n : Nat) (listed : Array Bool) : Nat := ((List.range n).filter fun i => !listed.getD i true).length

theorem filter_set {n i : Nat} {listed : Array Bool} (hi : i < n) (hs : listed.size = n) (hu : listed.getD i true = false) : unl n (listed.setIfInBounds i true) + 1 = unl n listed := by
  subst hs
  unfold unl
  have key : ∀ (l : List Nat), l.Nodup → i ∈ l → (l.filter fun j => !(listed.setIfInBounds i true).getD j true).length + 1 = (l.filter fun j => !listed.getD j true).length := by
    intro l hl hm
    induction l with
    | nil => cases hm
    | cons x l ih =>
      rw [List.nodup_cons] at hl
      by_cases hx : x = i
      · subst hx
        have h1 : (listed.setIfInBounds x true).getD x true = true := by simp [Array.getD_eq_getD_getElem?, hi]
        have h2 : (l.filter fun j => !(listed.setIfInBounds x true).getD j true) = l.filter fun j => !listed.getD j true := by
          apply List.filter_congr
          intro y hy
          have hne : x ≠ y := fun e => hl.1 (e ▸ hy)
          rw [getD_set_ne true hne]
        rw [List.filter_cons, List.filter_cons, h1, hu, h2, Bool.not_true, Bool.not_false, if_neg (by decide), if_pos rfl, List.length_cons]
      · have hm' : i ∈ l := by
          rcases List.mem_cons.1 hm with e | h
          · exact absurd e.symm hx
          · exact h
        have := ih hl.2 hm'
        have hg : (listed.setIfInBounds i true).getD x true = listed.getD x true := getD_set_ne true (fun e => hx e.symm)
        rw [List.filter_cons, List.filter_cons, hg]
        split
        · simp only [List.length_cons]; omega
        · exact this
  exact key _ List.nodup_range (List.mem_range.2 hi)

theorem ready_ex {n : Nat} {listed : Array Bool} (hn : ops.size = n) (hs : listed.size = n) (hb : backB md ops = true) (h : Region.ready md ops listed = []) : ∀ i, i < n → listed.getD i true = true := by
  intro i
  induction i using Nat.strongRecOn with
  | _ i ih =>
    intro hi
    cases hu : listed.getD i true with
    | true => rfl
    | false =>
      have ho : ops[i]? = some ops[i] := Array.getElem?_eq_getElem (by omega)
      have hmem : i ∈ Region.ready md ops listed := by
        refine mem_ready.2 ⟨hu, _, ho, fun e he hbd => ?_⟩
        have h1 := List.all_eq_true.1 hb i (List.mem_range.2 (by omega))
        rw [ho] at h1
        have h2 := Array.all_eq_true_iff_forall_mem.1 h1 e he
        simp only [hbd, Bool.not_true, Bool.false_or, decide_eq_true_eq] at h2
        have h3 := ih e.on h2 (by omega)
        have : e.on < listed.size := by omega
        simp [this] at h3 ⊢
        exact h3
      rw [h] at hmem
      cases hmem

theorem inv_sound (n : Nat) (hn : ops.size = n) (hb : backB md ops = true) (B : Act → World → Prop) (I : Nat → Act → World → Prop)
    (hstep : ∀ i o, ops[i]? = some o → ∀ a w, B a w → (∀ e ∈ o.after, Region.binds md e = true → I e.on a w) → wpOp P ops Q i (fun a' w' => B a' w' ∧ I i a' w' ∧ ∀ j, j < n → j ≠ i → (∀ oj, ops[j]? = some oj → ∀ e ∈ oj.after, Region.binds md e = true → e.on ≠ i) → I j a w → I j a' w') a w)
    (hfin : ∀ a w, B a w → (∀ j, j < n → I j a w) → Q .normal a w) : ∀ (fuel : Nat) (listed : Array Bool) (a : Act) (w : World), listed.size = n → unl n listed = fuel → (∀ j oj, ops[j]? = some oj → listed.getD j true = true → ∀ e ∈ oj.after, Region.binds md e = true → listed.getD e.on false = true) → B a w → (∀ j, j < n → listed.getD j true = true → I j a w) → wpAny P md ops Q fuel listed a w := by
  have fin : ∀ (listed : Array Bool) (a : Act) (w : World), listed.size = n → B a w → (∀ j, j < n → listed.getD j true = true → I j a w) → Region.ready md ops listed = [] → Q .normal a w := fun listed a w hs hB hI hr =>
    hfin a w hB fun j hj => hI j hj (ready_ex hn hs hb hr j hj)
  intro fuel
  induction fuel with
  | zero =>
    intro listed a w hs hu _ hB hI
    have hr : Region.ready md ops listed = [] := by
      cases h : Region.ready md ops listed with
      | nil => rfl
      | cons x xs =>
        have hx : x ∈ Region.ready md ops listed := by rw [h]; exact List.mem_cons_self
        obtain ⟨h1, o, h2, _⟩ := mem_ready.1 hx
        have hlt := (Array.getElem?_eq_some_iff.1 h2).1
        have := filter_set (n := n) (by omega) hs h1
        omega
    exact ⟨hr, fin listed a w hs hB hI hr⟩
  | succ fuel ih =>
    intro listed a w hs hu hcl hB hI
    refine ⟨fin listed a w hs hB hI, fun i hi => ?_⟩
    obtain ⟨h1, o, h2, h3⟩ := mem_ready.1 hi
    have hlt : i < n := by have := (Array.getElem?_eq_some_iff.1 h2).1; omega
    refine wpOp_mono (fun a' w' h => ?_) (hstep i o h2 a w hB fun e he hbd => hI e.on ?_ ?_)
    · obtain ⟨hB', hIi, hk⟩ := h
      have hset := filter_set hlt hs h1
      refine ih _ a' w' (by simp [hs]) (by omega) (fun j oj hoj hl e he hbd => ?_) hB' fun j hj hl => ?_
      · by_cases hji : j = i
        · subst hji
          have : oj = o := Option.some.inj (hoj.symm.trans h2)
          subst this
          exact getD_set_true (h3 e he hbd)
        · rw [getD_set_ne true (fun e => hji e.symm)] at hl
          exact getD_set_true (hcl j oj hoj hl e he hbd)
      by_cases hji : j = i
      · subst hji; exact hIi
      · rw [getD_set_ne true (fun e => hji e.symm)] at hl
        refine hk j hj hji (fun oj hoj e he hbd hei => ?_) (hI j hj hl)
        have h4 := hcl j oj hoj hl e he hbd
        rw [hei, getD_both h1] at h4
        cases h4
    · have := h3 e he hbd
      by_cases hlt2 : e.on < listed.size
      · omega
      · simp [Array.getElem?_eq_none (by omega : listed.size ≤ e.on)] at this
    · have := h3 e he hbd
      by_cases hlt2 : e.on < listed.size
      · simp [hlt2] at this ⊢; exact this
      · simp [Array.getElem?_eq_none (by omega : listed.size ≤ e.on)] at this

/-- The region, by an invariant. -/
theorem wp_region_inv {id : Nat} {a : Act} {w : World} {l : List Oper} (B : Act → World → Prop) (I : Nat → Act → World → Prop) (hm : P.follows .mixedOrders = true) (hb : backB .any l.toArray = true) (hB : B a w.drew)
    (hstep : ∀ i o, l[i]? = some o → ∀ a w, B a w → (∀ e ∈ o.after, Region.binds .any e = true → I e.on a w) → ∀ R : Act → World → Prop, Hid (∀ a' w', B a' w' → I i a' w' → (∀ j, j < l.length → j ≠ i → (∀ oj, l[j]? = some oj → ∀ e ∈ oj.after, Region.binds .any e = true → e.on ≠ i) → I j a w → I j a' w') → R a' w') → wpList P l.toArray (Exit.then R (NoPanic Q)) [o] a w)
    (hfin : ∀ a w, B a w → (∀ j, j < l.length → I j a w) → Q .normal a w) : (Code.region id l.toArray true).wp P Q a w := by
  refine wp_region_noPanic (wp_region_any hm ?_)
  refine inv_sound (Q := NoPanic Q) l.length (by simp) hb B I (fun i o ho a w hB hI => wpOp_of_list ho (hstep i o (by simpa using ho) a w hB hI _ (fun a' w' h1 h2 h3 => ⟨h1, h2, fun j hj hne hno => h3 j hj hne (fun oj hoj => hno oj (by simpa using hoj))⟩))) hfin l.toArray.size _ a _ (by simp) ?_ ?_ hB ?_
  · unfold unl
    have : ((List.range l.length).filter fun i => !(Array.replicate l.toArray.size false).getD i true) = List.range l.length := by
      rw [List.filter_eq_self]
      intro i hi
      have := List.mem_range.1 hi
      simp [this]
    rw [this]; simp
  · intro j oj hoj hl
    have hj := (Array.getElem?_eq_some_iff.1 hoj).1
    simp at hj
    simp [hj] at hl
  · intro j hj hl
    simp [hj] at hl
end
end Go.Proofs.YthimljcfmnehcaaDoor.Gp
