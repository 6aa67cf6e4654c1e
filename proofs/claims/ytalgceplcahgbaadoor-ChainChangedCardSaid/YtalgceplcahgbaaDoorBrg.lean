/- A region that draws its order, by a plan; the operations that come behind all that is taken first need not leave S. Nothing here speaks of a program. -/
import Derived.Test.YtalgceplcahgbaaDoorPlanT
import Derived.OwnWalkIn
import Derived.RangeFuncCalls
namespace Go.Proofs.YtalgceplcahgbaaDoor
open Go.RowKit

inductive Plan4 where
  | done
  | take (i : Nat) (p : Plan4)
  | run (i : Nat) (p : Plan4)
  | last (i : Nat) (p : Plan4)
  | both (i : Nat) (p : Plan4) (j : Nat) (q : Plan4)
  | three (i : Nat) (p : Plan4) (j : Nat) (q : Plan4) (k : Nat) (r : Plan4)

def Plan4.len : Plan4 → Nat
  | .done => 0
  | .take _ p => p.len + 1
  | .run _ p => p.len + 1
  | .last _ p => p.len + 1
  | .both _ p _ _ => p.len + 1
  | .three _ p _ _ _ _ => p.len + 1
def Plan4.takes : Plan4 → List Nat
  | .done => []
  | .take i p => i :: p.takes
  | .run _ p => p.takes
  | .last _ p => p.takes
  | .both _ p _ q => p.takes ++ q.takes
  | .three _ p _ q _ r => p.takes ++ q.takes ++ r.takes
def Plan4.lasts : Plan4 → List Nat
  | .done => []
  | .take _ p => p.lasts
  | .run _ p => p.lasts
  | .last i p => i :: p.lasts
  | .both _ p _ q => p.lasts ++ q.lasts
  | .three _ p _ q _ r => p.lasts ++ q.lasts ++ r.lasts

/-- Each of L waits for each of T. -/
def waitsB (md : Region.Mode) (ops : Array Oper) (T L : List Nat) : Bool :=
  L.all fun j => T.all fun i => match ops[j]? with | some o => o.after.any fun e => Region.binds md e && e.on == i | none => false
theorem waits_spec {md : Region.Mode} {ops : Array Oper} {T L : List Nat} (h : waitsB md ops T L = true) {i j : Nat} (hi : i ∈ T) (hj : j ∈ L) {oj : Oper} (ho : ops[j]? = some oj) : ∃ e ∈ oj.after, Region.binds md e = true ∧ e.on = i := by
  have h1 := List.all_eq_true.1 (List.all_eq_true.1 h j hj) i hi
  rw [ho] at h1
  simp only [Array.any_eq_true] at h1
  obtain ⟨k, hk, h2⟩ := h1
  simp only [Bool.and_eq_true, beq_iff_eq] at h2
  exact ⟨_, Array.getElem_mem hk, h2⟩

def plan4B (md : Region.Mode) (ops : Array Oper) : Plan4 → Array Bool → Bool
  | .done, listed => (Region.ready md ops listed).isEmpty
  | .take i p, listed => (Region.ready md ops listed).contains i && Region.free md ops listed i && plan4B md ops p (listed.setIfInBounds i true)
  | .run i p, listed => decide (Region.ready md ops listed = [i]) && plan4B md ops p (listed.setIfInBounds i true)
  | .last i p, listed => decide (Region.ready md ops listed = [i]) && plan4B md ops p (listed.setIfInBounds i true)
  | .both i p j q, listed => decide (Region.ready md ops listed = [i, j]) && decide (p.len = q.len) && plan4B md ops p (listed.setIfInBounds i true) && plan4B md ops q (listed.setIfInBounds j true)
  | .three i p j q k r, listed => decide (Region.ready md ops listed = [i, j, k]) && decide (p.len = q.len) && decide (p.len = r.len) && plan4B md ops p (listed.setIfInBounds i true) && plan4B md ops q (listed.setIfInBounds j true) && plan4B md ops r (listed.setIfInBounds k true)

section
variable {P : Program} {ops : Array Oper} {md : Region.Mode} {Q : Exit → Act → World → Prop} {S : World → Prop}

/-- Whatever order is picked, and S holds behind every operation that is not of L. -/
def wpAnyL (P : Program) (md : Region.Mode) (ops : Array Oper) (Q : Exit → Act → World → Prop) (S : World → Prop) (L : List Nat) : Nat → Array Bool → Act → World → Prop
  | 0, listed, a, w => Region.ready md ops listed = [] ∧ Q .normal a w
  | fuel + 1, listed, a, w =>
    (Region.ready md ops listed = [] → Q .normal a w) ∧
    ∀ i ∈ Region.ready md ops listed, wpOp P ops Q i (fun a' w' => (i ∉ L → S w') ∧ wpAnyL P md ops Q S L fuel (listed.setIfInBounds i true) a' w') a w

theorem wpAny_of_late {L : List Nat} : ∀ (fuel : Nat) (listed : Array Bool) (a : Act) (w : World), wpAnyL P md ops Q S L fuel listed a w → wpAny P md ops Q fuel listed a w
  | 0, _, _, _, h => h
  | fuel + 1, _, _, _, h => ⟨h.1, fun i hi => wpOp_mono (fun a' w' h' => wpAny_of_late fuel _ a' w' h'.2) (h.2 i hi)⟩

theorem wpAnyL_first {T L : List Nat} (hw : waitsB md ops T L = true) {i : Nat} (hT : i ∈ T) (hL : i ∉ L) {oi : Oper} {v : Value} (hi : ops[i]? = some oi) (hsel : ∀ (j : Nat) (o : Oper) cs b, ops[j]? = some o → o.op ≠ .select cs b)
    (hQ : ∀ c a w, Q (.panic c) (a.put oi.dst v) w → Q (.panic c) a w) :
    ∀ (fuel : Nat) (listed : Array Bool) (a : Act) (w : World),
      (∀ j oj, ops[j]? = some oj → j ≠ i → listed.getD j true = false → (∀ e ∈ oj.after, Region.binds md e = true → e.on ≠ i) → oi.apart ops oj = true) →
      i ∈ Region.ready md ops listed → YieldsIf P ops S oi v a → S w →
      wpAnyL P md ops Q S L fuel (listed.setIfInBounds i true) (a.put oi.dst v) w → wpAnyL P md ops Q S L (fuel + 1) listed a w := by
  intro fuel
  induction fuel with
  | zero =>
    intro listed a w _ hr hy hS H
    refine ⟨fun h => (by rw [h] at hr; cases hr), fun j hj => ?_⟩
    by_cases hji : j = i
    · subst hji; exact hy.wpOp hi hS ⟨fun _ => hS, H⟩
    · have := ready_mono hj hji
      rw [H.1] at this
      cases this
  | succ fuel ih =>
    intro listed a w hfree hr hy hS H
    refine ⟨fun h => (by rw [h] at hr; cases hr), fun j hj => ?_⟩
    by_cases hji : j = i
    · subst hji; exact hy.wpOp hi hS ⟨fun _ => hS, H⟩
    · have h1 := H.2 j (ready_mono hj hji)
      obtain ⟨hjun, oj, hoj, hall⟩ := mem_ready.1 hj
      have hnot : ∀ e ∈ oj.after, Region.binds md e = true → e.on ≠ i := fun e he hb heq => by
        have h1 := hall e he hb
        have h0 := (mem_ready.1 hr).1
        rw [heq] at h1
        rcases Nat.lt_or_ge i listed.size with h' | h'
        · simp [h'] at h0 h1; rw [h0] at h1; cases h1
        · simp [Array.getElem?_eq_none h'] at h1
      have hjL : j ∉ L := fun hjL => by
        obtain ⟨e, he, hb, heq⟩ := waits_spec hw hT hjL hoj
        exact hnot e he hb heq
      have h2 := wpOp_putIf hoj (hfree j oj hoj hji hjun hnot) (fun cs b => hsel i oi cs b hi) (fun cs b => hsel j oj cs b hoj) hQ hy h1
      have hfree' : ∀ k ok, ops[k]? = some ok → k ≠ i → (listed.setIfInBounds j true).getD k true = false →
          (∀ e ∈ ok.after, Region.binds md e = true → e.on ≠ i) → oi.apart ops ok = true := fun k ok hk hki hun hno => by
        refine hfree k ok hk hki ?_ hno
        by_cases hjk : j = k
        · subst hjk; exact hjun
        · rw [getD_set_ne true hjk] at hun; exact hun
      refine wpOp_mono (fun a' w' h3 => ⟨fun _ => h3.2.1 hjL, ih (listed.setIfInBounds j true) a' w' hfree' (ready_mono hr (Ne.symm hji)) h3.1 (h3.2.1 hjL) ?_⟩) h2
      rw [Array.setIfInBounds_comm _ _ hji]
      exact h3.2.2

def wpPlan4 (P : Program) (ops : Array Oper) (Q : Exit → Act → World → Prop) (S : World → Prop) : Plan4 → Act → World → Prop
  | .done, a, w => Q .normal a w
  | .take i p, a, w => ∃ o v, ops[i]? = some o ∧ YieldsIf P ops S o v a ∧ wpPlan4 P ops Q S p (a.put o.dst v) w
  | .run i p, a, w => ∃ o, ops[i]? = some o ∧ wpList P ops (Exit.then (fun a' w' => S w' ∧ wpPlan4 P ops Q S p a' w') Q) [o] a w
  | .last i p, a, w => ∃ o, ops[i]? = some o ∧ wpList P ops (Exit.then (fun a' w' => wpPlan4 P ops Q S p a' w') Q) [o] a w
  | .both i p j q, a, w => (∃ o, ops[i]? = some o ∧ wpList P ops (Exit.then (fun a' w' => S w' ∧ wpPlan4 P ops Q S p a' w') Q) [o] a w) ∧ (∃ o, ops[j]? = some o ∧ wpList P ops (Exit.then (fun a' w' => S w' ∧ wpPlan4 P ops Q S q a' w') Q) [o] a w)
  | .three i p j q k r, a, w => (∃ o, ops[i]? = some o ∧ wpList P ops (Exit.then (fun a' w' => S w' ∧ wpPlan4 P ops Q S p a' w') Q) [o] a w) ∧ (∃ o, ops[j]? = some o ∧ wpList P ops (Exit.then (fun a' w' => S w' ∧ wpPlan4 P ops Q S q a' w') Q) [o] a w) ∧ (∃ o, ops[k]? = some o ∧ wpList P ops (Exit.then (fun a' w' => S w' ∧ wpPlan4 P ops Q S r a' w') Q) [o] a w)

/-- Once something of L has come up, nothing more is taken. -/
def tidyB : Plan4 → Bool
  | .done => true
  | .take _ p => tidyB p
  | .run _ p => tidyB p
  | .last _ p => p.takes.isEmpty && tidyB p
  | .both _ p _ q => tidyB p && tidyB q
  | .three _ p _ q _ r => tidyB p && tidyB q && tidyB r

theorem plan4_sound (hs : Region.noSelect ops = true) (hQ : ∀ c d v a w, Q (.panic c) (Act.put a d v) w → Q (.panic c) a w) {T L : List Nat} (hw : waitsB md ops T L = true) (hTL : ∀ i ∈ T, i ∉ L) : ∀ (p : Plan4) (listed : Array Bool) (a : Act) (w : World), (p.takes = [] ∨ S w) → (∀ i ∈ p.takes, i ∈ T) → (∀ i ∈ p.lasts, i ∈ L) → tidyB p = true → plan4B md ops p listed = true →
    wpPlan4 P ops Q S p a w → wpAnyL P md ops Q S L p.len listed a w
  | .done, listed, a, w, _, _, _, _, hB, h => ⟨by simpa [plan4B] using hB, h⟩
  | .take i p, listed, a, w, hS, hT, hL, hd, hB, h => by
    simp only [plan4B, Bool.and_eq_true] at hB
    obtain ⟨o, v, ho, hy, h'⟩ := h
    have hS' : S w := hS.resolve_left (by simp [Plan4.takes])
    have hiT := hT i (by simp [Plan4.takes])
    exact wpAnyL_first hw hiT (hTL i hiT) ho (Region.noSelect_spec hs) (fun c a w => hQ c _ _ a w) _ listed a w (Region.free_spec ho hB.1.2) (by simpa using hB.1.1) hy hS' (plan4_sound hs hQ hw hTL p _ _ w (.inr hS') (fun j hj => hT j (by simp [Plan4.takes, hj])) hL hd hB.2 h')
  | .run i p, listed, a, w, hS, hT, hL, hd, hB, h => by
    simp only [plan4B, Bool.and_eq_true, decide_eq_true_eq] at hB
    obtain ⟨o, ho, h'⟩ := h
    refine ⟨fun h1 => (by rw [hB.1] at h1; cases h1), fun j hj => ?_⟩
    rw [hB.1] at hj
    have hij : j = i := by simpa using hj
    subst hij
    exact wpOp_mono (fun a' w' h2 => ⟨fun _ => h2.1, plan4_sound hs hQ hw hTL p _ a' w' (.inr h2.1) hT hL hd hB.2 h2.2⟩) (wpOp_of_list ho h')
  | .last i p, listed, a, w, hS, hT, hL, hd, hB, h => by
    simp only [plan4B, Bool.and_eq_true, decide_eq_true_eq] at hB
    simp only [tidyB, Bool.and_eq_true, List.isEmpty_iff] at hd
    obtain ⟨o, ho, h'⟩ := h
    refine ⟨fun h1 => (by rw [hB.1] at h1; cases h1), fun j hj => ?_⟩
    rw [hB.1] at hj
    have hij : j = i := by simpa using hj
    subst hij
    exact wpOp_mono (fun a' w' h2 => ⟨fun hn => absurd (hL j (by simp [Plan4.lasts])) hn, plan4_sound hs hQ hw hTL p _ a' w' (.inl hd.1) hT (fun k hk => hL k (by simp [Plan4.lasts, hk])) hd.2 hB.2 h2⟩) (wpOp_of_list ho h')
  | .both i p k q, listed, a, w, hS, hT, hL, hd, hB, h => by
    simp only [plan4B, Bool.and_eq_true, decide_eq_true_eq] at hB
    simp only [tidyB, Bool.and_eq_true] at hd
    obtain ⟨⟨⟨hr, hl⟩, hB1⟩, hB2⟩ := hB
    obtain ⟨⟨o1, ho1, h1⟩, ⟨o2, ho2, h2⟩⟩ := h
    refine ⟨fun h1 => (by rw [hr] at h1; cases h1), fun j hj => ?_⟩
    rw [hr] at hj
    rcases List.mem_cons.1 hj with e | hj
    · subst e
      exact wpOp_mono (fun a' w' h3 => ⟨fun _ => h3.1, plan4_sound hs hQ hw hTL p _ a' w' (.inr h3.1) (fun j hj => hT j (by simp [Plan4.takes, hj])) (fun j hj => hL j (by simp [Plan4.lasts, hj])) hd.1 hB1 h3.2⟩) (wpOp_of_list ho1 h1)
    · have e : j = k := by simpa using hj
      subst e
      exact wpOp_mono (fun a' w' h3 => ⟨fun _ => h3.1, by rw [hl]; exact plan4_sound hs hQ hw hTL q _ a' w' (.inr h3.1) (fun j hj => hT j (by simp [Plan4.takes, hj])) (fun j hj => hL j (by simp [Plan4.lasts, hj])) hd.2 hB2 h3.2⟩) (wpOp_of_list ho2 h2)
  | .three i p k q m r, listed, a, w, hS, hT, hL, hd, hB, h => by
    simp only [plan4B, Bool.and_eq_true, decide_eq_true_eq] at hB
    simp only [tidyB, Bool.and_eq_true] at hd
    obtain ⟨⟨⟨⟨⟨hr, hl⟩, hl2⟩, hB1⟩, hB2⟩, hB3⟩ := hB
    obtain ⟨⟨o1, ho1, h1⟩, ⟨o2, ho2, h2⟩, ⟨o3, ho3, h3⟩⟩ := h
    refine ⟨fun h1 => (by rw [hr] at h1; cases h1), fun j hj => ?_⟩
    rw [hr] at hj
    rcases List.mem_cons.1 hj with e | hj
    · subst e
      exact wpOp_mono (fun a' w' h4 => ⟨fun _ => h4.1, plan4_sound hs hQ hw hTL p _ a' w' (.inr h4.1) (fun j hj => hT j (by simp [Plan4.takes, hj])) (fun j hj => hL j (by simp [Plan4.lasts, hj])) hd.1.1 hB1 h4.2⟩) (wpOp_of_list ho1 h1)
    · rcases List.mem_cons.1 hj with e | hj
      · subst e
        exact wpOp_mono (fun a' w' h4 => ⟨fun _ => h4.1, by rw [hl]; exact plan4_sound hs hQ hw hTL q _ a' w' (.inr h4.1) (fun j hj => hT j (by simp [Plan4.takes, hj])) (fun j hj => hL j (by simp [Plan4.lasts, hj])) hd.1.2 hB2 h4.2⟩) (wpOp_of_list ho2 h2)
      · have e : j = m := by simpa using hj
        subst e
        exact wpOp_mono (fun a' w' h4 => ⟨fun _ => h4.1, by rw [hl2]; exact plan4_sound hs hQ hw hTL r _ a' w' (.inr h4.1) (fun j hj => hT j (by simp [Plan4.takes, hj])) (fun j hj => hL j (by simp [Plan4.lasts, hj])) hd.2 hB3 h4.2⟩) (wpOp_of_list ho3 h3)

/-- The region, by a plan. -/
theorem wp_region_plan4 {id : Nat} {a : Act} {w : World} {l : List Oper} (S : World → Prop) (p : Plan4) (hm : P.follows .mixedOrders = true)
    (hB : (Region.noSelect l.toArray && decide (p.len = l.length) && plan4B .any l.toArray p (Array.replicate l.toArray.size false) && tidyB p && waitsB .any l.toArray p.takes p.lasts && p.takes.all fun i => !p.lasts.contains i) = true) (hS : S w.drew)
    (h : wpPlan4 P l.toArray (NoPanic Q) S p a w.drew) : (Code.region id l.toArray true).wp P Q a w := by
  simp only [Bool.and_eq_true, decide_eq_true_eq] at hB
  obtain ⟨⟨⟨⟨⟨h1, h2⟩, h3⟩, h4⟩, h5⟩, h6⟩ := hB
  refine wp_region_noPanic (wp_region_any hm (wpAny_of_late (S := S) (L := p.lasts) _ _ _ _ ?_))
  have := plan4_sound (md := .any) (Q := NoPanic Q) h1 (fun _ _ _ _ _ h => h) h5 (fun i hi hl => by have := List.all_eq_true.1 h6 i hi; simp at this; exact this hl) p _ a w.drew (.inr hS) (fun _ h => h) (fun _ h => h) h4 h3 h
  rw [h2] at this
  exact this

variable {p q : Plan4} {o o1 o2 : Oper} {i j : Nat} {a : Act} {w : World}
theorem plan4_take {v : Value} (ho : ops[i]? = some o) (hy : YieldsIf P ops S o v a) (h : wpPlan4 P ops Q S p (a.put o.dst v) w) : wpPlan4 P ops Q S (.take i p) a w := ⟨o, v, ho, hy, h⟩
theorem plan4_run (ho : ops[i]? = some o) (h : ∀ R : Act → World → Prop, Hid (∀ a' w', S w' → wpPlan4 P ops Q S p a' w' → R a' w') → wpList P ops (Exit.then R Q) [o] a w) : wpPlan4 P ops Q S (.run i p) a w :=
  ⟨o, ho, h _ fun _ _ h1 h2 => ⟨h1, h2⟩⟩
theorem plan4_last (ho : ops[i]? = some o) (h : ∀ R : Act → World → Prop, Hid (∀ a' w', wpPlan4 P ops Q S p a' w' → R a' w') → wpList P ops (Exit.then R Q) [o] a w) : wpPlan4 P ops Q S (.last i p) a w :=
  ⟨o, ho, h _ fun _ _ h2 => h2⟩
theorem plan4_both (ho1 : ops[i]? = some o1) (ho2 : ops[j]? = some o2) (h1 : ∀ R : Act → World → Prop, Hid (∀ a' w', S w' → wpPlan4 P ops Q S p a' w' → R a' w') → wpList P ops (Exit.then R Q) [o1] a w)
    (h2 : ∀ R : Act → World → Prop, Hid (∀ a' w', S w' → wpPlan4 P ops Q S q a' w' → R a' w') → wpList P ops (Exit.then R Q) [o2] a w) : wpPlan4 P ops Q S (.both i p j q) a w :=
  ⟨⟨o1, ho1, h1 _ fun _ _ h1 h2 => ⟨h1, h2⟩⟩, ⟨o2, ho2, h2 _ fun _ _ h1 h2 => ⟨h1, h2⟩⟩⟩
theorem plan4_three {r : Plan4} {o3 : Oper} {k : Nat} (ho1 : ops[i]? = some o1) (ho2 : ops[j]? = some o2) (ho3 : ops[k]? = some o3) (h1 : ∀ R : Act → World → Prop, Hid (∀ a' w', S w' → wpPlan4 P ops Q S p a' w' → R a' w') → wpList P ops (Exit.then R Q) [o1] a w)
    (h2 : ∀ R : Act → World → Prop, Hid (∀ a' w', S w' → wpPlan4 P ops Q S q a' w' → R a' w') → wpList P ops (Exit.then R Q) [o2] a w)
    (h3 : ∀ R : Act → World → Prop, Hid (∀ a' w', S w' → wpPlan4 P ops Q S r a' w' → R a' w') → wpList P ops (Exit.then R Q) [o3] a w) : wpPlan4 P ops Q S (.three i p j q k r) a w :=
  ⟨⟨o1, ho1, h1 _ fun _ _ h1 h2 => ⟨h1, h2⟩⟩, ⟨o2, ho2, h2 _ fun _ _ h1 h2 => ⟨h1, h2⟩⟩, ⟨o3, ho3, h3 _ fun _ _ h1 h2 => ⟨h1, h2⟩⟩⟩
theorem plan4_done (h : Q .normal a w) : wpPlan4 P ops (NoPanic Q) S .done a w := h
end
end Go.Proofs.YtalgceplcahgbaaDoor

/- A region within a round of a loop over a function: what holds of it outside of rounds holds within. Nothing here speaks of a program. -/
namespace Go.Proofs.YtalgceplcahgbaaDoor
open Go.RowKit
section
variable {P : Program} {ops : Array Oper} {md : Region.Mode} {Q : Exit → Act → World → Prop} {lr n : Nat}
/-- No operation is a defer statement. -/
def noDefer (ops : Array Oper) : Bool := ops.all fun o => match o.op with | .defer _ => false | _ => true
theorem noDefer_spec (h : noDefer ops = true) {i : Nat} {o : Oper} (ho : ops[i]? = some o) : ∀ c, o.op ≠ .defer c := by
  intro c e
  have h1 := Array.all_eq_true.1 h i (Array.getElem?_eq_some_iff.1 ho).1
  rw [(Array.getElem?_eq_some_iff.1 ho).2, e] at h1
  cases h1
theorem rowsIn_of {row : String} {args : Array Value} {w : World} {R : Value → World → Prop} (h : Rows P row args w R) : RowsIn (Fence.wide.inRound lr) n P row args w R :=
  fun c cs _ => let ⟨v, w', r, s⟩ := h c cs; ⟨v, w', r, stepsIn_wide.2 s⟩
theorem opIn_of_wp {o : Oper} {a : Act} {w : World} {K K' : Act → World → Prop} (hd : ∀ c, o.op ≠ .defer c) (hK : ∀ a w, K a w → K' a w) (h : o.wp P a w K Q) : o.wpIn (Fence.wide.inRound lr) n P a w K' Q := by
  unfold Oper.wp at h
  refine ⟨fun _ _ => trivial, ?_⟩
  rw [Oper.semAt_plain _ _ _ hd]
  generalize (execOp a.eval o).run P w = r at *
  cases r with
  | ok x w' =>
    cases x <;> simp only [Oper.upon] at h <;> simp only [Oper.uponIn] <;>
      first
        | exact hK _ _ h
        | exact ⟨(fun h => by cases h), CallsIn.inRound lr (callsIn_wide.2 (h.mono fun e w'' he => by cases e <;> first | exact hK _ _ he | exact he))⟩
        | exact ⟨(fun h => by cases h), rowsIn_of (h.mono fun _ _ he => hK _ _ he)⟩
  | halt x w' => cases x <;> simp only [Oper.upon] at h <;> simp only [Oper.uponIn] <;> exact h
theorem opsIn_of_wp (hd : noDefer ops = true) (hQ : ¬ LetsOut Q) : ∀ (l : List Nat) (a : Act) (w : World), wpOps P ops Q l a w → wpOpsIn (Fence.wide.inRound lr) n P ops Q l a w
  | [], _, _, h => h
  | i :: l, a, w, h => by
    unfold wpOps at h
    unfold wpOpsIn
    cases ho : ops[i]? with
    | none => simp only [ho] at h ⊢; exact opsIn_of_wp hd hQ l a w h
    | some o =>
      simp only [ho] at h ⊢
      split at h
      · rename_i hw
        rw [if_pos hw]
        exact opIn_of_wp (noDefer_spec hd ho) (fun a w h => opsIn_of_wp hd hQ l a w h) (h.resolve_right fun h => hQ h.2)
      · rename_i hw
        rw [if_neg hw]
        exact ⟨fun _ _ => trivial, opsIn_of_wp hd hQ l _ w h⟩
theorem regionIn_any {id : Nat} {a : Act} {w : World} (hm : P.follows .mixedOrders = true) (hd : noDefer ops = true) (hQ : ¬ LetsOut Q)
    (h : wpAny P .any ops Q ops.size (Array.replicate ops.size false) a w.drew) : (Code.region id ops true).wpIn (Fence.wide.inRound lr) n P Q a w :=
  wpIn_region_draw fun t => by
    simp only [Region.schedule, hm, Bool.true_or, if_true]
    exact opsIn_of_wp hd hQ _ _ _ (wpAny_sound ops.size t _ a _ h)
/-- Q, but 'False' at a panic, and where memory is out. -/
def Calm (Q : Exit → Act → World → Prop) : Exit → Act → World → Prop
  | .panic _, _, _ => False
  | .outgrown, _, _ => False
  | e, a, w => Q e a w
theorem calm_in (Q : Exit → Act → World → Prop) : ¬ LetsOut (Calm Q) := fun ⟨_, _, h⟩ => h
theorem plan4_doneC {S : World → Prop} {a : Act} {w : World} (h : Q .normal a w) : wpPlan4 P ops (Calm Q) S .done a w := h
/-- The region within a round, by a plan. -/
theorem wpIn_region_plan4 {id : Nat} {a : Act} {w : World} {l : List Oper} (S : World → Prop) (p : Plan4) (hm : P.follows .mixedOrders = true)
    (hB : (Region.noSelect l.toArray && decide (p.len = l.length) && plan4B .any l.toArray p (Array.replicate l.toArray.size false) && tidyB p && waitsB .any l.toArray p.takes p.lasts && p.takes.all (fun i => !p.lasts.contains i) && noDefer l.toArray) = true) (hS : S w.drew)
    (h : wpPlan4 P l.toArray (Calm Q) S p a w.drew) : (Code.region id l.toArray true).wpIn (Fence.wide.inRound lr) n P Q a w := by
  simp only [Bool.and_eq_true, decide_eq_true_eq] at hB
  obtain ⟨⟨⟨⟨⟨⟨h1, h2⟩, h3⟩, h4⟩, h5⟩, h6⟩, h7⟩ := hB
  have this := plan4_sound (md := .any) (Q := Calm Q) h1 (fun _ _ _ _ _ h => h) h5 (fun i hi hl => by have := List.all_eq_true.1 h6 i hi; simp at this; exact this hl) p _ a w.drew (.inr hS) (fun _ h => h) (fun _ h => h) h4 h3 h
  rw [h2] at this
  refine wpIn_mono (regionIn_any (Q := Calm Q) hm h7 (calm_in Q) (wpAny_of_late (S := S) (L := p.lasts) _ _ _ _ this)) ?_
  intro e a w h
  cases e <;> first | exact h | exact h.elim
/-- A region that does not draw, within a round. -/
theorem wpIn_region_plain {id : Nat} {a : Act} {w : World} {l : List Oper} (hd : noDefer l.toArray = true) (h : wpList P l.toArray (Calm Q) l a w) : (Code.region id l.toArray false).wpIn (Fence.wide.inRound lr) n P Q a w := by
  refine wpIn_mono (wpIn_region (Q := Calm Q) (opsIn_of_wp hd (calm_in Q) _ _ _ ?_)) ?_
  · rw [List.range_eq_range', ← Array.length_toList, wpOps_eq_wpList l.toArray.toList 0 (by simp)]
    exact h
  · intro e a w h
    cases e <;> first | exact h | exact h.elim
end
end Go.Proofs.YtalgceplcahgbaaDoor
