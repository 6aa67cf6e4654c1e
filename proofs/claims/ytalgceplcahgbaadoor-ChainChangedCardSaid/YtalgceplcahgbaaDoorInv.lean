/- A region that draws its order, by an invariant: what each operation leaves, and that the others let it be. Nothing here speaks of a program. -/
import Derived.Test.YtalgceplcahgbaaDoorPlan
import Derived.StillTail
namespace Go.Proofs.YtalgceplcahgbaaDoor
open Go.RowKit

/-- Each operation waits for earlier ones alone. -/
def backB (md : Region.Mode) (ops : Array Oper) : Bool :=
  (List.range ops.size).all fun i => match ops[i]? with
    | some o => o.after.all fun e => !Region.binds md e || decide (e.on < i)
    | none => true

section
variable {P : Program} {ops : Array Oper} {md : Region.Mode} {Q : Exit → Act → World → Prop}

def unl (n : Nat) (listed : Array Bool) : Nat := ((List.range n).filter fun i => !listed.getD i true).length

theorem filter_set {n i : Nat} {listed : Array Bool} (hi : i < n) (hs : listed.size = n) (hu : listed.getD i true = false) : unl n (listed.setIfInBounds i true) + 1 = unl n listed := by
  subst hs
  unfold unl
  have key : ∀ (l : List Nat), l.Nodup → i ∈ l → (l.filter fun j => !(listed.setIfInBounds i true).getD j true).length + 1 = (l.filter fun j => !listed.getD j true).length := by
    intro l hl hm
    induction l with
    | nil => cases hm
    | cons x l ih =>
      rw [List.nodup_cons] at hl
      by_cases hx : x = i
      · subst hx
        have h1 : (listed.setIfInBounds x true).getD x true = true := by simp [Array.getD_eq_getD_getElem?, hi]
        have h2 : (l.filter fun j => !(listed.setIfInBounds x true).getD j true) = l.filter fun j => !listed.getD j true := by
          apply List.filter_congr
          intro y hy
          have hne : x ≠ y := fun e => hl.1 (e ▸ hy)
          rw [getD_set_ne true hne]
        rw [List.filter_cons, List.filter_cons, h1, hu, h2, Bool.not_true, Bool.not_false, if_neg (by decide), if_pos rfl, List.length_cons]
      · have hm' : i ∈ l := by
          rcases List.mem_cons.1 hm with e | h
          · exact absurd e.symm hx
          · exact h
        have := ih hl.2 hm'
        have hg : (listed.setIfInBounds i true).getD x true = listed.getD x true := getD_set_ne true (fun e => hx e.symm)
        rw [List.filter_cons, List.filter_cons, hg]
        split
        · simp only [List.length_cons]; omega
        · exact this
  exact key _ List.nodup_range (List.mem_range.2 hi)

theorem ready_ex {n : Nat} {listed : Array Bool} (hn : ops.size = n) (hs : listed.size = n) (hb : backB md ops = true) (h : Region.ready md ops listed = []) : ∀ i, i < n → listed.getD i true = true := by
  intro i
  induction i using Nat.strongRecOn with
  | _ i ih =>
    intro hi
    cases hu : listed.getD i true with
    | true => rfl
    | false =>
      have ho : ops[i]? = some ops[i] := Array.getElem?_eq_getElem (by omega)
      have hmem : i ∈ Region.ready md ops listed := by
        refine mem_ready.2 ⟨hu, _, ho, fun e he hbd => ?_⟩
        have h1 := List.all_eq_true.1 hb i (List.mem_range.2 (by omega))
        rw [ho] at h1
        have h2 := Array.all_eq_true_iff_forall_mem.1 h1 e he
        simp only [hbd, Bool.not_true, Bool.false_or, decide_eq_true_eq] at h2
        have h3 := ih e.on h2 (by omega)
        have : e.on < listed.size := by omega
        simp [this] at h3 ⊢
        exact h3
      rw [h] at hmem
      cases hmem

theorem inv_sound (n : Nat) (hn : ops.size = n) (hb : backB md ops = true) (B : Act → World → Prop) (I : Nat → Act → World → Prop)
    (hstep : ∀ i o, ops[i]? = some o → ∀ a w, B a w → (∀ e ∈ o.after, Region.binds md e = true → I e.on a w) → wpOp P ops Q i (fun a' w' => B a' w' ∧ I i a' w' ∧ ∀ j, j < n → j ≠ i → (∀ oj, ops[j]? = some oj → ∀ e ∈ oj.after, Region.binds md e = true → e.on ≠ i) → I j a w → I j a' w') a w)
    (hfin : ∀ a w, B a w → (∀ j, j < n → I j a w) → Q .normal a w) : ∀ (fuel : Nat) (listed : Array Bool) (a : Act) (w : World), listed.size = n → unl n listed = fuel → (∀ j oj, ops[j]? = some oj → listed.getD j true = true → ∀ e ∈ oj.after, Region.binds md e = true → listed.getD e.on false = true) → B a w → (∀ j, j < n → listed.getD j true = true → I j a w) → wpAny P md ops Q fuel listed a w := by
  have fin : ∀ (listed : Array Bool) (a : Act) (w : World), listed.size = n → B a w → (∀ j, j < n → listed.getD j true = true → I j a w) → Region.ready md ops listed = [] → Q .normal a w := fun listed a w hs hB hI hr =>
    hfin a w hB fun j hj => hI j hj (ready_ex hn hs hb hr j hj)
  intro fuel
  induction fuel with
  | zero =>
    intro listed a w hs hu _ hB hI
    have hr : Region.ready md ops listed = [] := by
      cases h : Region.ready md ops listed with
      | nil => rfl
      | cons x xs =>
        have hx : x ∈ Region.ready md ops listed := by rw [h]; exact List.mem_cons_self
        obtain ⟨h1, o, h2, _⟩ := mem_ready.1 hx
        have hlt := (Array.getElem?_eq_some_iff.1 h2).1
        have := filter_set (n := n) (by omega) hs h1
        omega
    exact ⟨hr, fin listed a w hs hB hI hr⟩
  | succ fuel ih =>
    intro listed a w hs hu hcl hB hI
    refine ⟨fin listed a w hs hB hI, fun i hi => ?_⟩
    obtain ⟨h1, o, h2, h3⟩ := mem_ready.1 hi
    have hlt : i < n := by have := (Array.getElem?_eq_some_iff.1 h2).1; omega
    refine wpOp_mono (fun a' w' h => ?_) (hstep i o h2 a w hB fun e he hbd => hI e.on ?_ ?_)
    · obtain ⟨hB', hIi, hk⟩ := h
      have hset := filter_set hlt hs h1
      refine ih _ a' w' (by simp [hs]) (by omega) (fun j oj hoj hl e he hbd => ?_) hB' fun j hj hl => ?_
      · by_cases hji : j = i
        · subst hji
          have : oj = o := Option.some.inj (hoj.symm.trans h2)
          subst this
          exact getD_set_true (h3 e he hbd)
        · rw [getD_set_ne true (fun e => hji e.symm)] at hl
          exact getD_set_true (hcl j oj hoj hl e he hbd)
      by_cases hji : j = i
      · subst hji; exact hIi
      · rw [getD_set_ne true (fun e => hji e.symm)] at hl
        refine hk j hj hji (fun oj hoj e he hbd hei => ?_) (hI j hj hl)
        have h4 := hcl j oj hoj hl e he hbd
        rw [hei, getD_both h1] at h4
        cases h4
    · have := h3 e he hbd
      by_cases hlt2 : e.on < listed.size
      · omega
      · simp [Array.getElem?_eq_none (by omega : listed.size ≤ e.on)] at this
    · have := h3 e he hbd
      by_cases hlt2 : e.on < listed.size
      · simp [hlt2] at this ⊢; exact this
      · simp [Array.getElem?_eq_none (by omega : listed.size ≤ e.on)] at this

/-- The region, by an invariant. -/
theorem wp_region_inv {id : Nat} {a : Act} {w : World} {l : List Oper} (B : Act → World → Prop) (I : Nat → Act → World → Prop) (hm : P.follows .mixedOrders = true) (hb : backB .any l.toArray = true) (hB : B a w.drew)
    (hstep : ∀ i o, l[i]? = some o → ∀ a w, B a w → (∀ e ∈ o.after, Region.binds .any e = true → I e.on a w) → ∀ R : Act → World → Prop, Hid (∀ a' w', B a' w' → I i a' w' → (∀ j, j < l.length → j ≠ i → (∀ oj, l[j]? = some oj → ∀ e ∈ oj.after, Region.binds .any e = true → e.on ≠ i) → I j a w → I j a' w') → R a' w') → wpList P l.toArray (Exit.then R (NoPanic Q)) [o] a w)
    (hfin : ∀ a w, B a w → (∀ j, j < l.length → I j a w) → Q .normal a w) : (Code.region id l.toArray true).wp P Q a w := by
  refine wp_region_noPanic (wp_region_any hm ?_)
  refine inv_sound (Q := NoPanic Q) l.length (by simp) hb B I (fun i o ho a w hB hI => wpOp_of_list ho (hstep i o (by simpa using ho) a w hB hI _ (fun a' w' h1 h2 h3 => ⟨h1, h2, fun j hj hne hno => h3 j hj hne (fun oj hoj => hno oj (by simpa using hoj))⟩))) hfin l.toArray.size _ a _ (by simp) ?_ ?_ hB ?_
  · unfold unl
    have : ((List.range l.length).filter fun i => !(Array.replicate l.toArray.size false).getD i true) = List.range l.length := by
      rw [List.filter_eq_self]
      intro i hi
      have := List.mem_range.1 hi
      simp [this]
    rw [this]; simp
  · intro j oj hoj hl
    have hj := (Array.getElem?_eq_some_iff.1 hoj).1
    simp at hj
    simp [hj] at hl
  · intro j hj hl
    simp [hj] at hl
end
end Go.Proofs.YtalgceplcahgbaaDoor
