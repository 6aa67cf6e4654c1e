/- Regions by an invariant, with what is used up. Nothing here speaks of a program. -/
import Derived.Test.YtalgceplcahgbaaDoorInv
namespace Go.Proofs.YtalgceplcahgbaaDoor
open Go.RowKit

section
variable {P : Program} {ops : Array Oper} {md : Region.Mode} {Q : Exit → Act → World → Prop}

/-- As above; what an operation leaves may be used up by one that comes later. -/
theorem inv_sound_c (n : Nat) (hn : ops.size = n) (hb : backB md ops = true) (cons : Nat → Option Nat) (B : Act → World → Prop) (I : Nat → Act → World → Prop)
    (hstep : ∀ i o, ops[i]? = some o → ∀ a w, B a w → (∀ e ∈ o.after, Region.binds md e = true → (cons e.on = none ∨ cons e.on = some i) → I e.on a w) → wpOp P ops Q i (fun a' w' => B a' w' ∧ I i a' w' ∧ ∀ j, j < n → j ≠ i → cons j ≠ some i → (∀ oj, ops[j]? = some oj → ∀ e ∈ oj.after, Region.binds md e = true → e.on ≠ i) → I j a w → I j a' w') a w)
    (hfin : ∀ a w, B a w → (∀ j, j < n → cons j = none → I j a w) → Q .normal a w) : ∀ (fuel : Nat) (listed : Array Bool) (a : Act) (w : World), listed.size = n → unl n listed = fuel → (∀ j oj, ops[j]? = some oj → listed.getD j true = true → ∀ e ∈ oj.after, Region.binds md e = true → listed.getD e.on false = true) → B a w → (∀ j, j < n → listed.getD j true = true → (∀ c, cons j = some c → listed.getD c true = false) → I j a w) → wpAny P md ops Q fuel listed a w := by
  have fin : ∀ (listed : Array Bool) (a : Act) (w : World), listed.size = n → B a w → (∀ j, j < n → listed.getD j true = true → (∀ c, cons j = some c → listed.getD c true = false) → I j a w) → Region.ready md ops listed = [] → Q .normal a w := fun listed a w hs hB hI hr =>
    hfin a w hB fun j hj hc => hI j hj (ready_ex hn hs hb hr j hj) (fun c h => by rw [hc] at h; cases h)
  intro fuel
  induction fuel with
  | zero =>
    intro listed a w hs hu _ hB hI
    have hr : Region.ready md ops listed = [] := by
      cases h : Region.ready md ops listed with
      | nil => rfl
      | cons x xs =>
        have hx : x ∈ Region.ready md ops listed := by rw [h]; exact List.mem_cons_self
        obtain ⟨h1, o, h2, _⟩ := mem_ready.1 hx
        have hlt := (Array.getElem?_eq_some_iff.1 h2).1
        have := filter_set (n := n) (by omega) hs h1
        omega
    exact ⟨hr, fin listed a w hs hB hI hr⟩
  | succ fuel ih =>
    intro listed a w hs hu hcl hB hI
    refine ⟨fin listed a w hs hB hI, fun i hi => ?_⟩
    obtain ⟨h1, o, h2, h3⟩ := mem_ready.1 hi
    have hlt : i < n := by have := (Array.getElem?_eq_some_iff.1 h2).1; omega
    refine wpOp_mono (fun a' w' h => ?_) (hstep i o h2 a w hB fun e he hbd hce => hI e.on ?_ ?_ ?_)
    · obtain ⟨hB', hIi, hk⟩ := h
      have hset := filter_set hlt hs h1
      refine ih _ a' w' (by simp [hs]) (by omega) (fun j oj hoj hl e he hbd => ?_) hB' fun j hj hl hnc => ?_
      · by_cases hji : j = i
        · subst hji
          have : oj = o := Option.some.inj (hoj.symm.trans h2)
          subst this
          exact getD_set_true (h3 e he hbd)
        · rw [getD_set_ne true (fun e => hji e.symm)] at hl
          exact getD_set_true (hcl j oj hoj hl e he hbd)
      by_cases hji : j = i
      · subst hji; exact hIi
      · rw [getD_set_ne true (fun e => hji e.symm)] at hl
        have hci : cons j ≠ some i := fun h => by
          have := hnc i h
          have hlt2 : i < listed.size := by omega
          simp [hlt2] at this
        refine hk j hj hji hci (fun oj hoj e he hbd hei => ?_) (hI j hj hl fun c hc => ?_)
        · have h4 := hcl j oj hoj hl e he hbd
          rw [hei, getD_both h1] at h4
          cases h4
        · have := hnc c hc
          by_cases hcc : i = c
          · subst hcc; exact h1
          · rwa [getD_set_ne true hcc] at this
    · have := h3 e he hbd
      by_cases hlt2 : e.on < listed.size
      · omega
      · simp [Array.getElem?_eq_none (by omega : listed.size ≤ e.on)] at this
    · have := h3 e he hbd
      by_cases hlt2 : e.on < listed.size
      · simp [hlt2] at this ⊢; exact this
      · simp [Array.getElem?_eq_none (by omega : listed.size ≤ e.on)] at this
    · intro c hc
      rcases hce with h | h
      · rw [h] at hc; cases hc
      · rw [h] at hc; injection hc with hc; subst hc; exact h1

/-- The region, by an invariant, with what is used up. -/
theorem wp_region_inv_c {id : Nat} {a : Act} {w : World} {l : List Oper} (cons : Nat → Option Nat) (B : Act → World → Prop) (I : Nat → Act → World → Prop) (hm : P.follows .mixedOrders = true) (hb : backB .any l.toArray = true) (hB : B a w.drew)
    (hstep : ∀ i o, l[i]? = some o → ∀ a w, B a w → (∀ e ∈ o.after, Region.binds .any e = true → (cons e.on = none ∨ cons e.on = some i) → I e.on a w) → ∀ R : Act → World → Prop, Hid (∀ a' w', B a' w' → I i a' w' → (∀ j, j < l.length → j ≠ i → cons j ≠ some i → (∀ oj, l[j]? = some oj → ∀ e ∈ oj.after, Region.binds .any e = true → e.on ≠ i) → I j a w → I j a' w') → R a' w') → wpList P l.toArray (Exit.then R (NoPanic Q)) [o] a w)
    (hfin : ∀ a w, B a w → (∀ j, j < l.length → cons j = none → I j a w) → Q .normal a w) : (Code.region id l.toArray true).wp P Q a w := by
  refine wp_region_noPanic (wp_region_any hm ?_)
  refine inv_sound_c (Q := NoPanic Q) l.length (by simp) hb cons B I (fun i o ho a w hB hI => wpOp_of_list ho (hstep i o (by simpa using ho) a w hB hI _ (fun a' w' h1 h2 h3 => ⟨h1, h2, fun j hj hne hci hno => h3 j hj hne hci (fun oj hoj => hno oj (by simpa using hoj))⟩))) hfin l.toArray.size _ a _ (by simp) ?_ ?_ hB ?_
  · unfold unl
    have : ((List.range l.length).filter fun i => !(Array.replicate l.toArray.size false).getD i true) = List.range l.length := by
      rw [List.filter_eq_self]
      intro i hi
      have := List.mem_range.1 hi
      simp [this]
    rw [this]; simp
  · intro j oj hoj hl
    have hj := (Array.getElem?_eq_some_iff.1 hoj).1
    simp at hj
    simp [hj] at hl
  · intro j hj hl
    simp [hj] at hl

/-- All that follows, once. -/
theorem wp_cut {c : Code} {Q : Exit → Act → World → Prop} {a : Act} {w : World} (R : Act → World → Prop) (h : c.wp P (Exit.then R Q) a w) (hr : ∀ a w, R a w → Q .normal a w) : c.wp P Q a w :=
  Code.wp_mono (fun e a w h => by cases e <;> first | exact hr _ _ h | exact h) h
end
end Go.Proofs.YtalgceplcahgbaaDoor
