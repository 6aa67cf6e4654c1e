/- A region that draws its order: what yields the same in each world that meets S is taken first, the rest in the text's order. Nothing here speaks of a program. -/
import Derived.Deep.RegionHeld3
import Derived.WalkKit
import Derived.Below
namespace Go.Proofs.YtalgceplcahgbaaDoor
open Go.RowKit

section
variable {P : Program} {ops : Array Oper} {md : Region.Mode} {Q : Exit → Act → World → Prop} {S : World → Prop}

/-- The first ones: each has its value. -/
def hoistHeads (P : Program) (ops : Array Oper) (S : World → Prop) (K : Act → Prop) : List Oper → List Bool → Act → Prop
  | o :: l, true :: bs, a => ∃ v, YieldsIf P ops S o v a ∧ hoistHeads P ops S K l bs (a.put o.dst v)
  | _ :: l, false :: bs, a => hoistHeads P ops S K l bs a
  | _, _, a => K a
/-- The rest, one by one. -/
def hoistTail (P : Program) (ops : Array Oper) (Q : Exit → Act → World → Prop) (S : World → Prop) : List Oper → List Bool → Act → World → Prop
  | _ :: l, true :: bs, a, w => hoistTail P ops Q S l bs a w
  | o :: l, false :: bs, a, w => wpList P ops (Exit.then (fun a' w' => S w' ∧ hoistTail P ops Q S l bs a' w') Q) [o] a w
  | _, _, a, w => Q .normal a w

def tailB (md : Region.Mode) (ops : Array Oper) : List Bool → Nat → Array Bool → Bool
  | true :: bs, k, listed => tailB md ops bs (k + 1) listed
  | false :: bs, k, listed => decide (Region.ready md ops listed = [k]) && tailB md ops bs (k + 1) (listed.setIfInBounds k true)
  | [], _, listed => (Region.ready md ops listed).isEmpty
def headB (md : Region.Mode) (ops : Array Oper) (all : List Bool) : List Bool → Nat → Array Bool → Bool
  | true :: bs, k, listed => (Region.ready md ops listed).contains k && Region.free md ops listed k && headB md ops all bs (k + 1) (listed.setIfInBounds k true)
  | false :: bs, k, listed => headB md ops all bs (k + 1) listed
  | [], _, listed => tailB md ops all 0 listed
def cnt (b : Bool) : List Bool → Nat
  | [] => 0
  | x :: bs => (if x = b then 1 else 0) + cnt b bs
def hoistB (md : Region.Mode) (ops : Array Oper) (bs : List Bool) : Bool :=
  Region.noSelect ops && decide (bs.length = ops.size) && decide (cnt true bs + cnt false bs = ops.size) && headB md ops bs bs 0 (Array.replicate ops.size false)

theorem wpOp_of_list {i : Nat} {o : Oper} {K : Act → World → Prop} {a : Act} {w : World} (hi : ops[i]? = some o) (h : wpList P ops (Exit.then K Q) [o] a w) : wpOp P ops Q i K a w := by
  unfold wpOp
  simp only [hi]
  unfold wpList at h
  split
  · rename_i hw
    rw [if_pos hw] at h
    refine h.imp (fun hh => ?_) (fun hh => ⟨hh.1, hh.2⟩)
    unfold Oper.wp at *
    generalize (execOp a.eval o).run P w = r at *
    cases r with
    | ok n w' =>
      cases n <;> simp only [Oper.upon] at hh ⊢
      case enter f args =>
        refine Calls.mono hh fun e w'' he => ?_
        cases e <;> exact he
      case row r args => exact Rows.mono hh fun v w'' he => he
      all_goals exact hh
    | halt x w' => cases x <;> simp only [Oper.upon] at hh ⊢ <;> exact hh
  · rename_i hw
    rw [if_neg hw] at h
    exact h

theorem tail_sound : ∀ (bs : List Bool) (l : List Oper) (k : Nat) (listed : Array Bool) (a : Act) (w : World), bs.length = l.length → (∀ j, l[j]? = ops[k + j]?) → tailB md ops bs k listed = true →
    hoistTail P ops Q S l bs a w → wpAnyH P md ops Q S (cnt false bs) listed a w
  | [], l, _, _, a, w, hl, _, hB, h => by
    have : l = [] := List.length_eq_zero_iff.1 hl.symm
    subst this
    exact ⟨by simpa [tailB] using hB, h⟩
  | true :: bs, o :: l, k, listed, a, w, hl, hj, hB, h => by
    have := tail_sound bs l (k + 1) listed a w (by simpa using hl) (fun j => by have := hj (j + 1); simpa [Nat.add_assoc, Nat.add_comm 1 j] using this) hB h
    simpa [cnt] using this
  | false :: bs, o :: l, k, listed, a, w, hl, hj, hB, h => by
    have h0 : ops[k]? = some o := by simpa using (hj 0).symm
    simp only [tailB, Bool.and_eq_true, decide_eq_true_eq] at hB
    have hc : cnt false (false :: bs) = cnt false bs + 1 := by simp [cnt, Nat.add_comm]
    rw [hc]
    refine ⟨fun h1 => (by rw [hB.1] at h1; cases h1), fun i hi => ?_⟩
    rw [hB.1] at hi
    have hik : i = k := by simpa using hi
    subst hik
    exact wpOp_mono (fun a' w' h' => ⟨h'.1, tail_sound bs l (i + 1) _ a' w' (by simpa using hl) (fun j => by have := hj (j + 1); simpa [Nat.add_assoc, Nat.add_comm 1 j] using this) hB.2 h'.2⟩) (wpOp_of_list h0 h)
  | _ :: _, [], _, _, _, _, hl, _, _, _ => by simp at hl

theorem head_sound (hs : Region.noSelect ops = true) (hQ : ∀ c d v a w, Q (.panic c) (Act.put a d v) w → Q (.panic c) a w) (all : List Bool) (L : List Oper) (hL : all.length = L.length) (hLj : ∀ j, L[j]? = ops[0 + j]?) :
    ∀ (bs : List Bool) (l : List Oper) (k : Nat) (listed : Array Bool) (a : Act) (w : World), S w → bs.length = l.length → (∀ j, l[j]? = ops[k + j]?) → headB md ops all bs k listed = true →
    hoistHeads P ops S (fun a' => hoistTail P ops Q S L all a' w) l bs a → wpAnyH P md ops Q S (cnt true bs + cnt false all) listed a w
  | [], l, _, listed, a, w, _, hl, _, hB, h => by
    have : l = [] := List.length_eq_zero_iff.1 hl.symm
    subst this
    have := tail_sound (md := md) all L 0 listed a w hL hLj hB h
    simpa [cnt] using this
  | false :: bs, o :: l, k, listed, a, w, hS, hl, hj, hB, h => by
    have := head_sound hs hQ all L hL hLj bs l (k + 1) listed a w hS (by simpa using hl) (fun j => by have := hj (j + 1); simpa [Nat.add_assoc, Nat.add_comm 1 j] using this) hB h
    simpa [cnt] using this
  | true :: bs, o :: l, k, listed, a, w, hS, hl, hj, hB, h => by
    have h0 : ops[k]? = some o := by simpa using (hj 0).symm
    simp only [headB, Bool.and_eq_true] at hB
    obtain ⟨v, hy, h'⟩ := h
    have hc : cnt true (true :: bs) + cnt false all = (cnt true bs + cnt false all) + 1 := by simp [cnt]; omega
    rw [hc]
    exact wpAnyH_take h0 hs hB.1.2 hB.1.1 (fun c a w => hQ c _ _ a w) hy hS (head_sound hs hQ all L hL hLj bs l (k + 1) _ _ w hS (by simpa using hl) (fun j => by have := hj (j + 1); simpa [Nat.add_assoc, Nat.add_comm 1 j] using this) hB.2 h')
  | _ :: _, [], _, _, _, _, _, hl, _, _, _ => by simp at hl

/-- The region: bs says which are taken first. -/
theorem wp_region_hoist {id : Nat} {a : Act} {w : World} {l : List Oper} (S : World → Prop) (bs : List Bool) (hm : P.follows .mixedOrders = true) (hB : hoistB .any l.toArray bs = true) (hS : S w.drew)
    (h : hoistHeads P l.toArray S (fun a' => hoistTail P l.toArray (NoPanic Q) S l bs a' w.drew) l bs a) : (Code.region id l.toArray true).wp P Q a w := by
  simp only [hoistB, Bool.and_eq_true, decide_eq_true_eq] at hB
  refine wp_region_noPanic (wp_region_held (S := S) hm ?_)
  have := head_sound (md := .any) (Q := NoPanic Q) hB.1.1.1 (fun _ _ _ _ _ h => h) bs l (by simpa using hB.1.1.2) (by simp) bs l 0 _ a w.drew hS (by simpa using hB.1.1.2) (by simp) hB.2 h
  rw [hB.1.2] at this
  exact this
end

section
variable {P : Program} {ops : Array Oper} {Q : Exit → Act → World → Prop} {S : World → Prop} {K : Act → Prop} {o : Oper} {l : List Oper} {bs : List Bool} {a : Act} {w : World}
theorem head_take {v : Value} (hy : YieldsIf P ops S o v a) (h : hoistHeads P ops S K l bs (a.put o.dst v)) : hoistHeads P ops S K (o :: l) (true :: bs) a := ⟨v, hy, h⟩
theorem head_skip (h : hoistHeads P ops S K l bs a) : hoistHeads P ops S K (o :: l) (false :: bs) a := h
theorem head_done (h : K a) : hoistHeads P ops S K [] [] a := h
theorem tail_skip (h : hoistTail P ops Q S l bs a w) : hoistTail P ops Q S (o :: l) (true :: bs) a w := h
theorem tail_done (h : Q .normal a w) : hoistTail P ops (NoPanic Q) S [] [] a w := h
/-- One of the rest: S is shown behind it. -/
theorem tail_step (h : ∀ R : Act → World → Prop, Hid (∀ a' w', S w' → hoistTail P ops Q S l bs a' w' → R a' w') → wpList P ops (Exit.then R Q) [o] a w) : hoistTail P ops Q S (o :: l) (false :: bs) a w :=
  h _ fun _ _ h1 h2 => ⟨h1, h2⟩
theorem name_code {c : Code} {P : Program} {Q : Exit → Act → World → Prop} {a : Act} {w : World} (h : ∀ W, Hid (W = w) → c.wp P Q a W) : c.wp P Q a w := h w rfl
theorem yields_run {v : Value} (hw : Region.wanted o (yielded ops a.tmps) = true) (h : ∀ w, S w → (execOp a.eval o).run P w = .ok (.value v) w) : YieldsIf P ops S o v a := .inl ⟨hw, h⟩
end
end Go.Proofs.YtalgceplcahgbaaDoor
