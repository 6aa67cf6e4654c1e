/- Equal of the reference. -/
import Derived.Test.YtemapfhiiefieaaDoorRsm
namespace Go.Proofs.YtemapfhiiefieaaDoor
open Go.RowKit

/-- Do they stand at the same places? -/
def placesT : List Tok → List Tok → Bool
  | [], [] => true
  | t :: l, u :: m => t.pos == u.pos && placesT l m
  | _, _ => false
theorem placesT_iff : ∀ {l m : List Tok}, placesT l m = true ↔ l.length = m.length ∧ ∀ i (h : i < l.length) (h' : i < m.length), l[i].pos = m[i].pos
  | [], [] => by simp [placesT]
  | [], u :: m => by simp [placesT]
  | t :: l, [] => by simp [placesT]
  | t :: l, u :: m => by
    simp only [placesT, Bool.and_eq_true, placesT_iff, List.length_cons, beq_iff_eq]
    constructor
    · rintro ⟨h1, h2, h3⟩
      refine ⟨by omega, fun i h h' => ?_⟩
      cases i with
      | zero => exact h1
      | succ i => exact h3 i (by omega) (by omega)
    · rintro ⟨h1, h2⟩
      exact ⟨h2 0 (by omega) (by omega), by omega, fun i h h' => h2 (i + 1) (by omega) (by omega)⟩
def equalT (l m : List Tok) : Bool := samesT l m && placesT l m

set_option maxRecDepth 10000 in
set_option maxHeartbeats 1600000 in
theorem requal_any (A C : Option Addr) (l m : List Tok) (ca cb : Nat) (w : World) (hl : l.length ≤ 4611686018427387904) (hA : Toks w A l) (hC : Toks w C m) :
    Calls Tryd.prog 14 #[.slice A l.length ca, .slice C m.length cb] w fun e w' => e = .returned (.bool (equalT l m)) ∧ Below w.heap.size w w' := by
  have HCA := hide (rsame_any A C l m ca cb w hl hA hC)
  cases hs : samesT l m with
  | true =>
    rw [hs] at HCA
    have HLM := hide (samesT_iff.1 hs).1
    have HQ := hide (show equalT l m = placesT l m by unfold equalT; rw [hs]; rfl)
    have HA := hide hA
    have HC := hide hC
    clear hs hA hC
    go_enter Tryd.func14, Tryd.ntmps14
    go_wp2_with fail
    refine HCA.out.mono ?_
    rintro e w0 ⟨rfl, hb0⟩
    have HB0 := hide hb0
    clear hb0
    go_wp2_with fail
    go_loopw [5] (fun i wr => ∃ k : Nat, i = .int .i64 k ∧ k ≤ l.length ∧ Hid (∀ j (h : j < l.length) (h' : j < m.length), j < k → l[j].pos = m[j].pos) ∧ Hid (Below w.heap.size w wr)) (fun i _ => l.length - (intOf i).toNat)
    case atStart => exact ⟨0, rfl, Nat.zero_le _, hide (by intros; omega), HB0⟩
    case round =>
      obtain ⟨k, rfl, hk, hw, hb⟩ := hrel
      by_cases hlt : k < l.length
      · have hlt' : k < m.length := by have := HLM.out; omega
        obtain ⟨b, o, rfl, _, c0, c1, c2, c3⟩ := (HA.out.below hb.out) k hlt
        obtain ⟨b', o', rfl, _, d0, d1, d2, d3⟩ := (HC.out.below hb.out) k hlt'
        have HW := hide (show l[k].pos = m[k].pos → ∀ j (h : j < l.length) (h' : j < m.length), j < k + 1 → l[j].pos = m[j].pos from fun hwf j h h' hj => by
          by_cases e : j = k
          · subst e; exact hwf
          · exact hw.out j h h' (by omega))
        have HN := hide (show ¬ l[k].pos = m[k].pos → placesT l m = false from fun hwf => by
          cases e : placesT l m with
          | false => rfl
          | true => exact absurd ((placesT_iff.1 e).2 k hlt hlt') hwf)
        generalize l[k] = t at *
        generalize m[k] = u at *
        obtain ⟨tk, s, n, p⟩ := t
        obtain ⟨k', s', n', p'⟩ := u
        simp only at c3 d3
        cases h1 : p != p' with
        | true =>
          have HF := hide (HN.out (by simp at h1; exact h1))
          go_wp2_with fail
          go_quiet (fail)
          go_wp2_with fail
          go_ret
          exact ⟨by rw [HQ.out, HF.out]; rfl, hb.out.trans (below_dn _ _ nq)⟩
        | false =>
          have HT := hide (HW.out (by simp at h1; exact h1))
          go_wp2_with fail
          go_quiet (fail)
          go_wp2_with fail
          go_roundw
          case rel => exact ⟨k + 1, by go_num, by omega, HT, hide (hb.out.trans (below_dn _ _ nq))⟩
          case measure => simp [intOf]; omega
      · obtain rfl : k = l.length := by omega
        have HT := hide (show placesT l m = true from placesT_iff.2 ⟨HLM.out, fun i h h' => hw.out i h h' h⟩)
        go_wp2_with fail
        go_ret
        exact ⟨by rw [HQ.out, HT.out]; rfl, hb.out⟩
  | false =>
    rw [hs] at HCA
    have HQ := hide (show equalT l m = false by unfold equalT; rw [hs]; rfl)
    clear hs hA hC
    go_enter Tryd.func14, Tryd.ntmps14
    go_wp2_with fail
    refine HCA.out.mono ?_
    rintro e w0 ⟨rfl, hb0⟩
    have HB0 := hide hb0
    clear hb0
    go_wp2_with fail
    go_ret
    exact ⟨by rw [HQ.out]; rfl, HB0.out⟩
end Go.Proofs.YtemapfhiiefieaaDoor
