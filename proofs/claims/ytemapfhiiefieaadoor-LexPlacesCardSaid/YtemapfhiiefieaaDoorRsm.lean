/- Same of the reference. -/
import Derived.Test.YtemapfhiiefieaaDoorSame
namespace Go.Proofs.YtemapfhiiefieaaDoor
open Go.RowKit

set_option maxRecDepth 10000 in
set_option maxHeartbeats 1600000 in
theorem rsame_any (A C : Option Addr) (l m : List Tok) (ca cb : Nat) (w : World) (hl : l.length ≤ 4611686018427387904) (hA : Toks w A l) (hC : Toks w C m) :
    Calls Tryd.prog 19 #[.slice A l.length ca, .slice C m.length cb] w fun e w' => e = .returned (.bool (samesT l m)) ∧ Below w.heap.size w w' := by
  by_cases hlm : l.length = m.length
  · have hb0 : ((l.length : Int) != m.length) = false := by simp [hlm]
    have HLM := hide hlm
    have HA := hide hA
    have HC := hide hC
    clear hlm hA hC
    go_enter Tryd.func19, Tryd.ntmps19
    go_wp2_with fail
    go_loopw [5] (fun i wr => ∃ k : Nat, i = .int .i64 k ∧ k ≤ l.length ∧ Hid (∀ j (h : j < l.length) (h' : j < m.length), j < k → sameT l[j] m[j] = true) ∧ Hid (Below w.heap.size w wr)) (fun i _ => l.length - (intOf i).toNat)
    case atStart => exact ⟨0, rfl, Nat.zero_le _, hide (by intros; omega), hide (Below.refl _ _)⟩
    case round =>
      obtain ⟨k, rfl, hk, hw, hb⟩ := hrel
      by_cases hlt : k < l.length
      · have hlt' : k < m.length := by have := HLM.out; omega
        obtain ⟨b, o, rfl, _, c0, c1, c2, c3⟩ := (HA.out.below hb.out) k hlt
        obtain ⟨b', o', rfl, _, d0, d1, d2, d3⟩ := (HC.out.below hb.out) k hlt'
        have HW := hide (show sameT l[k] m[k] = true → ∀ j (h : j < l.length) (h' : j < m.length), j < k + 1 → sameT l[j] m[j] = true from fun hwf j h h' hj => by
          by_cases e : j = k
          · subst e; exact hwf
          · exact hw.out j h h' (by omega))
        have HN := hide (show sameT l[k] m[k] = false → samesT l m = false from fun hwf => by
          cases e : samesT l m with
          | false => rfl
          | true => rw [(samesT_iff.1 e).2 k hlt hlt'] at hwf; cases hwf)
        generalize l[k] = t at *
        generalize m[k] = u at *
        obtain ⟨tk, s, n, p⟩ := t
        obtain ⟨k', s', n', p'⟩ := u
        simp only at c0 c1 c2 d0 d1 d2
        have HD := hide (show sameT ⟨tk, s, n, p⟩ ⟨k', s', n', p'⟩ = (tk == k' && decide (s.toList = s'.toList) && n == n') from rfl)
        cases h1 : tk != k' with
        | true =>
          have HF := hide (HN.out (by rw [HD.out]; simp at h1; simp [h1]))
          go_wp2_with fail
          go_quiet (fail)
          go_wp2_with fail
          go_ret
          exact ⟨by rw [HF.out]; rfl, hb.out.trans (below_dn _ _ nq)⟩
        | false =>
          by_cases h2 : s.toList = s'.toList
          · cases h3 : n != n' with
            | true =>
              have HF := hide (HN.out (by rw [HD.out]; simp at h3; simp [h3]))
              go_wp2_with fail
              go_quiet (fail)
              go_wp2_with fail
              go_ret
              exact ⟨by rw [HF.out]; rfl, hb.out.trans (below_dn _ _ nq)⟩
            | false =>
              have HT := hide (HW.out (by rw [HD.out]; simp at h1 h3; simp [h1, h2, h3]))
              go_wp2_with fail
              go_quiet (fail)
              go_wp2_with fail
              go_roundw
              case rel => exact ⟨k + 1, by go_num, by omega, HT, hide (hb.out.trans (below_dn _ _ nq))⟩
              case measure => simp [intOf]; omega
          · have HF := hide (HN.out (by rw [HD.out]; simp [h2]))
            go_wp2_with fail
            go_quiet (fail)
            go_wp2_with fail
            go_ret
            exact ⟨by rw [HF.out]; rfl, hb.out.trans (below_dn _ _ nq)⟩
      · obtain rfl : k = l.length := by omega
        have HT := hide (show samesT l m = true from samesT_iff.2 ⟨HLM.out, fun i h h' => hw.out i h h' h⟩)
        go_wp2_with fail
        go_ret
        exact ⟨by rw [HT.out]; rfl, hb.out⟩
  · have hb0 : ((l.length : Int) != m.length) = true := by simp; omega
    have HF := hide (show samesT l m = false by
      cases e : samesT l m with
      | false => rfl
      | true => exact absurd (samesT_iff.1 e).1 hlm)
    clear hlm
    go_enter Tryd.func19, Tryd.ntmps19
    go_wp2_with fail
    go_ret
    exact ⟨by rw [HF.out]; rfl, Below.refl _ _⟩
end Go.Proofs.YtemapfhiiefieaaDoor
