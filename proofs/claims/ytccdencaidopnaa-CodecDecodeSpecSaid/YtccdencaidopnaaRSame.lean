/- Same of the reference answers whether two values are equal in all fields. -/
import Derived.Test.YtccdencaidopnaaFew
namespace Go.Proofs.Ytccdencaidopnaa
open Go.RowKit

theorem World.heap_size_alloc' (w : World) (o : Obj) : (w.alloc o).heap.size = w.heap.size + 1 := by simp

def RSameAt (t u : VT) : Prop := ∀ w : World, t.In w → u.In w → Calls Try.prog 20 #[t.val, u.val] w fun e w' => e = .returned (.bool (t.same u)) ∧ Below w.heap.size w w'

set_option maxRecDepth 10000 in
set_option maxHeartbeats 1600000 in
theorem rsame_step (t u : VT) (ih : ∀ i (h : i < t.els.length) (h' : i < u.els.length), RSameAt t.els[i] u.els[i]) : RSameAt t u := by
  intro w hin hin'
  obtain ⟨hk, hn, hs, hl⟩ := hin.facts
  obtain ⟨hk', hn', hs', hl'⟩ := hin'.facts
  obtain ⟨A, hv, hsl, hA⟩ := hin.open
  obtain ⟨C, hv', hsl', hC⟩ := hin'.open
  have HE := hide (VT.same_eq t u)
  have HSL := hide hsl
  have HSL' := hide hsl'
  have IH := hide ih
  clear hv hv' hsl hsl' ih hk hn hk' hn'
  have HF : ∀ b : Bool, Hid (t.same u = b) → ∀ w', Below w.heap.size w w' → Hid (Ending.returned (Value.bool b) = .returned (.bool (t.same u)) ∧ Below w.heap.size w w') := fun b hb w' hw => ⟨by rw [hb.out], hw⟩
  cases h1 : (t.kind == u.kind) with
  | false =>
    have hne : (t.kind != u.kind) = true := by simp [bne, h1]
    have hr : Hid (t.same u = false) := by show _ = _; rw [HE.out, h1]; rfl
    clear h1
    go_enter Try.func20, Try.ntmps20
    go_wp2_with fail
    go_ret
    exact (HF false hr _ ((below_new _ _).alloc (by simp) _)).out
  | true =>
    have hne : (t.kind != u.kind) = false := by simp [bne, h1]
    cases h2 : (t.num == u.num) with
    | false =>
      have hne2 : (t.num != u.num) = true := by simp [bne, h2]
      have hr : Hid (t.same u = false) := by show _ = _; rw [HE.out, h1, h2]; rfl
      clear h1 h2
      go_enter Try.func20, Try.ntmps20
      go_wp2_with fail
      go_ret
      exact (HF false hr _ ((below_new _ _).alloc (by simp) _)).out
    | true =>
      have hne2 : (t.num != u.num) = false := by simp [bne, h2]
      cases h3 : (t.str.toList == u.str.toList) with
      | false =>
        have hne3 : (t.str.toList != u.str.toList) = true := by simp [bne, h3]
        have hr : Hid (t.same u = false) := by show _ = _; rw [HE.out, h1, h2, h3]; rfl
        clear h1 h2
        go_enter Try.func20, Try.ntmps20
        go_wp2_with fail
        go_ret
        exact (HF false hr _ ((below_new _ _).alloc (by simp) _)).out
      | true =>
        have hne3 : (t.str.toList != u.str.toList) = false := by simp [bne, h3]
        have HQ := hide (show t.same u = VT.same.sames t.els u.els by rw [HE.out, h1, h2, h3]; rfl)
        clear h1 h2
        by_cases hlm : t.els.length = u.els.length
        · have hne4 : ((t.els.length : Int) != u.els.length) = false := by simp [hlm]
          have HLM := hide hlm
          have bt := hide ((Box.new w t).later (below_new _ (.cells #[.int .i64 u.kind, .int .i64 u.num, .string u.str, u.sl] 24)))
          have bu := hide (Box.new (w.alloc (.cells #[.int .i64 t.kind, .int .i64 t.num, .string t.str, t.sl] 24)) u)
          have hb0 := hide ((below_new w (.cells #[.int .i64 t.kind, .int .i64 t.num, .string t.str, t.sl] 24)).alloc (by simp) (.cells #[.int .i64 u.kind, .int .i64 u.num, .string u.str, u.sl] 24))
          have hint := hide ((hin.alloc (.cells #[.int .i64 t.kind, .int .i64 t.num, .string t.str, t.sl] 24)).alloc (.cells #[.int .i64 u.kind, .int .i64 u.num, .string u.str, u.sl] 24))
          have hinu := hide ((hin'.alloc (.cells #[.int .i64 t.kind, .int .i64 t.num, .string t.str, t.sl] 24)).alloc (.cells #[.int .i64 u.kind, .int .i64 u.num, .string u.str, u.sl] 24))
          clear hlm
          rw [World.heap_size_alloc'] at bu
          go_enter Try.func20, Try.ntmps20
          go_wp2_with fail
          generalize (w.alloc (.cells #[.int .i64 t.kind, .int .i64 t.num, .string t.str, t.sl] 24)).alloc (.cells #[.int .i64 u.kind, .int .i64 u.num, .string u.str, u.sl] 24) = W1 at *
          clear HF
          go_loopw [5] (fun i wr => ∃ k : Nat, k ≤ t.els.length ∧ i = .int .i64 k ∧ Hid (∀ j (h : j < t.els.length) (h' : j < u.els.length), j < k → (t.els[j]).same u.els[j] = true) ∧ Below W1.heap.size W1 wr) (fun i _ => t.els.length - (intOf i).toNat)
          case atStart => exact ⟨0, Nat.zero_le _, rfl, fun j h h' hj => by omega, Below.refl _ _⟩
          case round =>
            obtain ⟨k, hk, rfl, HW, hb⟩ := hrel
            obtain ⟨_, _, _, y3⟩ := (bt.out.later hb).cells
            obtain ⟨_, _, _, z3⟩ := (bu.out.later hb).cells
            rw [HSL.out] at y3
            rw [HSL'.out] at z3
            by_cases hlt : k < t.els.length
            · have hlt' : k < u.els.length := by have := HLM.out; omega
              obtain ⟨b, o, rfl, ha⟩ := hA k hlt
              obtain ⟨b', o', rfl, ha'⟩ := hC k hlt'
              obtain ⟨⟨c0, c1, c2, c3⟩, hink⟩ := (hint.out.later hb).el ha hlt
              obtain ⟨⟨d0, d1, d2, d3⟩, hink'⟩ := (hinu.out.later hb).el ha' hlt'
              have HC := hide (IH.out k hlt hlt' wr.drew (hink.below (B := wr.heap.size) (Below.refl _ _).drew (Nat.le_refl _)) (hink'.below (B := wr.heap.size) (Below.refl _ _).drew (Nat.le_refl _)))
              have hi0 : (0 : Int) ≤ k := by omega
              have hi1 : (k : Int) < t.els.length := by omega
              have hi2 : (k : Int) < u.els.length := by omega
              have HB := hide hb
              clear ha ha' hb
              cases hsm : (t.els[k]).same u.els[k] with
              | true =>
                rw [hsm] at HC
                have HS := hide hsm
                clear hsm
                go_wp2_with fail
                go_still_tail 10, (by kernel_rfl)
                change wpList _ _ _ _ _ wr.drew
                have HBD := hide HB.out.drew
                generalize wr.drew = w2 at *
                go_wp2_with (go_at_call 20; refine HC.out.mono ?_; rintro e w' ⟨rfl, hb'⟩)
                refine ⟨⟨k + 1, by omega, by go_num, fun j h h' hj => ?_, below_one HBD.out hb'⟩, by simp [intOf]; omega⟩
                by_cases e : j = k
                · subst e; exact HS.out
                · exact HW.out j h h' (by omega)
              | false =>
                rw [hsm] at HC
                have hr : Hid (t.same u = false) := by
                  show _ = _
                  rw [HQ.out]
                  cases e : VT.same.sames t.els u.els with
                  | false => rfl
                  | true => rw [(VT.sames_iff.1 e).2 k hlt hlt'] at hsm; cases hsm
                clear hsm
                go_wp2_with fail
                go_still_tail 10, (by kernel_rfl)
                change wpList _ _ _ _ _ wr.drew
                have HBD := hide HB.out.drew
                generalize wr.drew = w2 at *
                go_wp2_with (go_at_call 20; refine HC.out.mono ?_; rintro e w' ⟨rfl, hb'⟩)
                go_ret
                exact ⟨by rw [hr.out]; rfl, below_one hb0.out (below_one HBD.out hb')⟩
            · obtain rfl : k = t.els.length := by omega
              have hr : Hid (t.same u = true) := by
                show _ = _
                rw [HQ.out]
                exact VT.sames_iff.2 ⟨HLM.out, fun i h h' => HW.out i h h' h⟩
              go_wp2_with fail
              go_ret
              exact ⟨by rw [hr.out]; rfl, below_one hb0.out hb⟩
        · have hne4 : ((t.els.length : Int) != u.els.length) = true := by simp; omega
          have hr : Hid (t.same u = false) := by
            show _ = _
            rw [HQ.out]
            cases e : VT.same.sames t.els u.els with
            | false => rfl
            | true => exact absurd (VT.sames_len e) hlm
          clear hlm
          go_enter Try.func20, Try.ntmps20
          go_wp2_with fail
          go_ret
          exact (HF false hr _ ((below_new _ _).alloc (by simp) _)).out

theorem rsame_any : ∀ (N : Nat) (t u : VT), t.sz ≤ N → RSameAt t u := by
  intro N
  induction N with
  | zero => intro t u h; cases t; simp [VT.sz] at h
  | succ N ih => exact fun t u h => rsame_step t u fun i hi hi' => ih _ _ (by have := VT.sz_lt hi; omega)
end Go.Proofs.Ytccdencaidopnaa
