/- number. -/
import Derived.Test.YtemapfhiiefieaaDoorNam
namespace Go.Proofs.YtemapfhiiefieaaDoor
open Go.RowKit

theorem isDg_range {c : UInt8} (h : isDg c = true) : 48 ≤ c.toNat ∧ c.toNat ≤ 57 := by
  simp only [isDg, cls, beq_iff_eq] at h
  unfold clsN at h
  split at h
  · omega
  · split at h
    · omega
    · split at h
      · assumption
      · split at h
        · omega
        · split at h <;> omega

/-- What digits mean. -/
def dval (l : List UInt8) : Nat := l.foldl (fun n c => 10 * n + (c.toNat - 48)) 0
theorem dval_take {l : List UInt8} {k : Nat} (h : k < l.length) : dval (l.take (k + 1)) = 10 * dval (l.take k) + (l[k].toNat - 48) := by
  unfold dval; rw [List.take_succ_eq_append_getElem h, List.foldl_append]; rfl
theorem dval_mono (l : List UInt8) (k : Nat) : ∀ j, dval (l.take k) ≤ dval (l.take (k + j))
  | 0 => Nat.le_refl _
  | j + 1 => by
    refine Nat.le_trans (dval_mono l k j) ?_
    by_cases h : k + j < l.length
    · rw [← Nat.add_assoc, dval_take h]; omega
    · rw [List.take_of_length_le (by omega), List.take_of_length_le (by omega)]; exact Nat.le_refl _
theorem dval_le (l : List UInt8) (k : Nat) : dval (l.take k) ≤ dval l := by
  have := dval_mono l k l.length
  rwa [List.take_of_length_le (i := k + l.length) (by omega)] at this

/-- The number that digits are, if they are one. -/
def numB (l : List UInt8) : Option Nat := if 1 < l.length ∧ l.head? = some 48 then none else if dval l ≤ 1099511627776 then some (dval l) else none
def NumPost (l : List UInt8) (w : World) (e : Ending) (w' : World) : Prop :=
  ((∃ n : Nat, numB l = some n ∧ e = .returned (.tuple #[.int .i64 (n : Nat), .bool true])) ∨ (numB l = none ∧ e = .returned (.tuple #[.int .i64 0, .bool false]))) ∧ w = w'

set_option maxRecDepth 10000 in
set_option maxHeartbeats 1600000 in
theorem number_any (l : List UInt8) (w : World) (hd : ∀ i (h : i < l.length), isDg l[i] = true) (h0 : 0 < l.length) (hl : l.length ≤ 1000000000) :
    Calls Tryd.prog 58 #[.string (str l)] w (NumPost l w) := by
  have hs := str_size l
  have HD := hide hd
  have hget : (str l)[0]'(by rw [hs]; exact h0) = l[0] := rfl
  have HH := hide (show l.head? = some l[0] by rw [List.head?_eq_getElem?, List.getElem?_eq_getElem h0])
  clear hd
  have hc256 := l[0].toNat_lt
  by_cases hz : 1 < l.length ∧ l[0].toNat = 48
  · have HN := hide (show numB l = none by
      unfold numB
      rw [if_pos ⟨hz.1, by rw [HH.out]; congr 1; exact UInt8.toNat_inj.1 hz.2⟩])
    obtain ⟨hz1, hz2⟩ := hz
    have e1 : decide ((1 : Int) < (l.length : Int)) = true := by simp; omega
    have e2 : ((l[0].toNat : Int) == 48) = true := by simp; omega
    clear hc256 HH
    generalize l[0] = c at *
    go_enter Tryd.func58, Tryd.ntmps58
    go_wp2_with fail
    refine bodyPost_ret (v := .tuple #[.int .i64 0, .bool false]) (by simp [results, Tryd.results58, go_sem]) rfl ?_
    exact ⟨.inr ⟨HN.out, rfl⟩, rfl⟩
  · have HZ := hide (show ¬ (1 < l.length ∧ l.head? = some 48) from fun ⟨h1, h2⟩ => by
      rw [HH.out] at h2
      injection h2 with h2
      exact hz ⟨h1, by rw [h2]; rfl⟩)
    have HNS := hide (show dval l ≤ 1099511627776 → numB l = some (dval l) from fun h => by unfold numB; rw [if_neg HZ.out, if_pos h])
    have HNN := hide (show 1099511627776 < dval l → numB l = none from fun h => by unfold numB; rw [if_neg HZ.out, if_neg (by omega)])
    have hcond : ∀ Q : Prop, (∀ b1 b2 : Bool, decide ((1 : Int) < (l.length : Int)) = b1 → ((l[0].toNat : Int) == 48) = b2 → (b1 && b2) = false → Q) → Q := fun Q h => h _ _ rfl rfl (by
      rw [Bool.eq_false_iff]
      intro e
      simp at e
      exact hz ⟨by omega, by omega⟩)
    refine hcond _ ?_
    intro b1 b2 e1 e2 e3
    clear hcond HZ hc256 HH hz
    generalize l[0] = c0 at *
    have main : ∀ (K : True), Calls Tryd.prog 58 #[.string (str l)] w (NumPost l w) := by
      intro _
      cases b1 with
      | true =>
        obtain rfl : b2 = false := by simpa using e3
        clear e3
        go_enter Tryd.func58, Tryd.ntmps58
        go_wp2_with fail
        clear e1 hget
        go_loop [2, 15] (fun n i => ∃ k : Nat, i = .int .i64 k ∧ k ≤ l.length ∧ n = .int .i64 (dval (l.take k) : Nat) ∧ dval (l.take k) ≤ 1099511627776) (fun _ i => l.length - (intOf i).toNat)
        case atStart => exact ⟨0, rfl, Nat.zero_le _, by simp [dval], by simp [dval]⟩
        case round =>
          obtain ⟨k, rfl, hk, rfl, hv⟩ := hrel
          by_cases hlt : k < l.length
          · have hg : (str l)[k]'(by rw [hs]; exact hlt) = l[k] := rfl
            obtain ⟨r1, r2⟩ := isDg_range (HD.out k hlt)
            have HT := hide (dval_take hlt)
            have HLE := hide (dval_le l (k + 1))
            generalize l[k] = c at *
            generalize dval (l.take k) = v at *
            have hw : IntKind.u8.wrap ((c.toNat : Int) - 48) = (c.toNat : Int) - 48 := by rw [IntKind.wrap_u8']; omega
            have hc1 : (48 : Int) ≤ (c.toNat : Int) := by omega
            have hc2 : (c.toNat : Int) ≤ 57 := by omega
            have hv2 : (v : Int) ≤ 1099511627776 := by omega
            by_cases hb : 1099511627776 < 10 * v + (c.toNat - 48)
            · have hb2 : decide ((1099511627776 : Int) < 10 * (v : Int) + ((c.toNat : Int) - 48)) = true := by simp; omega
              have HN := hide (HNN.out (by have := HLE.out; rw [HT.out] at this; omega))
              clear hb
              go_wp2_with fail
              refine bodyPost_ret (v := .tuple #[.int .i64 0, .bool false]) (by simp [results, Tryd.results58, go_sem]) rfl ?_
              exact ⟨.inr ⟨HN.out, rfl⟩, rfl⟩
            · have hb2 : decide ((1099511627776 : Int) < 10 * (v : Int) + ((c.toNat : Int) - 48)) = false := by simp; omega
              have HB := hide hb
              clear hb
              go_wp2_with fail
              go_round
              case rel => exact ⟨k + 1, by go_num, by omega, by rw [HT.out]; go_num, by rw [HT.out]; have := HB.out; omega⟩
              case measure => simp [intOf]; omega
          · have HE := hide (List.take_of_length_le (l := l) (i := k) (by omega))
            rw [HE.out] at hv
            rw [HE.out]
            have HN := hide (HNS.out hv)
            go_wp2_with fail
            refine bodyPost_ret (v := .tuple #[.int .i64 (dval l : Nat), .bool true]) (by simp [results, Tryd.results58, go_sem]) rfl ?_
            exact ⟨.inl ⟨_, HN.out, rfl⟩, rfl⟩
      | false =>
        clear e3 e2
        go_enter Tryd.func58, Tryd.ntmps58
        go_wp2_with fail
        clear e1 hget
        go_loop [2, 15] (fun n i => ∃ k : Nat, i = .int .i64 k ∧ k ≤ l.length ∧ n = .int .i64 (dval (l.take k) : Nat) ∧ dval (l.take k) ≤ 1099511627776) (fun _ i => l.length - (intOf i).toNat)
        case atStart => exact ⟨0, rfl, Nat.zero_le _, by simp [dval], by simp [dval]⟩
        case round =>
          obtain ⟨k, rfl, hk, rfl, hv⟩ := hrel
          by_cases hlt : k < l.length
          · have hg : (str l)[k]'(by rw [hs]; exact hlt) = l[k] := rfl
            obtain ⟨r1, r2⟩ := isDg_range (HD.out k hlt)
            have HT := hide (dval_take hlt)
            have HLE := hide (dval_le l (k + 1))
            generalize l[k] = c at *
            generalize dval (l.take k) = v at *
            have hw : IntKind.u8.wrap ((c.toNat : Int) - 48) = (c.toNat : Int) - 48 := by rw [IntKind.wrap_u8']; omega
            have hc1 : (48 : Int) ≤ (c.toNat : Int) := by omega
            have hc2 : (c.toNat : Int) ≤ 57 := by omega
            have hv2 : (v : Int) ≤ 1099511627776 := by omega
            by_cases hb : 1099511627776 < 10 * v + (c.toNat - 48)
            · have hb2 : decide ((1099511627776 : Int) < 10 * (v : Int) + ((c.toNat : Int) - 48)) = true := by simp; omega
              have HN := hide (HNN.out (by have := HLE.out; rw [HT.out] at this; omega))
              clear hb
              go_wp2_with fail
              refine bodyPost_ret (v := .tuple #[.int .i64 0, .bool false]) (by simp [results, Tryd.results58, go_sem]) rfl ?_
              exact ⟨.inr ⟨HN.out, rfl⟩, rfl⟩
            · have hb2 : decide ((1099511627776 : Int) < 10 * (v : Int) + ((c.toNat : Int) - 48)) = false := by simp; omega
              have HB := hide hb
              clear hb
              go_wp2_with fail
              go_round
              case rel => exact ⟨k + 1, by go_num, by omega, by rw [HT.out]; go_num, by rw [HT.out]; have := HB.out; omega⟩
              case measure => simp [intOf]; omega
          · have HE := hide (List.take_of_length_le (l := l) (i := k) (by omega))
            rw [HE.out] at hv
            rw [HE.out]
            have HN := hide (HNS.out hv)
            go_wp2_with fail
            refine bodyPost_ret (v := .tuple #[.int .i64 (dval l : Nat), .bool true]) (by simp [results, Tryd.results58, go_sem]) rfl ?_
            exact ⟨.inl ⟨_, HN.out, rfl⟩, rfl⟩
    exact main trivial
end Go.Proofs.YtemapfhiiefieaaDoor
