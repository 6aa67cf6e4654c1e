/- The reference's reader: number: the numeral that is next, or the mark. -/
import Derived.Test.YtccdencaidopnaaRRd
namespace Go.Proofs.Ytccdencaidopnaa
open Go.RowKit

def RNumPost (R : Nat) (a : Option Addr) (l : List UInt8) (cap at' : Nat) (w : World) (e : Ending) (w' : World) : Prop :=
  ((∃ (u n : Nat), e = .returned (.int .u64 (u : Nat)) ∧ u < 18446744073709551616 ∧ l.drop at' = numeral u ++ l.drop n ∧ n ≤ l.length ∧ RR R a l cap n false w') ∨
    ((∃ (u : Int) (n : Nat), e = .returned (.int .u64 u) ∧ 0 ≤ u ∧ u ≤ 18446744073709551615 ∧ n ≤ l.length ∧ RR R a l cap n true w') ∧ ∀ (u : Nat) (rest : List UInt8), u < 18446744073709551616 → l.drop at' ≠ numeral u ++ rest)) ∧ w.grownBy w' (some R)

theorem add_nv (d : List UInt8) (c : UInt8) (h : d.length < 9 ∨ (d.length = 9 ∧ c.toNat ≤ 1)) : (nv d : Int) + IntKind.u64.wrap ((c.toNat : Int) % 128 * 2 ^ (7 * d.length)) = (nv (d ++ [c]) : Nat) ∧ nv (d ++ [c]) < 18446744073709551616 := by
  have hp : (128 : Nat) ^ d.length = 2 ^ (7 * d.length) := by rw [Nat.pow_mul]
  have hlt := nv_lt d
  have hm : c.toNat % 128 * 2 ^ (7 * d.length) < 18446744073709551616 ∧ nv d + c.toNat % 128 * 2 ^ (7 * d.length) < 18446744073709551616 := by
    rw [hp] at hlt
    rcases h with h | ⟨h, hc⟩
    · have h1 : 2 ^ (7 * d.length) ≤ 2 ^ 56 := Nat.pow_le_pow_right (by omega) (by omega)
      have h2 : c.toNat % 128 * 2 ^ (7 * d.length) ≤ 127 * 2 ^ 56 := Nat.mul_le_mul (by omega) h1
      omega
    · rw [h] at hlt ⊢
      have h2 : c.toNat % 128 * 2 ^ (7 * 9) ≤ 1 * 2 ^ (7 * 9) := Nat.mul_le_mul_right _ (by omega)
      omega
  have hw : IntKind.u64.wrap ((c.toNat : Int) % 128 * 2 ^ (7 * d.length)) = ((c.toNat % 128 * 2 ^ (7 * d.length) : Nat) : Int) := by
    rw [IntKind.wrap_u64]
    have e : ((c.toNat : Int) % 128 * 2 ^ (7 * d.length)) = ((c.toNat % 128 * 2 ^ (7 * d.length) : Nat) : Int) := by simp
    rw [e]
    omega
  rw [hw, nv_snoc, hp]
  exact ⟨by omega, hm.2⟩

set_option maxRecDepth 10000 in
set_option maxHeartbeats 1600000 in
theorem number_any (R : Nat) (a : Option Addr) (l : List UInt8) (cap at' : Nat) (w : World) (hr : RR R a l cap at' false w) (hat : at' ≤ l.length) (hl : l.length ≤ 1000000000) :
    Calls Try.prog 54 #[.pointer (some ⟨R, 0, none⟩)] w (RNumPost R a l cap at' w) := by
  go_enter Try.func54, Try.ntmps54
  go_wp2_with fail
  go_loopw [3, 4] (fun x i wr => ∃ (d : List UInt8), d.length ≤ 9 ∧ i = .int .i64 d.length ∧ Hid (l.drop at' = d ++ l.drop (at' + d.length)) ∧ at' + d.length ≤ l.length ∧ High d ∧ RR R a l cap (at' + d.length) false wr ∧ x = .int .u64 (nv d : Nat) ∧ w.grownBy wr (some R)) (fun _ i _ => 10 - (intOf i).toNat)
  case atStart => exact ⟨[], by simp, rfl, hide (by simp), by simpa using hat, by simp [High], by simpa using hr, rfl, only_refl _ _⟩
  case round =>
    obtain ⟨d, hk, rfl, HL, hle, hd, hrd, rfl, hg⟩ := hrel
    obtain ⟨_, _, y2, yf⟩ := hrd.cells
    have HNV := hide (show nv d < 18446744073709551616 from by
      have h1 := nv_lt d
      have h2 : 128 ^ d.length ≤ 128 ^ 9 := Nat.pow_le_pow_right (by omega) hk
      omega)
    have hnv := HNV.out
    by_cases hend : at' + d.length < l.length
    · obtain ⟨c, hcc⟩ : ∃ c, c = l[at' + d.length] := ⟨_, rfl⟩
      have HC := hide (next_ok R a l cap (at' + d.length) false wr hrd hl hend)
      rw [← hcc] at HC
      have HD := hide (show l.drop at' = d ++ c :: l.drop (at' + d.length + 1) by rw [HL.out]; congr 1; rw [hcc]; exact List.drop_eq_getElem_cons hend)
      have hc256 := c.toNat_lt
      clear hcc
      by_cases hc : c.toNat < 128
      · by_cases hbad : (d.length ≠ 0 ∧ c.toNat = 0) ∨ (d.length = 9 ∧ 1 < c.toNat)
        · have HN := hide (show ∀ (u : Nat) (rest : List UInt8), u < 18446744073709551616 → l.drop at' ≠ numeral u ++ rest from fun u rest hu => by
            rw [HD.out]
            refine numeral_not hd hc ?_ hu
            rcases hbad with ⟨h1, h2⟩ | ⟨h1, h2⟩
            · exact .inl ⟨by intro e; rw [e] at h1; exact h1 rfl, h2⟩
            · exact .inr ⟨by omega, h2⟩)
          clear HL
          rcases hbad with ⟨h1, h2⟩ | ⟨h1, h2⟩
          · rw [h2] at HC
            generalize d.length = k at *
            have hk0 : 0 < (k : Int) := by omega
            clear h1 h2 hc hc256
            by_cases h9 : k = 9
            · have hb9 : ((k : Int) == 9) = true := by simp; omega
              clear h9
              go_wp2_with (go_at_call 53; refine HC.out.mono ?_; rintro e w' ⟨rfl, hr2, hg'⟩; obtain ⟨_, _, z2, zf⟩ := hr2.cells)
              go_ret
              exact ⟨.inr ⟨⟨0, _, rfl, by omega, by omega, by omega, hr2.mark.1⟩, HN.out⟩, only_trans (only_trans hg hg') hr2.mark.2⟩
            · have hb9 : ((k : Int) == 9) = false := by simp; omega
              clear h9
              go_wp2_with (go_at_call 53; refine HC.out.mono ?_; rintro e w' ⟨rfl, hr2, hg'⟩; obtain ⟨_, _, z2, zf⟩ := hr2.cells)
              go_ret
              exact ⟨.inr ⟨⟨0, _, rfl, by omega, by omega, by omega, hr2.mark.1⟩, HN.out⟩, only_trans (only_trans hg hg') hr2.mark.2⟩
          · have hb9 : ((d.length : Int) == 9) = true := by simp; omega
            generalize d.length = k at *
            have h1c : 1 < (c.toNat : Int) := by omega
            go_wp2_with (go_at_call 53; refine HC.out.mono ?_; rintro e w' ⟨rfl, hr2, hg'⟩; obtain ⟨_, _, z2, zf⟩ := hr2.cells)
            go_ret
            exact ⟨.inr ⟨⟨0, _, rfl, by omega, by omega, by omega, hr2.mark.1⟩, HN.out⟩, only_trans (only_trans hg hg') hr2.mark.2⟩
        · have hk9 : d.length < 9 ∨ (d.length = 9 ∧ c.toNat ≤ 1) := by omega
          have hz : d = [] ∨ c.toNat ≠ 0 := by
            by_cases h0 : d.length = 0
            · exact .inl (List.eq_nil_of_length_eq_zero h0)
            · right; intro e; exact hbad (.inl ⟨h0, e⟩)
          obtain ⟨hlt64, hnum⟩ := numeral_of hd hc (by omega) hz (by omega)
          have HA := hide (add_nv d c hk9)
          have HQ := hide (show l.drop at' = numeral (nv (d ++ [c])) ++ l.drop (at' + d.length + 1) by rw [hnum, HD.out]; simp)
          have HV := hide (show ∀ W, RR R a l cap (at' + d.length + 1) false W → w.grownBy W (some R) → RNumPost R a l cap at' w (.returned (.int .u64 ((nv d : Int) + IntKind.u64.wrap ((c.toNat : Int) % 128 * 2 ^ (7 * d.length))))) W from fun W h1 h2 => ⟨.inl ⟨nv (d ++ [c]), _, by rw [HA.out.1], HA.out.2, HQ.out, by omega, h1⟩, h2⟩)
          have hA1 : 0 ≤ (nv d : Int) + IntKind.u64.wrap ((c.toNat : Int) % 128 * 2 ^ (7 * d.length)) ∧ (nv d : Int) + IntKind.u64.wrap ((c.toNat : Int) % 128 * 2 ^ (7 * d.length)) ≤ 18446744073709551615 := by rw [HA.out.1]; have := HA.out.2; omega
          have hk0 : d.length = 0 ∨ c.toNat ≠ 0 := by
            rcases hz with h | h
            · left; rw [h]; rfl
            · exact .inr h
          clear HL HD hbad hz hnum hlt64 HA HQ hd
          generalize nv d = N at *
          generalize d.length = k at *
          by_cases h9 : k = 9
          · have hb9 : ((k : Int) == 9) = true := by simp; omega
            have hc1 : (c.toNat : Int) ≤ 1 := by omega
            have hc0 : ((c.toNat : Int) == 0) = false := by simp; omega
            clear h9 hk0 hk9
            go_wp2_with (go_at_call 53; refine HC.out.mono ?_; rintro e w' ⟨rfl, hr2, hg'⟩)
            all_goals (go_ret; exact HV.out _ hr2 (only_trans hg hg'))
          · have hb9 : ((k : Int) == 9) = false := by simp; omega
            by_cases h0 : k = 0
            · have hk1 : (k : Int) ≤ 0 := by omega
              clear h9 hk0 hk9 h0
              go_wp2_with (go_at_call 53; refine HC.out.mono ?_; rintro e w' ⟨rfl, hr2, hg'⟩)
              all_goals (go_ret; exact HV.out _ hr2 (only_trans hg hg'))
            · have hk1 : 0 < (k : Int) := by omega
              have hc0 : ((c.toNat : Int) == 0) = false := by simp; omega
              clear h9 hk0 hk9 h0
              go_wp2_with (go_at_call 53; refine HC.out.mono ?_; rintro e w' ⟨rfl, hr2, hg'⟩)
              all_goals (go_ret; exact HV.out _ hr2 (only_trans hg hg'))
      · by_cases h9 : d.length = 9
        · have HN := hide (show ∀ (u : Nat) (rest : List UInt8), u < 18446744073709551616 → l.drop at' ≠ numeral u ++ rest from fun u rest hu => by
            rw [HD.out]
            have hd2 : High (d ++ [c]) := by
              intro x hx
              rcases List.mem_append.1 hx with hx | hx
              · exact hd x hx
              · rw [List.mem_singleton.1 hx]; omega
            have := numeral_not_high (r := l.drop (at' + d.length + 1)) hd2 (.inr (by rw [List.length_append, h9]; simp)) hu (r' := rest)
            simpa using this)
          have hb9 : ((d.length : Int) == 9) = true := by simp; omega
          have h1c : 1 < (c.toNat : Int) := by omega
          clear HL
          generalize d.length = k at *
          go_wp2_with (go_at_call 53; refine HC.out.mono ?_; rintro e w' ⟨rfl, hr2, hg'⟩; obtain ⟨_, _, z2, zf⟩ := hr2.cells)
          go_ret
          exact ⟨.inr ⟨⟨0, _, rfl, by omega, by omega, by omega, hr2.mark.1⟩, HN.out⟩, only_trans (only_trans hg hg') hr2.mark.2⟩
        · have hnx := (add_nv d c (.inl (by omega)))
          have HA := hide hnx
          have hA1 : 0 ≤ (nv d : Int) + IntKind.u64.wrap ((c.toNat : Int) % 128 * 2 ^ (7 * d.length)) ∧ (nv d : Int) + IntKind.u64.wrap ((c.toNat : Int) % 128 * 2 ^ (7 * d.length)) ≤ 18446744073709551615 := by rw [hnx.1]; have := hnx.2; omega
          have HDL := hide (show (d ++ [c]).length = d.length + 1 by simp)
          have hd2 := hide (show High (d ++ [c]) from fun x hx => by
              rcases List.mem_append.1 hx with hx | hx
              · exact hd x hx
              · rw [List.mem_singleton.1 hx]; omega)
          have hb9 : ((d.length : Int) == 9) = false := by simp; omega
          have hc0 : ((c.toNat : Int) == 0) = false := by simp; omega
          have hc1 : 128 ≤ (c.toNat : Int) := by omega
          have hk8 : d.length ≤ 8 := by omega
          clear HL hnx
          generalize hkd : d.length = k at *
          by_cases h0 : k = 0
          · have hk1 : (k : Int) ≤ 0 := by omega
            clear h0
            go_wp2_with (go_at_call 53; refine HC.out.mono ?_; rintro e w' ⟨rfl, hr2, hg'⟩)
            all_goals (
              refine ⟨⟨d ++ [c], by rw [HDL.out]; omega, by rw [HDL.out]; go_num, hide ?_, by rw [HDL.out]; omega, hd2.out, by rw [HDL.out]; exact hr2, by rw [HA.out.1], only_trans hg hg'⟩, by simp [intOf]; omega⟩
              rw [HD.out, HDL.out]
              simp [Nat.add_assoc])
          · have hk1 : 0 < (k : Int) := by omega
            go_wp2_with (go_at_call 53; refine HC.out.mono ?_; rintro e w' ⟨rfl, hr2, hg'⟩)
            all_goals (
              refine ⟨⟨d ++ [c], by rw [HDL.out]; omega, by rw [HDL.out]; go_num, hide ?_, by rw [HDL.out]; omega, hd2.out, by rw [HDL.out]; exact hr2, by rw [HA.out.1], only_trans hg hg'⟩, by simp [intOf]; omega⟩
              rw [HD.out, HDL.out]
              simp [Nat.add_assoc])
    · have HN := hide (show ∀ (u : Nat) (rest : List UInt8), u < 18446744073709551616 → l.drop at' ≠ numeral u ++ rest from fun u rest hu => by
        rw [HL.out, List.drop_of_length_le (by omega)]
        exact numeral_not_high hd (.inl rfl) hu)
      have HC := hide (next_end R a l cap (at' + d.length) false wr hrd (by omega))
      clear HL hd
      generalize nv d = N at *
      generalize d.length = k at *
      by_cases h0 : k = 0
      · have hk1 : (k : Int) ≤ 0 := by omega
        go_wp2_with (go_at_call 53; refine HC.out.mono ?_; rintro e w' ⟨rfl, hr2, hg'⟩)
        all_goals (go_ret; exact ⟨.inr ⟨⟨_, _, rfl, by omega, by omega, by omega, hr2⟩, HN.out⟩, only_trans hg hg'⟩)
      · have hk1 : 0 < (k : Int) := by omega
        by_cases h9 : k = 9
        · have hb9 : ((k : Int) == 9) = true := by simp; omega
          go_wp2_with (go_at_call 53; refine HC.out.mono ?_; rintro e w' ⟨rfl, hr2, hg'⟩; obtain ⟨_, _, z2, zf⟩ := hr2.cells)
          all_goals (go_ret; exact ⟨.inr ⟨⟨0, _, rfl, by omega, by omega, by omega, hr2.mark.1⟩, HN.out⟩, only_trans (only_trans hg hg') hr2.mark.2⟩)
        · have hb9 : ((k : Int) == 9) = false := by simp; omega
          go_wp2_with (go_at_call 53; refine HC.out.mono ?_; rintro e w' ⟨rfl, hr2, hg'⟩; obtain ⟨_, _, z2, zf⟩ := hr2.cells)
          all_goals (go_ret; exact ⟨.inr ⟨⟨0, _, rfl, by omega, by omega, by omega, hr2.mark.1⟩, HN.out⟩, only_trans (only_trans hg hg') hr2.mark.2⟩)
end Go.Proofs.Ytccdencaidopnaa
