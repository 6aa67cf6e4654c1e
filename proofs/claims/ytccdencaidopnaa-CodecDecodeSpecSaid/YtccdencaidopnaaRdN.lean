/- The reader's numeral: it reads the numeral of a number below 2^64, or panics if there is none. -/
import Derived.Test.YtccdencaidopnaaRd
namespace Go.Proofs.Ytccdencaidopnaa
open Go.RowKit

theorem take_1 {Bb : Nat} (R : Nat) (a : Option Addr) (c : UInt8) (l : List UInt8) (w : World) (hr : Rd Bb R a (c :: l) w) (hl : (c :: l).length ≤ 4294967296) :
    Calls Try.prog 49 #[.pointer (some ⟨R, 0, none⟩), .int .u64 1] w fun e w' => ∃ b o, e = .returned (.slice (some ⟨b, o, none⟩) 1 1) ∧ w'.cell? ⟨b, o, none⟩ = some (.int .u8 (c.toNat : Nat)) ∧ (∃ a', Rd Bb R a' l w') ∧ w.grownBy w' (some R) := by
  obtain ⟨b, o, rfl, hb, hlt, hc⟩ := hr.bytes 0 (by simp)
  refine (take_any R _ (c :: l) 1 w hr hl (by simp)).mono fun e w' ⟨he, ha, hg⟩ => ⟨b, o, he, ?_, by simpa using ha, hg⟩
  rw [World.cell?_of_block (a := ⟨b, o, none⟩) (hg.block b hlt (by intro e; injection e with e; exact hb e))]
  simpa using hc

theorem take_0 {Bb : Nat} (R : Nat) (a : Option Addr) (w : World) (hr : Rd Bb R a [] w) :
    Calls Try.prog 49 #[.pointer (some ⟨R, 0, none⟩), .int .u64 1] w fun e w' => e = bad ∧ w.grownBy w' (some R) :=
  take_bad R a [] 1 w hr (by simp) (by simp) (by omega)

theorem ofInt_u64 (a : Nat) (ha : a < 18446744073709551616) : (BitVec.ofInt 64 (a : Int)).toNat = a := by
  rw [BitVec.ofInt_natCast, BitVec.toNat_ofNat]; exact Nat.mod_eq_of_lt (by omega)

/-- One digit more, as the program puts it in. -/
theorem or_digit (A c k : Nat) (hA : A < 18446744073709551616) :
    bits .or .u64 (A : Int) (IntKind.u64.wrap ((c : Int) % 128 * 2 ^ (7 * k))) = ((A ||| (c % 128 * 2 ^ (7 * k)) % 18446744073709551616 : Nat) : Int) := by
  have h1 : IntKind.u64.wrap ((c : Int) % 128 * 2 ^ (7 * k)) = (((c % 128 * 2 ^ (7 * k)) % 18446744073709551616 : Nat) : Int) := by
    rw [IntKind.wrap_u64]
    simp
  rw [h1]
  have hm : (c % 128 * 2 ^ (7 * k)) % 18446744073709551616 < 18446744073709551616 := Nat.mod_lt _ (by omega)
  generalize (c % 128 * 2 ^ (7 * k)) % 18446744073709551616 = m at *
  show IntKind.u64.wrap ((BitVec.ofInt 64 (A : Int) ||| BitVec.ofInt 64 (m : Int)).toNat : Int) = _
  rw [BitVec.toNat_or, ofInt_u64 A hA, ofInt_u64 m hm, IntKind.wrap_u64]
  have : A ||| m < 2 ^ 64 := Nat.or_lt_two_pow (by omega) (by omega)
  omega

theorem or_lt (A c k : Nat) (hA : A < 18446744073709551616) : A ||| (c % 128 * 2 ^ (7 * k)) % 18446744073709551616 < 18446744073709551616 := by
  have hm : (c % 128 * 2 ^ (7 * k)) % 18446744073709551616 < 18446744073709551616 := Nat.mod_lt _ (by omega)
  have : A ||| (c % 128 * 2 ^ (7 * k)) % 18446744073709551616 < 2 ^ 64 := Nat.or_lt_two_pow (by omega) (by omega)
  omega

theorem or_nv (d : List UInt8) (c : UInt8) (h : d.length < 9 ∨ (d.length = 9 ∧ c.toNat ≤ 1)) : nv d ||| (c.toNat % 128 * 2 ^ (7 * d.length)) % 18446744073709551616 = nv (d ++ [c]) := by
  have hp : (128 : Nat) ^ d.length = 2 ^ (7 * d.length) := by rw [Nat.pow_mul]
  have hlt := nv_lt d
  rw [nv_snoc, hp]
  rw [hp] at hlt
  have hm : (c.toNat % 128 * 2 ^ (7 * d.length)) % 18446744073709551616 = c.toNat % 128 * 2 ^ (7 * d.length) := by
    refine Nat.mod_eq_of_lt ?_
    rcases h with h | ⟨h, hc⟩
    · have h1 : 2 ^ (7 * d.length) ≤ 2 ^ 56 := Nat.pow_le_pow_right (by omega) (by omega)
      have h2 : c.toNat % 128 * 2 ^ (7 * d.length) ≤ 127 * 2 ^ 56 := Nat.mul_le_mul (by omega) h1
      omega
    · rw [h]
      have h2 : c.toNat % 128 * 2 ^ (7 * 9) ≤ 1 * 2 ^ (7 * 9) := Nat.mul_le_mul_right _ (by omega)
      omega
  rw [hm, Nat.or_comm, Nat.mul_comm, ← Nat.two_pow_add_eq_or_of_lt hlt, Nat.add_comm]

def NumPost (Bb R : Nat) (l : List UInt8) (w : World) (e : Ending) (w' : World) : Prop :=
  ((∃ (u : Nat) (rest : List UInt8) (a : Option Addr), e = .returned (.int .u64 (u : Nat)) ∧ u < 18446744073709551616 ∧ l = numeral u ++ rest ∧ Rd Bb R a rest w') ∨
    (e = bad ∧ ∀ (u : Nat) (rest : List UInt8), u < 18446744073709551616 → l ≠ numeral u ++ rest)) ∧ w.grownBy w' (some R)

set_option maxRecDepth 10000 in
set_option maxHeartbeats 1600000 in
theorem numeral_any {Bb : Nat} (R : Nat) (a : Option Addr) (l : List UInt8) (w : World) (hr : Rd Bb R a l w) (hl : l.length ≤ 4294967296) :
    Calls Try.prog 51 #[.pointer (some ⟨R, 0, none⟩)] w (NumPost Bb R l w) := by
  go_enter Try.func51, Try.ntmps51
  go_wp2_with fail
  go_loopw [2, 7] (fun x i wr => ∃ (k : Nat) (d cur : List UInt8) (a' : Option Addr), k ≤ 10 ∧ i = .int .i64 k ∧ Hid (l = d ++ cur) ∧ Hid (d.length = k) ∧ High d ∧ Rd Bb R a' cur wr ∧ (∃ A : Nat, x = .int .u64 A ∧ A < 18446744073709551616 ∧ Hid (k ≤ 9 → A = nv d)) ∧ w.grownBy wr (some R)) (fun _ i _ => 10 - (intOf i).toNat)
  case atStart => exact ⟨0, [], l, a, by omega, rfl, rfl, rfl, by simp [High], hr, ⟨0, rfl, by omega, fun _ => rfl⟩, only_refl _ _⟩
  case round =>
    obtain ⟨k, d, cur, a', hk, rfl, HL, HK, hd, hrd, ⟨A, rfl, hA, HA⟩, hg⟩ := hrel
    by_cases hlt : k < 10
    · cases cur with
      | nil =>
        have HC := hide (take_0 R a' wr hrd)
        have HN := hide (show ∀ (u : Nat) (rest : List UInt8), u < 18446744073709551616 → l ≠ numeral u ++ rest from fun u rest hu => by rw [HL.out]; exact numeral_not_high hd (.inl rfl) hu)
        go_wp2_with (go_at_call 49; refine HC.out.mono ?_; rintro e w' ⟨rfl, hg'⟩)
        exact ⟨rfl, .inr ⟨rfl, HN.out⟩, only_trans hg hg'⟩
      | cons c cur =>
        have hcl : (c :: cur).length ≤ 4294967296 := by rw [HL.out] at hl; simp at hl ⊢; omega
        have HC := hide (take_1 R a' c cur wr hrd hcl)
        have hc256 := c.toNat_lt
        clear hcl
        by_cases hc : c.toNat < 128
        · by_cases hbad : (k ≠ 0 ∧ c.toNat = 0) ∨ (k = 9 ∧ 1 < c.toNat)
          · have HN := hide (show ∀ (u : Nat) (rest : List UInt8), u < 18446744073709551616 → l ≠ numeral u ++ rest from fun u rest hu => by
              rw [HL.out]
              refine numeral_not hd hc ?_ hu
              rcases hbad with ⟨h1, h2⟩ | ⟨h1, h2⟩
              · exact .inl ⟨by intro e; rw [e] at HK; exact h1 HK.out.symm, h2⟩
              · exact .inr ⟨by rw [HK.out]; omega, h2⟩)
            rcases hbad with ⟨h1, h2⟩ | ⟨h1, h2⟩
            · have hb1 : ((c.toNat : Int) == 0) = true := by simp; omega
              have hk0 : 0 < k := by omega
              clear h1 h2
              go_wp2_with (go_at_call 49; refine HC.out.mono ?_; rintro e w' ⟨b, o, rfl, hcell, ⟨a2, hrd2⟩, hg'⟩)
              all_goals exact ⟨rfl, .inr ⟨rfl, HN.out⟩, only_trans hg hg'⟩
            · have hb1 : ((c.toNat : Int) == 0) = false := by simp; omega
              have hb2 : ((k : Int) == 9) = true := by simp; omega
              clear h1
              go_wp2_with (go_at_call 49; refine HC.out.mono ?_; rintro e w' ⟨b, o, rfl, hcell, ⟨a2, hrd2⟩, hg'⟩)
              all_goals exact ⟨rfl, .inr ⟨rfl, HN.out⟩, only_trans hg hg'⟩
          · have hk9 : d.length < 9 ∨ (d.length = 9 ∧ c.toNat ≤ 1) := by rw [HK.out]; omega
            have hz : d = [] ∨ c.toNat ≠ 0 := by
              by_cases h0 : k = 0
              · exact .inl (List.eq_nil_of_length_eq_zero (by rw [HK.out, h0]))
              · right; intro e; exact hbad (.inl ⟨h0, e⟩)
            obtain ⟨hlt64, hnum⟩ := numeral_of hd hc (by rw [HK.out]; omega) hz (by omega)
            have HR := hide (show ∃ u : Nat, (A ||| (c.toNat % 128 * 2 ^ (7 * k)) % 18446744073709551616) = u ∧ u < 18446744073709551616 ∧ l = numeral u ++ cur from
              ⟨nv (d ++ [c]), by rw [HA.out (by omega), ← HK.out]; exact or_nv d c hk9, hlt64, by rw [hnum, HL.out]; simp⟩)
            clear hlt64 hnum hz hk9
            have HO := hide (or_digit A c.toNat k hA)
            by_cases hc0 : c.toNat = 0
            · have hb1 : ((c.toNat : Int) == 0) = true := by simp; omega
              have hk0 : k ≤ 0 := by omega
              have hle : c.toNat ≤ 1 := by omega
              clear hbad hc0
              go_wp2_with (go_at_call 49; refine HC.out.mono ?_; rintro e w' ⟨b, o, rfl, hcell, ⟨a2, hrd2⟩, hg'⟩)
              go_ret
              obtain ⟨u, h1, h2, h3⟩ := HR.out
              exact ⟨.inl ⟨u, cur, a2, by show Ending.returned (.int .u64 (bits .or .u64 (A : Int) (IntKind.u64.wrap ((c.toNat : Int) % 128 * 2 ^ (7 * k))))) = _; rw [HO.out, h1], h2, h3, hrd2⟩, only_trans hg hg'⟩
            · have hb1 : ((c.toNat : Int) == 0) = false := by simp; omega
              by_cases hc1 : c.toNat ≤ 1
              · clear hbad hc0
                go_wp2_with (go_at_call 49; refine HC.out.mono ?_; rintro e w' ⟨b, o, rfl, hcell, ⟨a2, hrd2⟩, hg'⟩)
                go_ret
                obtain ⟨u, h1, h2, h3⟩ := HR.out
                exact ⟨.inl ⟨u, cur, a2, by show Ending.returned (.int .u64 (bits .or .u64 (A : Int) (IntKind.u64.wrap ((c.toNat : Int) % 128 * 2 ^ (7 * k))))) = _; rw [HO.out, h1], h2, h3, hrd2⟩, only_trans hg hg'⟩
              · have hb2 : ((k : Int) == 9) = false := by simp; omega
                clear hbad hc0
                go_wp2_with (go_at_call 49; refine HC.out.mono ?_; rintro e w' ⟨b, o, rfl, hcell, ⟨a2, hrd2⟩, hg'⟩)
                go_ret
                obtain ⟨u, h1, h2, h3⟩ := HR.out
                exact ⟨.inl ⟨u, cur, a2, by show Ending.returned (.int .u64 (bits .or .u64 (A : Int) (IntKind.u64.wrap ((c.toNat : Int) % 128 * 2 ^ (7 * k))))) = _; rw [HO.out, h1], h2, h3, hrd2⟩, only_trans hg hg'⟩
        · go_wp2_with (go_at_call 49; refine HC.out.mono ?_; rintro e w' ⟨b, o, rfl, hcell, ⟨a2, hrd2⟩, hg'⟩)
          have hdk : (d ++ [c]).length = k + 1 := by rw [List.length_append, HK.out]; rfl
          refine ⟨⟨k + 1, d ++ [c], cur, a2, by omega, by go_num, ?_, hdk, ?_, hrd2, ⟨_, by rw [or_digit A c.toNat k hA], or_lt A c.toNat k hA, fun h9 => ?_⟩, only_trans hg hg'⟩, by simp [intOf]; omega⟩
          · show l = _
            rw [HL.out]; simp
          · intro x hx
            rcases List.mem_append.1 hx with hx | hx
            · exact hd x hx
            · rw [List.mem_singleton.1 hx]; omega
          · rw [HA.out (by omega), ← HK.out]
            exact or_nv d c (.inl (by rw [HK.out]; omega))
    · obtain rfl : k = 10 := by omega
      have HN := hide (show ∀ (u : Nat) (rest : List UInt8), u < 18446744073709551616 → l ≠ numeral u ++ rest from fun u rest hu => by rw [HL.out]; exact numeral_not_high hd (.inr (by rw [HK.out]; omega)) hu)
      go_wp2_with fail
      exact ⟨rfl, .inr ⟨rfl, HN.out⟩, hg⟩
end Go.Proofs.Ytccdencaidopnaa
