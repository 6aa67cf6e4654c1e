/- isSquare: the loop finds the symbol of Jacobi. -/
import Derived.Test.YthimljcfmnehcaaDoorGBas
import Derived.WalkMore
namespace Go.Proofs.YthimljcfmnehcaaDoor.Gp
open Go.RowKit

theorem tmod_nat (a b : Nat) : (a : Int).tmod (b : Int) = ((a % b : Nat) : Int) := IntWalk.up_tmod rfl rfl
set_option maxHeartbeats 3200000 in
theorem isSquare_any (x : Nat) (w : World) (h1 : 1 ≤ x) (h2 : x < 2147483579) : Calls Tryd.prog 70 #[.int .i64 (x : Nat)] w fun e w' => e = .returned (.bool (vd (x : Nat))) ∧ w = w' := by
  have HX := hide (And.intro h1 h2)
  have HJ0 := hide (jin_first h1 h2)
  clear h1 h2
  go_enter Tryd.func70, Tryd.ntmps70
  go_wp2_with fail
  go_step3
  go_wp2_with fail
  go_step3
  go_wp2_with fail
  go_loopw [3, 4, 5, 21, 24] (fun a b c _ _ wr => ∃ (u l : Nat) (o : Bool), a = .int .i64 (u : Nat) ∧ b = .int .i64 (l : Nat) ∧ c = .bool o ∧ Hid (Jin x u l o) ∧ wr = w) (fun a b _ _ _ _ => (intOf a).toNat + (intOf b).toNat)
  case atStart => exact ⟨x, 2147483579, false, rfl, rfl, rfl, HJ0, rfl⟩
  case round =>
    obtain ⟨u, l, o, rfl, rfl, rfl, HJ, rfl⟩ := hrel
    have hu := HJ.out.pos
    have hlt := HJ.out.lt
    have hle := HJ.out.le
    have hodd := HJ.out.odd
    by_cases e1 : u = 1
    · have HL := hide (show (!o) = vd (x : Nat) from by
        have := (e1 ▸ HJ.out : Jin x 1 l o).last HX.out.1 HX.out.2
        cases hv : vd (x : Nat) with
        | true => exact this.2 (vd_iff.1 hv)
        | false => cases o with
          | true => rfl
          | false => exact absurd (this.1 rfl) (vd_no.1 hv))
      subst e1
      clear HJ hu hlt hle hodd
      go_wp2_with fail
      rw [Exit.noGoto_ret]
      go_ret
      exact ⟨by rw [← HL.out]; rfl, rfl⟩
    · have e1' : ¬ (u : Int) = 1 := by omega
      have q1 : ((u : Int) == 1) = false := by simp; omega
      have hm2 := tmod_nat u 2
      have hm4 := tmod_nat u 4
      have hl4 := tmod_nat l 4
      have hl8 := tmod_nat l 8
      have hlu := tmod_nat l u
      have hq : (u : Int).tdiv 2 = ((u / 2 : Nat) : Int) := IntWalk.up_tdiv rfl rfl
      have hq' : IntKind.i64.wrap ((u : Int).tdiv 2) = ((u / 2 : Nat) : Int) := by rw [hq]; exact IntWalk.i64_in _ (by omega)
      have hw1 : IntKind.i64.wrap ((u : Int).tmod 2) = ((u % 2 : Nat) : Int) := by rw [show (u : Int).tmod 2 = ((u % 2 : Nat) : Int) from hm2]; exact IntWalk.i64_in _ (by omega)
      have hw2 : IntKind.i64.wrap ((l : Int).tmod u) = ((l % u : Nat) : Int) := by
        rw [hlu]
        have := Nat.mod_lt l hu
        exact IntWalk.i64_in _ (by omega)
      simp only [Int.cast_ofNat_Int] at hm2 hm4 hl4 hl8
      by_cases e2 : u % 2 = 0
      · have HE := hide (HJ.out.even e2)
        rw [e2] at hm2 hw1
        by_cases e3 : l % 8 = 3
        · have HE2 := hide (show Jin x (u / 2) l (!o) from by have := HE.out; rwa [if_pos (.inl e3)] at this)
          rw [e3] at hl8
          go_wp2_with fail
          go_roundw
          case rel => exact ⟨u / 2, l, !o, rfl, rfl, rfl, HE2, trivial⟩
          case measure => simp [intOf]; omega
        · have q3 : (((l % 8 : Nat) : Int) == 3) = false := by simp; omega
          by_cases e5 : l % 8 = 5
          · have HE2 := hide (show Jin x (u / 2) l (!o) from by have := HE.out; rwa [if_pos (.inr e5)] at this)
            rw [e5] at hl8 q3
            go_wp2_with fail
            go_roundw
            case rel => exact ⟨u / 2, l, !o, rfl, rfl, rfl, HE2, trivial⟩
            case measure => simp [intOf]; omega
          · have HE2 := hide (show Jin x (u / 2) l o from by have := HE.out; rwa [if_neg (by omega)] at this)
            have q5 : (((l % 8 : Nat) : Int) == 5) = false := by simp; omega
            have n3 : ¬ ((l % 8 : Nat) : Int) = 3 := by omega
            have n5 : ¬ ((l % 8 : Nat) : Int) = 5 := by omega
            generalize l % 8 = k8 at *
            go_wp2_with fail
            go_roundw
            case rel => exact ⟨u / 2, l, o, rfl, rfl, rfl, HE2, trivial⟩
            case measure => simp [intOf]; omega
      · have e2' : u % 2 = 1 := by omega
        have HE := hide (HJ.out.swap e2' e1)
        have HLU := hide (Nat.mod_lt l hu)
        rw [e2'] at hm2 hw1
        by_cases e3 : u % 4 = 3
        · rw [e3] at hm4
          by_cases e4 : l % 4 = 3
          · have HE2 := hide (show Jin x (l % u) u (!o) from by have := HE.out; rwa [if_pos ⟨e3, e4⟩] at this)
            rw [e4] at hl4
            go_wp2_with fail
            go_roundw
            case rel => exact ⟨l % u, u, !o, rfl, rfl, rfl, HE2, trivial⟩
            case measure => have := HLU.out; simp [intOf]; omega
          · have HE2 := hide (show Jin x (l % u) u o from by have := HE.out; rwa [if_neg (fun h => e4 h.2)] at this)
            have q4 : (((l % 4 : Nat) : Int) == 3) = false := by simp; omega
            have n4 : ¬ ((l % 4 : Nat) : Int) = 3 := by omega
            generalize l % 4 = k4 at *
            go_wp2_with fail
            go_roundw
            case rel => exact ⟨l % u, u, o, rfl, rfl, rfl, HE2, trivial⟩
            case measure => have := HLU.out; simp [intOf]; omega
        · have HE2 := hide (show Jin x (l % u) u o from by have := HE.out; rwa [if_neg (fun h => e3 h.1)] at this)
          have q4 : (((u % 4 : Nat) : Int) == 3) = false := by simp; omega
          have n4 : ¬ ((u % 4 : Nat) : Int) = 3 := by omega
          generalize u % 4 = k4 at *
          go_wp2_with fail
          go_roundw
          case rel => exact ⟨l % u, u, o, rfl, rfl, rfl, HE2, trivial⟩
          case measure => have := HLU.out; simp [intOf]; omega
end Go.Proofs.YthimljcfmnehcaaDoor.Gp
