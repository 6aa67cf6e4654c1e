/- The classes of bytes. -/
import Derived.Test.YtemapfhiiefieaaDoorProg
import Derived.ProofKit
import Derived.Laws.Tables
import Derived.Below
import Derived.WalkKit
import Derived.WalkSpells
import Derived.WalkLawsBesides
import Derived.BigQuiet
import Derived.Deep.QuietTactic
import Derived.Laws.BitsAllLaws
namespace Go.Proofs.YtemapfhiiefieaaDoor
open Go.RowKit

/-- A fact that the simplifier does not look into. -/
theorem hide {p : Prop} (h : p) : Hid p := h

theorem beq_2 (n : Nat) : ((n : Int) == 2) = (n == 2) := by
  rw [Bool.eq_iff_iff]
  simp only [beq_iff_eq]
  omega
theorem beq_3 (n : Nat) : ((n : Int) == 3) = (n == 3) := by
  rw [Bool.eq_iff_iff]
  simp only [beq_iff_eq]
  omega
theorem beq_4 (n : Nat) : ((n : Int) == 4) = (n == 4) := by
  rw [Bool.eq_iff_iff]
  simp only [beq_iff_eq]
  omega
theorem beq_5 (n : Nat) : ((n : Int) == 5) = (n == 5) := by
  rw [Bool.eq_iff_iff]
  simp only [beq_iff_eq]
  omega
theorem beq_10 (n : Nat) : ((n : Int) == 10) = (n == 10) := by
  rw [Bool.eq_iff_iff]
  simp only [beq_iff_eq]
  omega
/-- The class of a byte. -/
def clsN (n : Nat) : Nat :=
  if n = 9 ∨ n = 10 ∨ n = 13 ∨ n = 32 then 1
  else if n = 123 ∨ n = 125 ∨ n = 40 ∨ n = 41 ∨ n = 59 ∨ n = 44 ∨ n = 61 ∨ n = 58 ∨ n = 46 ∨ n = 60 ∨ n = 62 ∨ n = 33 ∨ n = 43 ∨ n = 45 ∨ n = 42 ∨ n = 47 then 2
  else if 48 ≤ n ∧ n ≤ 57 then 3
  else if (65 ≤ n ∧ n ≤ 90) ∨ (97 ≤ n ∧ n ≤ 122) then 4
  else if n = 95 then 5 else 0
theorem clsN_le (n : Nat) : clsN n ≤ 5 := by unfold clsN; split <;> (try split) <;> (try split) <;> (try split) <;> (try split) <;> omega
theorem clsN_high {n : Nat} (h : 128 ≤ n) : clsN n = 0 := by
  unfold clsN
  rw [if_neg (by omega), if_neg (by omega), if_neg (by omega), if_neg (by omega), if_neg (by omega)]
def cls (b : UInt8) : Nat := clsN b.toNat
def isSg (b : UInt8) : Bool := cls b == 2
def isDg (b : UInt8) : Bool := cls b == 3
def isLt (b : UInt8) : Bool := cls b == 4
def isNm (b : UInt8) : Bool := isLt b || isDg b || cls b == 5
def isLn (b : UInt8) : Bool := !(b.toNat == 10)

/-- The table of the classes, in memory. -/
def Tab (w : World) : Prop := ∀ i, i < 128 → w.cell? ⟨0, i, none⟩ = some (.int .u8 (clsN i : Nat))

set_option maxHeartbeats 400000 in
theorem classOf_any (b : UInt8) (w : World) (hT : Tab w) : Calls Tryd.prog 47 #[.int .u8 (b.toNat : Nat)] w fun e w' => e = .returned (.int .u8 (cls b : Nat)) ∧ w = w' := by
  have hlt := b.toNat_lt
  by_cases h : b.toNat < 128
  · have hc := hT b.toNat h
    have h1 : decide ((128 : Int) ≤ (b.toNat : Int)) = false := by simp; omega
    go_enter Tryd.func47, Tryd.ntmps47
    go_wp2_with fail
    go_ret
    exact ⟨rfl, rfl⟩
  · have h1 : decide ((128 : Int) ≤ (b.toNat : Int)) = true := by simp; omega
    have HC := hide (show cls b = 0 from clsN_high (by omega))
    go_enter Tryd.func47, Tryd.ntmps47
    go_wp2_with fail
    go_ret
    rw [HC.out]
    exact ⟨rfl, rfl⟩

set_option maxHeartbeats 400000 in
theorem isSign_any (b : UInt8) (w : World) (hT : Tab w) : Calls Tryd.prog 48 #[.int .u8 (b.toNat : Nat)] w fun e w' => e = .returned (.bool (isSg b)) ∧ w = w' := by
  have HC := hide (classOf_any b w hT)
  clear hT
  go_enter Tryd.func48, Tryd.ntmps48
  go_wp2_with fail
  refine HC.out.mono ?_
  rintro e w' ⟨rfl, rfl⟩
  go_wp2_with fail
  go_ret
  exact ⟨by simp [isSg, beq_2], rfl⟩
set_option maxHeartbeats 400000 in
theorem isDigit_any (b : UInt8) (w : World) (hT : Tab w) : Calls Tryd.prog 53 #[.int .u8 (b.toNat : Nat)] w fun e w' => e = .returned (.bool (isDg b)) ∧ w = w' := by
  have HC := hide (classOf_any b w hT)
  clear hT
  go_enter Tryd.func53, Tryd.ntmps53
  go_wp2_with fail
  refine HC.out.mono ?_
  rintro e w' ⟨rfl, rfl⟩
  go_wp2_with fail
  go_ret
  exact ⟨by simp [isDg, beq_3], rfl⟩
set_option maxHeartbeats 400000 in
theorem isLetter_any (b : UInt8) (w : World) (hT : Tab w) : Calls Tryd.prog 39 #[.int .u8 (b.toNat : Nat)] w fun e w' => e = .returned (.bool (isLt b)) ∧ w = w' := by
  have HC := hide (classOf_any b w hT)
  clear hT
  go_enter Tryd.func39, Tryd.ntmps39
  go_wp2_with fail
  refine HC.out.mono ?_
  rintro e w' ⟨rfl, rfl⟩
  go_wp2_with fail
  go_ret
  exact ⟨by simp [isLt, beq_4], rfl⟩
set_option maxHeartbeats 400000 in
theorem inLine_any (b : UInt8) (w : World) : Calls Tryd.prog 56 #[.int .u8 (b.toNat : Nat)] w fun e w' => e = .returned (.bool (isLn b)) ∧ w = w' := by
  have hlt := b.toNat_lt
  go_enter Tryd.func56, Tryd.ntmps56
  go_wp2_with fail
  go_ret
  exact ⟨by simp [isLn, beq_10, bne], rfl⟩
set_option maxHeartbeats 400000 in
theorem inName_any (b : UInt8) (w : World) (hT : Tab w) : Calls Tryd.prog 41 #[.int .u8 (b.toNat : Nat)] w fun e w' => e = .returned (.bool (isNm b)) ∧ w = w' := by
  have HC := hide (classOf_any b w hT)
  have HD := hide (isDigit_any b w hT)
  have HL := hide (isLetter_any b w hT)
  clear hT
  go_enter Tryd.func41, Tryd.ntmps41
  go_wp2_with fail
  refine HL.out.mono ?_
  rintro e w' ⟨rfl, rfl⟩
  cases hl : isLt b with
  | true =>
    go_wp2_with fail
    go_ret
    exact ⟨by simp [isNm, hl], rfl⟩
  | false =>
    go_wp2_with fail
    refine HD.out.mono ?_
    rintro e w' ⟨rfl, rfl⟩
    cases hd : isDg b with
    | true =>
      go_wp2_with fail
      go_ret
      exact ⟨by simp [isNm, hd], rfl⟩
    | false =>
      go_wp2_with fail
      refine HC.out.mono ?_
      rintro e w' ⟨rfl, rfl⟩
      go_wp2_with fail
      go_ret
      exact ⟨by simp [isNm, hl, hd, beq_5], rfl⟩
end Go.Proofs.YtemapfhiiefieaaDoor
