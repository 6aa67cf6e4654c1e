/- Words of 32 bits in the model's integers. -/
import Derived.Test.YtalgceplcahgbaaDoorProg
import Derived.WalkKit
import Derived.WalkSpells
import Derived.WalkLawsBesides
import Derived.BigQuiet
import Derived.Deep.QuietTactic
import Derived.Laws.BitsAllLaws
import Derived.Test.YtalgceplcahgbaaDoorSha
namespace Go.Proofs.YtalgceplcahgbaaDoor
open Go.RowKit

theorem hide {p : Prop} (h : p) : Hid p := h
theorem ret_num {k : IntKind} {a b : Int} (h : a = b) : Ending.returned (.int k a) = .returned (.int k b) := by rw [h]
theorem val_num {k : IntKind} {a b : Int} (h : a = b) : Value.int k a = .int k b := by rw [h]

abbrev uv (x : U32) : Value := .int .u32 (x.toNat : Nat)
theorem uv_eq {a : Int} {x : U32} (h : a = (x.toNat : Nat)) : Value.int .u32 a = uv x := by rw [h]

theorem bv_xor (x y : U32) : bits .xor .u32 (x.toNat : Nat) (y.toNat : Nat) = ((x ^^^ y).toNat : Nat) := by
  rw [u32_xor_nat _ _ x.isLt y.isLt, BitVec.toNat_xor]
theorem bv_and (x y : U32) : bits .and .u32 (x.toNat : Nat) (y.toNat : Nat) = ((x &&& y).toNat : Nat) := by
  rw [u32_and_nat _ _ x.isLt y.isLt, BitVec.toNat_and]
theorem bv_or (x y : U32) : bits .or .u32 (x.toNat : Nat) (y.toNat : Nat) = ((x ||| y).toNat : Nat) := by
  rw [u32_or_nat _ _ x.isLt y.isLt, BitVec.toNat_or]
theorem bv_add (x y : U32) : IntKind.u32.wrap ((x.toNat : Nat) + (y.toNat : Nat)) = ((x + y).toNat : Nat) := by
  rw [IntKind.wrap_u32', BitVec.toNat_add]; simp
theorem bv_shl (x : U32) (n : Nat) : IntKind.u32.wrap ((x.toNat : Nat) * 2 ^ n) = ((x <<< n).toNat : Nat) := by
  rw [IntKind.wrap_u32', BitVec.toNat_shiftLeft, Nat.shiftLeft_eq]; simp
theorem bv_shr (x : U32) (n : Nat) : ((x.toNat : Nat) : Int) / 2 ^ n = ((x >>> n).toNat : Nat) := by
  rw [BitVec.toNat_ushiftRight, Nat.shiftRight_eq_div_pow]; simp
theorem bv_byte (c : UInt8) : ((c.toNat : Nat) : Int) = ((BitVec.ofNat 32 c.toNat).toNat : Nat) := by
  rw [BitVec.toNat_ofNat, Nat.mod_eq_of_lt (by have := c.toNat_lt; omega)]

theorem rot_and (n : Nat) (h : 1 ≤ n) (h' : n ≤ 31) : bits .and .u64 (IntKind.u64.wrap (-(n : Int))) 31 = 32 - (n : Int) := by
  have key : ∀ m : Nat, m < 32 → 1 ≤ m → bits .and .u64 (IntKind.u64.wrap (-((m : Nat) : Int))) 31 = 32 - ((m : Nat) : Int) := by decide
  exact key n (by omega) h
theorem bv_add' (x y : U32) : ((x.toNat : Nat) + (y.toNat : Nat) : Int) % 4294967296 = ((x + y).toNat : Nat) := by
  rw [BitVec.toNat_add]; simp
theorem bv_shl' (x : U32) (n : Nat) : ((x.toNat : Nat) : Int) * 2 ^ n % 4294967296 = ((x <<< n).toNat : Nat) := by
  rw [BitVec.toNat_shiftLeft, Nat.shiftLeft_eq]; simp
theorem bv_rot (x : U32) (n : Nat) (h : 1 ≤ n) (h' : n ≤ 31) : bits .or .u32 (((x.toNat : Nat) : Int) * 2 ^ (32 - n) % 4294967296) (((x.toNat : Nat) : Int) / 2 ^ (32 - (32 - n))) = ((ror x n).toNat : Nat) := by
  rw [show 32 - (32 - n) = n by omega, bv_shl', bv_shr, bv_or]
  unfold ror
  rw [BitVec.or_comm]

set_option maxHeartbeats 400000 in
theorem rotate_any (x : U32) (n : Nat) (w : World) (h : 1 ≤ n) (h' : n ≤ 31) :
    Calls Tryd.prog 90 #[uv x, .int .i64 (-(n : Int))] w fun e w' => e = .returned (uv (ror x n)) ∧ w = w' := by
  have hx := x.isLt
  have hr := rot_and n h h'
  go_enter Tryd.func90, Tryd.ntmps90
  go_wp2
  go_ret
  exact ⟨ret_num (bv_rot x n h h'), rfl⟩

set_option maxHeartbeats 400000 in
theorem ror_any (x : U32) (n : Nat) (w : World) (h : 1 ≤ n) (h' : n ≤ 31) :
    Calls Tryd.prog 74 #[uv x, .int .i64 (n : Nat)] w fun e w' => e = .returned (uv (ror x n)) ∧ w = w' := by
  go_enter Tryd.func74, Tryd.ntmps74
  go_wp2_with (go_at_call 90; refine (rotate_any x n _ h h').mono ?_; rintro e w' ⟨rfl, rfl⟩)
  go_ret
  exact ⟨rfl, rfl⟩

/-- The reference's own. -/
theorem bv_rot2 (x : U32) (n : Nat) : bits .or .u32 (((x.toNat : Nat) : Int) / 2 ^ n) (((x.toNat : Nat) : Int) * 2 ^ (32 - n) % 4294967296) = ((ror x n).toNat : Nat) := by
  rw [bv_shl', bv_shr, bv_or]
  unfold ror
  rfl
set_option maxHeartbeats 400000 in
theorem rror_any (x : U32) (n : Nat) (w : World) (h : 1 ≤ n) (h' : n ≤ 31) :
    Calls Tryd.prog 77 #[uv x, .int .i64 (n : Nat)] w fun e w' => e = .returned (uv (ror x n)) ∧ ∃ m, w' = w.drewN m := by
  have hx := x.isLt
  go_enter Tryd.func77, Tryd.ntmps77
  go_wp2_with fail
  go_quiet (fail)
  go_wp2_with fail
  go_ret
  exact ⟨ret_num (bv_rot2 x n), _, rfl⟩


/-- The same, by whatever number. -/
theorem ror_is (x : U32) (n : Nat) (m : Int) (w : World) (hm : m = n) (h : 1 ≤ n) (h' : n ≤ 31) :
    Calls Tryd.prog 74 #[uv x, .int .i64 m] w fun e w' => e = .returned (uv (ror x n)) ∧ w' = w := by
  subst hm
  exact (ror_any x n w h h').mono fun _ _ ⟨e, f⟩ => ⟨e, f.symm⟩
theorem rror_is (x : U32) (n : Nat) (m : Int) (w : World) (hm : m = n) (h : 1 ≤ n) (h' : n ≤ 31) :
    Calls Tryd.prog 77 #[uv x, .int .i64 m] w fun e w' => e = .returned (uv (ror x n)) ∧ ∃ m, w' = w.drewN m := by
  subst hm
  exact rror_any x n w h h'

theorem ror2 (x : U32) (w : World) : Calls Tryd.prog 74 #[uv x, .int .i64 2] w fun e w' => e = .returned (uv (ror x 2)) ∧ w' = w := ror_is x 2 2 w rfl (by decide) (by decide)
theorem ror6 (x : U32) (w : World) : Calls Tryd.prog 74 #[uv x, .int .i64 6] w fun e w' => e = .returned (uv (ror x 6)) ∧ w' = w := ror_is x 6 6 w rfl (by decide) (by decide)
theorem ror11 (x : U32) (w : World) : Calls Tryd.prog 74 #[uv x, .int .i64 11] w fun e w' => e = .returned (uv (ror x 11)) ∧ w' = w := ror_is x 11 11 w rfl (by decide) (by decide)
theorem ror13 (x : U32) (w : World) : Calls Tryd.prog 74 #[uv x, .int .i64 13] w fun e w' => e = .returned (uv (ror x 13)) ∧ w' = w := ror_is x 13 13 w rfl (by decide) (by decide)
theorem ror22 (x : U32) (w : World) : Calls Tryd.prog 74 #[uv x, .int .i64 22] w fun e w' => e = .returned (uv (ror x 22)) ∧ w' = w := ror_is x 22 22 w rfl (by decide) (by decide)
theorem ror25 (x : U32) (w : World) : Calls Tryd.prog 74 #[uv x, .int .i64 25] w fun e w' => e = .returned (uv (ror x 25)) ∧ w' = w := ror_is x 25 25 w rfl (by decide) (by decide)
theorem bv_shr3 (x : U32) : ((x.toNat : Nat) : Int) / (8 : Int) = (((x >>> 3).toNat : Nat) : Int) := bv_shr x 3
theorem bv_shr10 (x : U32) : ((x.toNat : Nat) : Int) / (1024 : Int) = (((x >>> 10).toNat : Nat) : Int) := bv_shr x 10
end Go.Proofs.YtalgceplcahgbaaDoor
