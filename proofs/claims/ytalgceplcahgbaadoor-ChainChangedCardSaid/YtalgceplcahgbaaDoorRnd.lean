/- A round of the compression in the model's integers. -/
import Derived.Test.YtalgceplcahgbaaDoorBv
namespace Go.Proofs.YtalgceplcahgbaaDoor
open Go.RowKit

theorem bv_not (x : U32) : bits .xor .u32 (if IntKind.u32.signed = true then -1 else IntKind.u32.max) ((x.toNat : Nat) : Int) = (((~~~x).toNat : Nat) : Int) := by
  have e : (if IntKind.u32.signed = true then (-1 : Int) else IntKind.u32.max) = (((4294967295#32).toNat : Nat) : Int) := by decide
  rw [e, bv_xor]
  congr 2

section
variable (k w ra rb rc rd re rf rg rh : U32)
def pw : U32 := rh + (ror re 6 ^^^ ror re 11 ^^^ ror re 25) + ((re &&& rf) ^^^ (~~~re &&& rg)) + k + w
def qw : U32 := (ror ra 2 ^^^ ror ra 13 ^^^ ror ra 22) + ((ra &&& rb) ^^^ (ra &&& rc) ^^^ (rb &&& rc))

theorem pw_val : (((rh.toNat : Nat) : Int) + bits .xor .u32 (bits .xor .u32 (((ror re 6).toNat : Nat) : Int) (((ror re 11).toNat : Nat) : Int)) (((ror re 25).toNat : Nat) : Int) +
    bits .xor .u32 (bits .and .u32 ((re.toNat : Nat) : Int) ((rf.toNat : Nat) : Int)) (bits .and .u32 (bits .xor .u32 (if IntKind.u32.signed = true then -1 else IntKind.u32.max) ((re.toNat : Nat) : Int)) ((rg.toNat : Nat) : Int)) +
    ((k.toNat : Nat) : Int) + ((w.toNat : Nat) : Int)) % (4294967296 : Int) = (((pw k w re rf rg rh).toNat : Nat) : Int) := by
  simp only [bv_not, bv_xor, bv_and, pw, BitVec.toNat_add]
  omega
theorem qw_val : (bits .xor .u32 (bits .xor .u32 (((ror ra 2).toNat : Nat) : Int) (((ror ra 13).toNat : Nat) : Int)) (((ror ra 22).toNat : Nat) : Int) +
    bits .xor .u32 (bits .xor .u32 (bits .and .u32 ((ra.toNat : Nat) : Int) ((rb.toNat : Nat) : Int)) (bits .and .u32 ((ra.toNat : Nat) : Int) ((rc.toNat : Nat) : Int))) (bits .and .u32 ((rb.toNat : Nat) : Int) ((rc.toNat : Nat) : Int))) % (4294967296 : Int) = (((qw ra rb rc).toNat : Nat) : Int) := by
  simp only [bv_xor, bv_and, qw, BitVec.toNat_add]
  omega
theorem sum_val (x y : U32) : (((x.toNat : Nat) : Int) + ((y.toNat : Nat) : Int)) % (4294967296 : Int) = (((x + y).toNat : Nat) : Int) := by
  rw [BitVec.toNat_add]; omega
theorem rnd_eq : rnd k w ⟨ra, rb, rc, rd, re, rf, rg, rh⟩ = ⟨pw k w re rf rg rh + qw ra rb rc, ra, rb, rc, rd + pw k w re rf rg rh, re, rf, rg⟩ := by unfold rnd; rfl
end
attribute [irreducible] pw qw
end Go.Proofs.YtalgceplcahgbaaDoor
