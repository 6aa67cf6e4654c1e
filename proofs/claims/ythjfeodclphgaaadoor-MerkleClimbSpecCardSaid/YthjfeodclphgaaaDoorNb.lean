/- Neighbours, and whether there is such a leaf. -/
import Derived.Test.YthjfeodclphgaaaDoorLf
import Derived.Laws.BitsAllLaws
namespace Go.Proofs.YthjfeodclphgaaaDoor
open Go.RowKit
theorem xor_one (i : Nat) : i ^^^ 1 = nb i := by
  have h1 : (i ^^^ 1) / 2 = i / 2 := by
    have := Nat.xor_div_two (a := i) (b := 1)
    simpa using this
  have h2 : (i ^^^ 1) % 2 = 1 - i % 2 := by
    have := Nat.xor_mod_two_eq_one (a := i) (b := 1)
    omega
  unfold nb
  split <;> omega
theorem xor_i64 {i : Nat} (h : i < 4294967296) : bits BinOp.xor IntKind.i64 (i : Int) 1 = (nb i : Int) := by
  have hx : i ^^^ 1 < 2 ^ 40 := Nat.xor_lt_two_pow (by omega) (by omega)
  show IntKind.i64.wrap ((BitVec.ofInt 64 (i : Int) ^^^ BitVec.ofInt 64 ((1 : Nat) : Int)).toNat : Int) = _
  rw [BitVec.toNat_xor, ofInt_u64 i (by omega), ofInt_u64 1 (by omega), xor_one]
  rw [xor_one] at hx
  simp [IntKind.wrap, IntKind.signed, IntKind.bits]
  omega
set_option maxRecDepth 20000 in
theorem nb_any (i : Nat) (b : Bool) (w : World) (h : i < 4294967296) : Calls Tryd.prog 67 #[.agg #[.int .i64 (i : Nat), .bool b]] w fun e w' => e = .returned (.int .i64 (nb i : Nat)) ∧ Below w.heap.size w w' := by
  have hx := xor_i64 h
  go_enter Tryd.func67, Tryd.ntmps67
  go_wp2_with fail
  go_ret
  exact ⟨rfl, below_new _ _⟩
/-- Is there a leaf i among n? -/
def leafB (n i : Int) : Bool := decide (n ≤ 65536) && (decide (0 ≤ i) && decide (i < n))
set_option maxRecDepth 20000 in
theorem isLeaf_any (n i : Int) (w : World) : Calls Tryd.prog 64 #[.int .i64 n, .int .i64 i] w fun e w' => e = .returned (.bool (leafB n i)) ∧ w = w' := by
  have HL := hide (show leafB n i = (decide (n ≤ 65536) && (decide (0 ≤ i) && decide (i < n))) from rfl)
  by_cases h1 : n ≤ 65536
  · by_cases h2 : 0 ≤ i
    · by_cases h3 : i < n
      · go_enter Tryd.func64, Tryd.ntmps64
        go_wp2_with fail
        go_ret
        exact ⟨by rw [HL.out]; simp [h1, h2, h3], rfl⟩
      · go_enter Tryd.func64, Tryd.ntmps64
        go_wp2_with fail
        go_ret
        exact ⟨by rw [HL.out]; simp [h1, h2, h3], rfl⟩
    · go_enter Tryd.func64, Tryd.ntmps64
      go_wp2_with fail
      go_ret
      exact ⟨by rw [HL.out]; simp; omega, rfl⟩
  · go_enter Tryd.func64, Tryd.ntmps64
    go_wp2_with fail
    go_ret
    exact ⟨by rw [HL.out]; simp; omega, rfl⟩
end Go.Proofs.YthjfeodclphgaaaDoor
