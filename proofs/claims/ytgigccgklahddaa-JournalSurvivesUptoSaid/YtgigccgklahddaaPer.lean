
/- performable, Clone, performed. -/
import Derived.Test.YtgigccgklahddaaRWri2
namespace Go.Proofs.Ytgigccgklahddaa
open Go.RowKit
variable {n0 : Nat}

/-- How many writes a sync performs. -/
def Dsk.many (d : Dsk) : Nat := if d.left = -1 then d.ps.length else min d.ps.length d.left.toNat

set_option maxRecDepth 10000 in
set_option maxHeartbeats 800000 in
theorem performable_any (d : Dsk) (w : World) (hi : d.In n0 w) (hl : -1 ≤ d.left) :
    Calls Try.prog 54 #[d.v] w fun e w' => e = .returned (.slice d.pa d.many d.many) ∧ Below w.heap.size w w' := by
  have HB := hide (below_new w (.cells d.cs.toArray 25))
  have hle := hi.pen.le
  have hcap := hi.pen.top
  have hnil := hi.pen.nil
  obtain ⟨sa, ss, sc, pa, ps, pc, left, stp⟩ := d
  simp only at hl hle hcap hnil
  by_cases h1 : left = -1
  · subst h1
    cases pa with
    | none =>
      have h0 := hnil rfl
      obtain rfl : ps = [] := List.eq_nil_of_length_eq_zero (by omega)
      subst h0
      clear hnil hi
      go_enter Try.func54, Try.ntmps54
      go_wp2_with fail
      go_ret
      exact ⟨rfl, HB.out⟩
    | some a =>
      clear hnil hi
      go_enter Try.func54, Try.ntmps54
      go_wp2_with fail
      go_ret
      exact ⟨rfl, HB.out⟩
  · obtain ⟨n, rfl⟩ := Int.eq_ofNat_of_zero_le (show 0 ≤ left by omega)
    have h1' : ((n : Int) != -1) = true := by simp
    have HM := hide (show Dsk.many ⟨sa, ss, sc, pa, ps, pc, n, stp⟩ = min ps.length n by simp [Dsk.many])
    clear h1 hi
    cases pa with
    | none =>
      have h0 := hnil rfl
      obtain rfl : ps = [] := List.eq_nil_of_length_eq_zero (by omega)
      subst h0
      clear hnil
      go_enter Try.func54, Try.ntmps54
      go_wp2_with fail
      go_ret
      exact ⟨by rw [HM.out]; simp, HB.out⟩
    | some a =>
      clear hnil
      by_cases hlt : n < ps.length
      · have hlt' : (n : Int) < ps.length := by omega
        have HN := hide (show min ps.length n = n by omega)
        go_enter Try.func54, Try.ntmps54
        go_wp2_with fail
        go_ret
        exact ⟨by rw [HM.out, HN.out]; rfl, HB.out⟩
      · have hlt' : (ps.length : Int) ≤ n := by omega
        have HN := hide (show min ps.length n = ps.length by omega)
        go_enter Try.func54, Try.ntmps54
        go_wp2_with fail
        go_ret
        exact ⟨by rw [HM.out, HN.out]; rfl, HB.out⟩
end Go.Proofs.Ytgigccgklahddaa
