/- text. -/
import Derived.Test.YtemapfhiiefieaaDoorVal
import Derived.Test.YtemapfhiiefieaaDoorShelf
namespace Go.Proofs.YtemapfhiiefieaaDoor
open Go.RowKit

/-- The table of the powers of ten, in memory. -/
def Pow (w : World) : Prop := Lib.TabIs Tryd.prog w "internal/strconv.uint64pow10" .u64 Lib.pow10Tab
/-- How a token is written. -/
def textT (t : Tok) : ByteArray := if t.kind = 2 then ⟨(Lib.itoa t.n).toArray⟩ else t.text

theorem below_grow {S : Nat} {w : World} (h : S ≤ w.heap.size) (k : Nat) (os : Array Obj) : Below S w (Go.Sort.grow (w.drewN k) os) := by
  refine (below_dn S w k).trans ⟨rfl, rfl, rfl, ?_, fun i hi => ?_⟩
  · simp [Go.Sort.grow]
  · have hi2 : i < (w.drewN k).heap.size := Nat.lt_of_lt_of_le hi h
    simp only [Go.Sort.grow]
    rw [Array.getElem?_append_left hi2]
set_option maxRecDepth 10000 in
set_option maxHeartbeats 1600000 in
theorem text_any (t : Tok) (w : World) (hP : Pow (w.alloc (.cells t.cs.toArray 35))) (h0 : -9223372036854775808 ≤ t.n) (h1 : t.n ≤ 9223372036854775807) : Calls Tryd.prog 33 #[t.val] w fun e w' => e = .returned (.string (textT t)) ∧ Below w.heap.size w w' := by
  obtain ⟨k, s, n, p⟩ := t
  have HB := hide (below_new w (.cells #[.int .i64 k, .string s, .int .i64 n, .int .i64 p] 35))
  have HD := hide (show textT ⟨k, s, n, p⟩ = (if k = 2 then ⟨(Lib.itoa n).toArray⟩ else s) from rfl)
  have HI := hide (Tryd.strconv_Itoa n h0 h1 _ hP)
  clear hP
  by_cases k2 : k = 2
  · subst k2
    rw [if_pos rfl] at HD
    go_enter Tryd.func33, Tryd.ntmps33
    go_wp2_with fail
    refine HI.out.mono ?_
    rintro e w' ⟨rfl, kk, os, rfl⟩
    go_wp2_with fail
    go_ret
    refine ⟨by rw [HD.out]; rfl, HB.out.trans ?_⟩
    exact below_grow HB.out.size kk os
  · rw [if_neg k2] at HD
    have e2 : (k == 2) = false := by simpa using k2
    go_enter Tryd.func33, Tryd.ntmps33
    go_wp2_with fail
    go_ret
    exact ⟨by rw [HD.out]; rfl, HB.out⟩
end Go.Proofs.YtemapfhiiefieaaDoor
