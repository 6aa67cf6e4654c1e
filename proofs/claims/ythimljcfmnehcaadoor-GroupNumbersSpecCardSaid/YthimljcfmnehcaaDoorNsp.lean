/- GroupNumbersSpec answers true. -/
import Derived.Test.YthimljcfmnehcaaDoorHsh
import Derived.Test.YthimljcfmnehcaaDoorGSan
import Derived.Test.YthimljcfmnehcaaDoorGRel
import Derived.Test.YthimljcfmnehcaaDoorApp
namespace Go.Proofs.YthimljcfmnehcaaDoor
open Go.RowKit

set_option maxRecDepth 20000 in
set_option maxHeartbeats 6400000 in
theorem nspec_walk (n : Int) (s : ByteArray) (a : Option Addr) (l : List UInt8) (cap : Nat) (w : World) (hT : Tab w) (hS : Src w a l.length cap l) (hs : s.size ≤ 9223372036854775807) (hle : l.length ≤ cap) (hcap : cap ≤ 9223372036854775807) :
    Calls Tryd.prog 11 #[.int .i64 n, .string s, .slice a l.length cap] w (LawPost w) := by
  have HSA := hide (Gp.sane_any w)
  have HT := hide hT
  have HS := hide hS
  have HLE := hide (show l.length ≤ 9223372036854775807 by omega)
  clear hT hS
  by_cases h1 : l.length ≤ 2000
  · have g1 : ¬ (2000 : Int) < (l.length : Int) := by omega
    have g1d : decide (2000 < l.length) = false := by simp; omega
    by_cases h2 : s.size ≤ 200
    · have g2 : ¬ (200 : Int) < (s.size : Int) := by omega
      have g2d : decide (200 < s.size) = false := by simp; omega
      obtain ⟨x, e, hx⟩ : ∃ x e, Gp.elV n = .tuple #[.int .i64 x, .int .i64 e] := ⟨_, _, rfl⟩
      obtain ⟨y, f, hy⟩ : ∃ x e, Gp.nmV n = .tuple #[.int .i64 x, .int .i64 e] := ⟨_, _, rfl⟩
      have HE := hide (fun W => hx ▸ Gp.element_any n W)
      have HR := hide (fun W => hx ▸ Gp.relement_any n W)
      have HN := hide (fun W => hy ▸ Gp.number_any n W)
      have HQ := hide (fun W => hy ▸ Gp.rnumber_any n W)
      have HH := hide (fun W (h : Below w.heap.size w W) => hash_any s a l cap W (HT.out.below h) (HS.out.below h).sb (by omega) (by omega) HS.out.nil)
      have HI := hide (fun W (h : Below w.heap.size w W) => rhash_any s a l cap W (HS.out.below h) (by omega) (by omega))
      generalize hshI s l = v at *
      clear hx hy h1 h2 hs hle hcap
      go_enter Tryd.func11, Tryd.ntmps11
      go_wp2_with fail
      refine HSA.out.mono ?_
      rintro e1 w1 ⟨rfl, hb⟩
      have HB1 := hide hb
      clear hb HSA
      go_wp2_with fail
      refine (HE.out _).mono ?_
      rintro e1 w' ⟨rfl, rfl⟩
      go_wp2_with fail
      refine (HR.out _).mono ?_
      rintro e1 w' ⟨rfl, rfl⟩
      go_wp2_with fail
      refine (HN.out _).mono ?_
      rintro e1 w' ⟨rfl, rfl⟩
      go_wp2_with fail
      refine (HQ.out _).mono ?_
      rintro e1 w' ⟨rfl, rfl⟩
      go_wp2_with fail
      refine (HH.out _ HB1.out).mono ?_
      rintro e1 w2 ⟨rfl, hb⟩
      have HB2 := hide (below_one HB1.out hb)
      clear hb
      go_wp2_with fail
      refine (HI.out _ HB2.out).mono ?_
      rintro e1 w3 ⟨rfl, hb⟩
      have HB3 := hide (below_one HB2.out hb)
      clear hb
      go_wp2_with fail
      go_ret
      exact ⟨by simp, HB3.out⟩
    · have g2 : (200 : Int) < (s.size : Int) := by omega
      have g2d : decide (200 < s.size) = true := by simp; omega
      clear h1 h2 hs hle hcap
      go_enter Tryd.func11, Tryd.ntmps11
      go_wp2_with fail
      refine HSA.out.mono ?_
      rintro e1 w1 ⟨rfl, hb⟩
      have HB1 := hide hb
      clear hb HSA
      go_wp2_with fail
      go_ret
      exact ⟨by simp, HB1.out⟩
  · have g1 : (2000 : Int) < (l.length : Int) := by omega
    have g1d : decide (2000 < l.length) = true := by simp; omega
    clear h1 hs hle hcap
    go_enter Tryd.func11, Tryd.ntmps11
    go_wp2_with fail
    refine HSA.out.mono ?_
    rintro e1 w1 ⟨rfl, hb⟩
    have HB1 := hide hb
    clear hb HSA
    go_wp2_with fail
    go_ret
    exact ⟨by simp, HB1.out⟩
end Go.Proofs.YthimljcfmnehcaaDoor
