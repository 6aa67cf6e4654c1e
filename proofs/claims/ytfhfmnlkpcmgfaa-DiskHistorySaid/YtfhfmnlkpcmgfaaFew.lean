/- Few: it answers. -/
import Derived.Test.YtfhfmnlkpcmgfaaRChk
namespace Go.Proofs.Ytfhfmnlkpcmgfaa
open Go.RowKit
variable {n0 : Nat}

/-- It answers. -/
def SomeB (w : World) (e : Ending) (w' : World) : Prop := ∃ b : Bool, e = .returned (.bool b) ∧ Below w.heap.size w w'

set_option maxRecDepth 10000 in
set_option maxHeartbeats 3200000 in
theorem few_any (d : Dsk) (w : World) (hi : d.In n0 w) (hs1 : ∀ s ∈ d.ss, s.l.length ≤ 140737488355328) (hs2 : ∀ p ∈ d.ps, p.s.l.length ≤ 140737488355328) :
    Calls Try.prog 11 #[d.v] w (SomeB w) := by
  obtain ⟨sa, ss, sc, pa, ps, pc, left, stp⟩ := d
  have HI := hide hi
  have HS1 := hide hs1
  have HS2 := hide hs2
  have hle1 : ss.length ≤ sc := hi.sec.le
  have hcap1 : sc ≤ 9223372036854775807 := hi.sec.top
  have hle : ps.length ≤ pc := hi.pen.le
  have hcap : pc ≤ 9223372036854775807 := hi.pen.top
  have HB := hide (below_new w (.cells #[.slice sa ss.length sc, .slice pa ps.length pc, .int .i64 left, .bool stp] 25))
  have c0 := (Blk.new w 25 [.slice sa ss.length sc, .slice pa ps.length pc, .int .i64 left, .bool stp]).cell 0
  have c1 := (Blk.new w 25 [.slice sa ss.length sc, .slice pa ps.length pc, .int .i64 left, .bool stp]).cell 1
  simp only [List.getElem?_cons_zero, List.getElem?_cons_succ] at c0 c1
  have HX := hide (And.intro c0 c1)
  clear hi c0 c1 hs1 hs2
  go_enter Try.func11, Try.ntmps11
  go_wp2_with fail
  go_loop [4, 3] (fun i n => ∃ (k : Nat) (m : Int), k ≤ ss.length ∧ i = .int .i64 k ∧ n = .int .i64 m ∧ 0 ≤ m ∧ m ≤ 140737488555328) (fun i _ => ss.length - (intOf i).toNat)
  case atStart => exact ⟨0, 0, Nat.zero_le _, rfl, rfl, by omega, by omega⟩
  case round =>
    obtain ⟨k, m, hk, rfl, rfl, hm0, hm1⟩ := hrel
    by_cases hlt : k < ss.length ∧ m ≤ 9000
    · obtain ⟨hlt, hm⟩ := hlt
      obtain ⟨b, o, rfl, hb, hc⟩ := (HI.out.sec.below HB.out).at hlt
      have hsl := HS1.out _ (List.getElem_mem hlt)
      generalize ss[k] = s at *
      go_wp2_with fail
      go_round
      case rel => exact ⟨k + 1, _, by omega, by go_num, rfl, by omega, by omega⟩
      case measure => simp [intOf]; omega
    · have hc : k = ss.length ∨ (k < ss.length ∧ 9000 < m) := by omega
      clear hlt
      rcases hc with rfl | ⟨hlt, hm⟩
      all_goals
        go_wp2_with fail
        go_loop [5, 3] (fun i n => ∃ (k : Nat) (m : Int), k ≤ ps.length ∧ i = .int .i64 k ∧ n = .int .i64 m ∧ 0 ≤ m ∧ m ≤ 140737488555328) (fun i _ => ps.length - (intOf i).toNat)
        case atStart => exact ⟨0, m, Nat.zero_le _, rfl, rfl, by omega, by omega⟩
        case round =>
          obtain ⟨k2, m2, hk2, rfl, rfl, hn0, hn1⟩ := hrel
          by_cases hlt2 : k2 < ps.length ∧ m2 ≤ 9000
          · obtain ⟨hlt2, hm2⟩ := hlt2
            obtain ⟨b, o, rfl, hb, d0, d1⟩ := (HI.out.pen.below HB.out).at hlt2
            have hsl := HS2.out _ (List.getElem_mem hlt2)
            generalize ps[k2] = p at *
            go_wp2_with fail
            go_round
            case rel => exact ⟨k2 + 1, _, by omega, by go_num, rfl, by omega, by omega⟩
            case measure => simp [intOf]; omega
          · have hc : k2 = ps.length ∨ (k2 < ps.length ∧ 9000 < m2) := by omega
            clear hlt2
            rcases hc with rfl | ⟨hlt2, hm2⟩
            all_goals
              go_wp2_with fail
              go_ret
              exact ⟨_, rfl, HB.out⟩
end Go.Proofs.Ytfhfmnlkpcmgfaa
