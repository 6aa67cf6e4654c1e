/- GroupHash answers true. -/
import Derived.Test.YthimljcfmnehcaaDoorHsh
import Derived.Test.YthimljcfmnehcaaDoorGSan
import Derived.Test.YthimljcfmnehcaaDoorApp
namespace Go.Proofs.YthimljcfmnehcaaDoor
open Go.RowKit

theorem md_step (x : Nat) (c : Nat) : Gp.md (Gp.md x * 256 + c) = Gp.md ((x * 256 + c : Nat) : Int) := by
  rw [← Gp.md_addl, Gp.md_mull, Gp.md_addl]
  congr 1
set_option maxRecDepth 20000 in
set_option maxHeartbeats 6400000 in
theorem hlaw_walk (s : ByteArray) (a : Option Addr) (l : List UInt8) (cap : Nat) (w : World) (hT : Tab w) (hS : Src w a l.length cap l) (hs : s.size ≤ 9223372036854775807) (hle : l.length ≤ cap) (hcap : cap ≤ 9223372036854775807) :
    Calls Tryd.prog 12 #[.string s, .slice a l.length cap] w (LawPost w) := by
  have HSA := hide (Gp.sane_any w)
  have HT := hide hT
  have HS := hide hS
  have HLE := hide (show l.length ≤ 9223372036854775807 by omega)
  clear hT hS
  by_cases h1 : l.length ≤ 2000
  · have g1 : ¬ (2000 : Int) < (l.length : Int) := by omega
    have g1d : decide (2000 < l.length) = false := by simp; omega
    by_cases h2 : s.size ≤ 200
    · have g2 : ¬ (200 : Int) < (s.size : Int) := by omega
      have g2d : decide (200 < s.size) = false := by simp; omega
      have HH := hide (fun W (h : Below w.heap.size w W) => hash_any s a l cap W (HT.out.below h) (HS.out.below h).sb (by omega) (by omega) HS.out.nil)
      have HG := hide (fun W (h : Below w.heap.size w W) => tagged_any s a l.length cap l W (HT.out.below h) (HS.out.below h).sb rfl (by omega) (by omega) HS.out.nil)
      have HE := hide (show hshI s l = Gp.md ((rbe ((tagd s.data.toList l).take 8) : Nat) : Int) from rfl)
      have HD := hide (tagd_len s.data.toList l)
      generalize tagd s.data.toList l = D at *
      have HZ := hide (show (Tryd.prog.info? 26).map (·.size) = some ((bc D).toArray).size by rw [dv_size _ HD.out]; exact Tryd.size26)
      generalize hshI s l = v at *
      clear h1 h2 hs hle hcap
      go_enter Tryd.func12, Tryd.ntmps12
      go_wp2_with fail
      refine HSA.out.mono ?_
      rintro e1 w1 ⟨rfl, hb⟩
      have HB1 := hide hb
      clear hb HSA
      go_wp2_with fail
      refine (HH.out _ HB1.out).mono ?_
      rintro e1 w2 ⟨rfl, hb⟩
      have HB2 := hide (below_one HB1.out hb)
      clear hb
      go_wp2_with fail
      refine (HG.out _ HB2.out).mono ?_
      rintro e1 w3 ⟨rfl, hb⟩
      have HB3 := hide (below_one HB2.out hb)
      clear hb HH HG HB1 HB2
      have HX1 := hide (Blk.new w3 26 (List.replicate 32 (.int .u8 0)))
      go_upto_region 7 with (refine wpList_store_row rfl 26 (.tmp 6) (.tmp 25) rfl w3.heap.size (bc D).toArray rfl rfl 26 _ HX1.out HZ.out (by rw [dv_size _ HD.out]; rfl) (all_oneCell_toArray (bc_one _)) ?_)
      refine name_code ?_
      intro V hV
      have HXV := hide (show Blk V w3.heap.size 26 (bc D) from by rw [hV.out]; exact HX1.out.row _)
      have HBV := hide (show Below w.heap.size w V from by rw [hV.out]; exact below_setRow (HB3.out.alloc HB3.out.size _) (by have := HB3.out.size; omega) _)
      clear hV HX1 HB3
      go_wp2_with fail
      go_loopw [7, 8, 9, 26] (fun r _ _ i wr => ∃ (k : Nat) (x : Int), k ≤ 8 ∧ i = .int .i64 k ∧ r = .int .i64 x ∧ Hid (x = Gp.md ((rbe (D.take k) : Nat) : Int)) ∧ wr = V) (fun _ _ _ i _ => 8 - (intOf i).toNat)
      case atStart => exact ⟨0, 0, by omega, rfl, rfl, hide (by simp [rbe]; rfl), rfl⟩
      case round =>
        obtain ⟨k, x, hk, rfl, rfl, HXE, rfl⟩ := hrel
        by_cases hlt : k < 8
        · have hlt' : (k : Int) < 8 := by omega
          have hk32 : k < D.length := by rw [HD.out]; omega
          have hcl : wr.cell? ⟨w3.heap.size, k, none⟩ = some (.int .u8 ((D[k]'hk32).toNat : Nat)) := by rw [HXV.out.cell k, bc_get hk32]
          have hx1 := Gp.md_lo ((rbe (D.take k) : Nat) : Int)
          have hx2 := Gp.md_hi ((rbe (D.take k) : Nat) : Int)
          rw [← HXE.out] at hx1 hx2
          have hbl := byte_lt (D[k]'hk32)
          by_cases hk0 : k = 0
          · subst hk0
            have HN := hide (show Gp.md (((D[0]'hk32).toNat % 128 : Nat) : Int) = Gp.md ((rbe (D.take 1) : Nat) : Int) from by
              rw [show D.take 1 = [D[0]'hk32] from by rw [List.take_succ_eq_append_getElem hk32, List.take_zero, List.nil_append], rbe_one])
            have hx0 : x = 0 := by
              rw [HXE.out, List.take_zero]
              decide
            generalize D[0]'hk32 = c at *
            subst hx0
            have hcc : IntKind.i64.wrap ((c.toNat : Nat) : Int) = ((c.toNat : Nat) : Int) := IntWalk.i64_in _ (by omega)
            have hm0 : ((c.toNat : Nat) : Int).tmod 128 = ((c.toNat % 128 : Nat) : Int) := IntWalk.up_tmod rfl rfl
            obtain ⟨m, hm⟩ : ∃ m : Nat, c.toNat % 128 = m := ⟨_, rfl⟩
            have hm3 : ((m : Nat) : Int).tmod 1073741789 = ((m : Nat) : Int) := by
              rw [Int.tmod_eq_emod_of_nonneg (by omega)]
              omega
            have hm4 : Gp.md (m : Int) = (m : Int) := Gp.md_id (by omega) (by omega)
            rw [hm] at hm0 HN
            rw [hm4] at HN
            have hmb : m < 128 := by omega
            clear hm hm4 hx1 hx2 HXE
            go_wp2_with fail
            go_roundw
            case rel => exact ⟨1, (m : Int), by omega, by go_num, by simp, HN, trivial⟩
            case measure => simp [intOf]
          · have hk0' : ¬ (k : Int) = 0 := by omega
            have hk0b : ((k : Int) == 0) = false := by simp; omega
            have hne : D.take k ≠ [] := by
              intro e
              have := congrArg List.length e
              rw [List.length_take, List.length_nil] at this
              omega
            have HN := hide (show Gp.md (x * 256 + (((D[k]'hk32).toNat : Nat) : Int)) = Gp.md ((rbe (D.take (k + 1)) : Nat) : Int) from by
              rw [List.take_succ_eq_append_getElem hk32, rbe_snoc hne, HXE.out, md_step])
            generalize D[k]'hk32 = c at *
            have hcc : IntKind.i64.wrap ((c.toNat : Nat) : Int) = ((c.toNat : Nat) : Int) := IntWalk.i64_in _ (by omega)
            have hw1 : IntKind.i64.wrap (x * 256) = x * 256 := IntWalk.i64_in _ (by omega)
            obtain ⟨z, hz⟩ : ∃ z, x * 256 + ((c.toNat : Nat) : Int) = z := ⟨_, rfl⟩
            have hw2 : IntKind.i64.wrap (x * 256 + ((c.toNat : Nat) : Int)) = z := by rw [hz]; exact IntWalk.i64_in _ (by omega)
            have hm3 : z.tmod 1073741789 = Gp.md z := Int.tmod_eq_emod_of_nonneg (by omega)
            have hm4 : IntKind.i64.wrap (z.tmod 1073741789) = Gp.md z := by
              rw [hm3]
              have h1 := Gp.md_lo z
              have h2 := Gp.md_hi z
              exact IntWalk.i64_in _ (by omega)
            rw [hz] at HN
            obtain ⟨y, hy⟩ : ∃ y, Gp.md z = y := ⟨_, rfl⟩
            rw [hy] at HN hm3 hm4
            clear hy hne
            go_wp2_with fail
            go_roundw
            case rel => exact ⟨k + 1, y, by omega, by go_num, by simp, HN, trivial⟩
            case measure => simp [intOf]; omega
        · obtain rfl : k = 8 := by omega
          have hlt' : ¬ ((8 : Nat) : Int) < 8 := by omega
          have hx1 := Gp.md_lo ((rbe (D.take 8) : Nat) : Int)
          have hx2 := Gp.md_hi ((rbe (D.take 8) : Nat) : Int)
          obtain rfl : v = x := by rw [HE.out, HXE.out]
          rw [← HXE.out] at hx1 hx2
          clear HXE HE
          go_wp2_with fail
          go_ret
          exact ⟨by simp, HBV.out⟩
    · have g2 : (200 : Int) < (s.size : Int) := by omega
      have g2d : decide (200 < s.size) = true := by simp; omega
      clear h1 h2 hs hle hcap
      go_enter Tryd.func12, Tryd.ntmps12
      go_wp2_with fail
      refine HSA.out.mono ?_
      rintro e1 w1 ⟨rfl, hb⟩
      have HB1 := hide hb
      clear hb HSA
      go_wp2_with fail
      go_ret
      exact ⟨by simp, HB1.out⟩
  · have g1 : (2000 : Int) < (l.length : Int) := by omega
    have g1d : decide (2000 < l.length) = true := by simp; omega
    clear h1 hs hle hcap
    go_enter Tryd.func12, Tryd.ntmps12
    go_wp2_with fail
    refine HSA.out.mono ?_
    rintro e1 w1 ⟨rfl, hb⟩
    have HB1 := hide hb
    clear hb HSA
    go_wp2_with fail
    go_ret
    exact ⟨by simp, HB1.out⟩
end Go.Proofs.YthimljcfmnehcaaDoor
