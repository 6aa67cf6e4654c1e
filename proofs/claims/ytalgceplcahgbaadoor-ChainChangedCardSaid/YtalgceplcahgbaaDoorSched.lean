/- The schedule of a block. -/
import Derived.Test.YtalgceplcahgbaaDoorBase
import Derived.Outline
import Derived.IntWalk
import Derived.StillTailTactics
import Derived.Deep.DeepFit
namespace Go.Proofs.YtalgceplcahgbaaDoor
open Go.RowKit

def fillw (b : List UInt8) (k : Nat) : List U32 := (List.range 64).map fun i => if i < k then wv b i else 0
theorem fillw_len (b : List UInt8) (k : Nat) : (fillw b k).length = 64 := by simp [fillw]
theorem fillw_get (b : List UInt8) {k i : Nat} (h : i < k) (h' : i < 64) : (uc (fillw b k))[i]? = some (uv (wv b i)) := by
  rw [uc_get (by rw [fillw_len]; exact h')]
  simp [fillw, h]
theorem fillw_set (b : List UInt8) {k : Nat} (_h : k < 64) : (uc (fillw b k)).set k (uv (wv b k)) = uc (fillw b (k + 1)) := by
  rw [uc_set]
  congr 1
  apply List.ext_getElem
  · simp [fillw]
  · intro i h1 h2
    rw [List.getElem_set]
    simp only [fillw, List.getElem_map, List.getElem_range]
    split
    · rename_i e; subst e; simp
    · rename_i e
      by_cases hi : i < k
      · simp [hi, show i < k + 1 by omega]
      · simp [hi, show ¬ i < k + 1 by omega]

theorem fillw_at (b : List UInt8) {k : Nat} (h : k < 64) : (uc (fillw b k))[k]? = some (.int .u32 0) := by
  rw [uc_get (by rw [fillw_len]; exact h)]
  simp [fillw]
theorem sched_val (A B C D E F X Y : U32) : (((A.toNat : Nat) : Int) + bits .xor .u32 (bits .xor .u32 ((B.toNat : Nat) : Int) ((C.toNat : Nat) : Int)) (((X.toNat : Nat) : Int) / 8) + ((D.toNat : Nat) : Int) + bits .xor .u32 (bits .xor .u32 ((E.toNat : Nat) : Int) ((F.toNat : Nat) : Int)) (((Y.toNat : Nat) : Int) / 1024)) % (4294967296 : Int) = (((A + (B ^^^ C ^^^ X >>> 3) + D + (E ^^^ F ^^^ Y >>> 10)).toNat : Nat) : Int) := by
  rw [bv_shr3, bv_shr10, bv_xor, bv_xor, bv_xor, bv_xor, BitVec.toNat_add, BitVec.toNat_add, BitVec.toNat_add]
  omega
theorem Tryd.size91 : (Tryd.prog.info? 91).map (·.size) = some 64 := by kernel_rfl
theorem fillw_zero (b : List UInt8) : uc (fillw b 0) = List.replicate 64 (uv 0) := by
  have : fillw b 0 = List.replicate 64 0 := by simp [fillw]; decide
  rw [this]; rfl

set_option maxRecDepth 10000 in
set_option maxHeartbeats 400000 in
theorem schedule_any (b o cap : Nat) (l : List UInt8) (w : World) (hl : Bs w b o l) (h : l.length = 64) (hcap : cap ≤ 9223372036854775807) (hc64 : 64 ≤ cap) :
    Calls Tryd.prog 73 #[.slice (some ⟨b, o, none⟩) 64 cap] w fun e w' => e = .returned (.agg (uc (fillw l 64)).toArray) ∧ Below w.heap.size w w' := by
  have HH := hide h
  have HL := hide hl
  have hb := hl.lt (by omega)
  clear h hl
  go_enter Tryd.func73, Tryd.ntmps73
  go_wp2_with fail
  go_loopw [9] (fun i wr => ∃ k : Nat, k ≤ 16 ∧ i = .int .i64 k ∧ Blk wr w.heap.size 91 (uc (fillw l k)) ∧ Below w.heap.size w wr) (fun i _ => 16 - (intOf i).toNat)
  case atStart => exact ⟨0, by omega, rfl, by rw [fillw_zero]; exact Blk.new w 91 _, below_new w _⟩
  case round =>
    obtain ⟨k, hk, rfl, hB, hbel⟩ := hrel
    by_cases hlt : k < 16
    · have hlk := hide (HL.out.below hbel hb |>.drop (4 * k))
      have hc := (hB.cell k).trans (fillw_at l (by omega))
      have hf := hB.free k
      have HW := hide (show wd (l.drop (4 * k)) 0 = wv l k by rw [wd_drop, wv_first l k hlt])
      go_wp2_with fail
      with_reducible refine (word_any b (o + 4 * k) (64 - 4 * k) (cap - 4 * k) (l.drop (4 * k)) wr hlk.out (by rw [List.length_drop, HH.out]; omega) (by rw [List.length_drop, HH.out]) (by omega)).mono ?_
      rintro e w' ⟨rfl, rfl⟩
      rw [HW.out]
      go_wp2_with fail
      go_roundw
      case rel => exact ⟨k + 1, by omega, by go_num, by have := hB.set k (uv (wv l k)); rw [fillw_set l (by omega)] at this; exact this, hbel.setCell (Nat.le_refl _) _⟩
      case measure => simp [intOf]; omega
    · have h16 : 16 ≤ k := by omega
      have hB16 : Blk wr w.heap.size 91 (uc (fillw l 16)) := by
        have : k = 16 := by omega
        rw [← this]; exact hB
      clear hB
      generalize k = k1 at *
      go_wp2_with fail
      go_loopw [5] (fun i wr => ∃ k : Nat, 16 ≤ k ∧ k ≤ 64 ∧ i = .int .i64 k ∧ Blk wr w.heap.size 91 (uc (fillw l k)) ∧ Below w.heap.size w wr) (fun i _ => 64 - (intOf i).toNat)
      case atStart => exact ⟨16, by omega, by omega, rfl, hB16, hbel⟩
      case round =>
        clear hB16 hbel
        obtain ⟨k, hk16, hk64, rfl, hB, hbel⟩ := hrel
        by_cases hlt : k < 64
        · have hc := (hB.cell k).trans (fillw_at l (by omega))
          have hf := hB.free k
          have c2 := (hB.cell (k - 2)).trans (fillw_get l (by omega) (by omega))
          have c7 := (hB.cell (k - 7)).trans (fillw_get l (by omega) (by omega))
          have c15 := (hB.cell (k - 15)).trans (fillw_get l (by omega) (by omega))
          have c16 := (hB.cell (k - 16)).trans (fillw_get l (by omega) (by omega))
          have HW := hide (wv_next l k hk16 hlt)
          have hB' := hide (hB.set k (uv (wv l k)))
          go_wp2_with fail
          go_quiet (fail)
          go_wp2_with fail
          have hB1 := hide (hB.drewN nq)
          have hbel1 := hide (below_drewN hbel nq)
          have d16 := (hB1.out.cell (k - 16)).trans (fillw_get l (by omega) (by omega))
          have d7 := (hB1.out.cell (k - 7)).trans (fillw_get l (by omega) (by omega))
          have dc := (hB1.out.cell k).trans (fillw_at l (by omega))
          have df := hB1.out.free k
          clear c2 c7 c15 c16 hB hbel hc hf hB'
          generalize wr.drewN nq = w1 at *
          refine wp_region_still_tail 29 (by kernel_rfl) (by kernel_rfl) ?_
          simp only [List.take_succ_cons, List.take_zero, List.drop_succ_cons, List.drop_zero]
          obtain ⟨w2, hw2⟩ : ∃ w2, w1.drew = w2 := ⟨_, rfl⟩
          change wpStill _ _ w1.drew _ _ _
          have hB2 := hide hB1.out.drew
          have hbel2 := hide hbel1.out.drew
          have d16' : w1.drew.cell? _ = _ := d16
          have d7' : w1.drew.cell? _ = _ := d7
          have dc' : w1.drew.cell? _ = _ := dc
          have df' : w1.drew.frozen? _ = _ := df
          clear d16 d7 dc df hB1 hbel1
          rw [hw2] at hB2 hbel2 d16' d7' dc' df' ⊢
          have HW2 := hide hw2
          clear hw2
          have e16 : IntKind.i64.wrap ((k : Int) - 16) = (k : Int) - 16 := IntWalk.i64_in _ (by omega)
          have g16 : 0 ≤ (k : Int) - 16 ∧ (k : Int) - 16 < 64 := by omega
          have t16 : ((k : Int) - 16).toNat = k - 16 := by omega
          have e7 : IntKind.i64.wrap ((k : Int) - 7) = (k : Int) - 7 := IntWalk.i64_in _ (by omega)
          have g7 : 0 ≤ (k : Int) - 7 ∧ (k : Int) - 7 < 64 := by omega
          have t7 : ((k : Int) - 7).toNat = k - 7 := by omega
          have b16 : 16 ≤ (k : Int) := by omega
          have b7 : 7 ≤ (k : Int) := by omega
          have l16 : (k : Int) - 16 < 64 := g16.2
          have l7 : (k : Int) - 7 < 64 := g7.2
          repeat still_step
          still_call (ror_is _ 7 _ _ rfl (by decide) (by decide))
          repeat still_step
          still_call (ror_is _ 18 _ _ rfl (by decide) (by decide))
          repeat still_step
          still_call (ror_is _ 17 _ _ rfl (by decide) (by decide))
          repeat still_step
          still_call (ror_is _ 19 _ _ rfl (by decide) (by decide))
          repeat still_step
          refine wpStill_nil ?_
          change wpList _ _ _ _ _ w1.drew
          rw [HW2.out]
          have hS := hB2.out.set k (uv (wv l k))
          rw [fillw_set l hlt] at hS
          have HS := hide hS
          clear hS
          rw [HW.out] at HS
          unfold nextw at HS
          go_wp2_with fail
          go_roundw
          case rel => exact ⟨k + 1, by omega, by omega, by go_num, by rw [sched_val]; exact HS.out, hbel2.out.setCell (Nat.le_refl _) _⟩
          case measure => simp [intOf]; omega
        · have hB64 : Blk wr w.heap.size 91 (uc (fillw l 64)) := by
            have : k = 64 := by omega
            rw [← this]; exact hB
          have h64 : 64 ≤ k := by omega
          have hsz : (Tryd.prog.info? 91).map (·.size) = some ((uc (fillw l 64)).toArray).size := by
            have e : ((uc (fillw l 64)).toArray).size = 64 := by simp [uc_len, fillw_len]
            rw [e]; exact Tryd.size91
          have hone : ((uc (fillw l 64)).toArray).all (·.oneCell') = true := all_oneCell_toArray (uc_one _)
          have HB := hide hB64
          have HS := hide hsz
          have HO := hide hone
          clear hB hB64 hsz hone hk16 hk64
          go_wp2_with (first | (refine wpList_load_row rfl 91 (.tmp 2) rfl w.heap.size rfl 91 _ (0, 0) _ HB.out Tryd.underlying91 rfl HS.out ?_) | (refine wpList_store_row rfl 91 (.tmp 2) (.tmp 62) rfl w.heap.size _ rfl rfl 91 _ HB.out HS.out rfl HO.out ?_))
          refine bodyPost_ret (v := .agg (uc (fillw l 64)).toArray) (results_cell_row rfl _ _ w.heap.size 91 _ (0, 0) _ rfl (setRow_heap _ _ _ _ _ _ HB.out) Tryd.underlying91 rfl HS.out) rfl ⟨rfl, below_setRow hbel (Nat.le_refl _) _⟩
end Go.Proofs.YtalgceplcahgbaaDoor
