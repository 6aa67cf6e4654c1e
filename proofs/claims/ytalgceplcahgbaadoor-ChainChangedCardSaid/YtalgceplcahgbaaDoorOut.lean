/- The bytes of a state. -/
import Derived.Test.YtalgceplcahgbaaDoorAbsorb
namespace Go.Proofs.YtalgceplcahgbaaDoor
open Go.RowKit

/-- A digest by value. -/
abbrev dv (d : List UInt8) : Value := .agg (bc d).toArray

def fillb (d : List UInt8) (k : Nat) : List UInt8 := (List.range 32).map fun i => if i < k then d.getD i 0 else 0
theorem fillb_len (d : List UInt8) (k : Nat) : (fillb d k).length = 32 := by simp [fillb]
theorem fillb_at (d : List UInt8) {k : Nat} (h : k < 32) : (bc (fillb d k))[k]? = some (.int .u8 0) := by
  rw [bc_get (by rw [fillb_len]; exact h)]
  simp [fillb]
theorem fillb_zero (d : List UInt8) : bc (fillb d 0) = List.replicate 32 (.int .u8 0) := by
  have : fillb d 0 = List.replicate 32 0 := by simp [fillb]; decide
  rw [this]; rfl
theorem fillb_all {d : List UInt8} (h : d.length = 32) : fillb d 32 = d := by
  apply List.ext_getElem
  · simp [fillb, h]
  · intro i h1 h2
    simp [fillb, show i < 32 by omega, h2]
theorem fillb_set (d : List UInt8) {k : Nat} (_h : k < 32) : (bc (fillb d k)).set k (.int .u8 ((d.getD k 0).toNat : Nat)) = bc (fillb d (k + 1)) := by
  rw [bc_set]
  congr 1
  apply List.ext_getElem
  · simp [fillb]
  · intro i h1 h2
    rw [List.getElem_set]
    simp only [fillb, List.getElem_map, List.getElem_range]
    split
    · rename_i e; subst e; simp
    · rename_i e
      by_cases hi : i < k
      · simp [hi, show i < k + 1 by omega]
      · simp [hi, show ¬ i < k + 1 by omega]
attribute [irreducible] fillb

theorem out8_len (s : S8) : (out8 s).length = 32 := by unfold out8; simp
theorem out8_get (s : S8) {k : Nat} (h : k < 32) : (out8 s).getD k 0 = UInt8.ofNat (((words s).getD (k / 4) 0).toNat / 2 ^ (24 - 8 * (k % 4))) := by
  unfold out8
  rw [List.getD_eq_getElem?_getD, List.getElem?_map, List.getElem?_range h]
  rfl
theorem byte_of (x n : Nat) : ((UInt8.ofNat (x / 2 ^ n)).toNat : Int) = ((x : Int) / 2 ^ n) % 256 := by
  rw [UInt8.toNat_ofNat']; simp
theorem Tryd.size26 : (Tryd.prog.info? 26).map (·.size) = some 32 := by kernel_rfl

set_option maxRecDepth 10000 in
set_option maxHeartbeats 800000 in
theorem digest_any (S : Nat) (s : S8) (w : World) (hs : St w S s) :
    Calls Tryd.prog 50 #[.pointer (some ⟨S, 0, none⟩)] w fun e w' => e = .returned (dv (out8 s)) ∧ Below w.heap.size w w' := by
  have HS := hide hs
  have hS := Blk.lt hs
  clear hs
  go_enter Tryd.func50, Tryd.ntmps50
  go_wp2_with fail
  go_loopw [5] (fun i wr => ∃ k : Nat, k ≤ 32 ∧ i = .int .i64 k ∧ Hid (Blk wr w.heap.size 26 (bc (fillb (out8 s) k)) ∧ Below w.heap.size w wr)) (fun i _ => 32 - (intOf i).toNat)
  case atStart => exact ⟨0, by omega, rfl, hide ⟨by rw [fillb_zero]; exact Blk.new w 26 _, below_new w _⟩⟩
  case round =>
    obtain ⟨k, hk, rfl, HB⟩ := hrel
    by_cases hlt : k < 32
    · have hc := (HB.out.1.cell k).trans (fillb_at _ hlt)
      have hf := HB.out.1.free k
      have h8 : k / 4 < 8 := by omega
      have hx : wr.cell? ⟨S, k / 4, none⟩ = some (uv ((words s).getD (k / 4) 0)) := by
        rw [(Blk.below HS.out HB.out.2 hS).cell, uc_get (by rw [words_len]; exact h8)]
        simp [List.getD_eq_getElem?_getD, show k / 4 < (words s).length by rw [words_len]; exact h8]
      have HN : Hid (Blk (wr.setCell ⟨w.heap.size, k, none⟩ (.int .u8 (((out8 s).getD k 0).toNat : Nat))) w.heap.size 26 (bc (fillb (out8 s) (k + 1)))) := hide (by rw [← fillb_set _ hlt]; exact HB.out.1.set k _)
      rw [out8_get s hlt, byte_of, show 24 - 8 * (k % 4) = 8 * (3 - k % 4) by omega] at HN
      have HBB := hide HB.out.2
      generalize (words s).getD (k / 4) 0 = x at *
      have hx32 := x.isLt
      go_wp2_with fail
      go_roundw
      case rel => exact ⟨k + 1, by omega, by go_num, hide ⟨HN.out, HBB.out.setCell (Nat.le_refl _) _⟩⟩
      case measure => simp [intOf]; omega
    · have h32 : 32 ≤ k := by omega
      have HB32 : Hid (Blk wr w.heap.size 26 (bc (out8 s)) ∧ Below w.heap.size w wr) := by
        have : k = 32 := by omega
        subst this
        rw [fillb_all (out8_len s)] at HB
        exact HB
      clear HB
      have hsz : (Tryd.prog.info? 26).map (·.size) = some ((bc (out8 s)).toArray).size := by
        have e : ((bc (out8 s)).toArray).size = 32 := by simp [bc_len, out8_len]
        rw [e]; exact Tryd.size26
      have hone : ((bc (out8 s)).toArray).all (·.oneCell') = true := all_oneCell_toArray (bc_one _)
      have HZ := hide hsz
      have HO := hide hone
      clear hsz hone
      go_wp2_with (first | (refine wpList_load_row rfl 26 (.tmp 2) rfl w.heap.size rfl 26 _ (0, 0) _ HB32.out.1 Tryd.underlying26 rfl HZ.out ?_) | (refine wpList_store_row rfl 26 (.tmp 2) (.tmp 24) rfl w.heap.size _ rfl rfl 26 _ HB32.out.1 HZ.out rfl HO.out ?_))
      refine bodyPost_ret (v := dv (out8 s)) (results_cell_row rfl _ _ w.heap.size 26 _ (0, 0) _ rfl (setRow_heap _ _ _ _ _ _ HB32.out.1) Tryd.underlying26 rfl HZ.out) rfl ⟨rfl, below_setRow HB32.out.2 (Nat.le_refl _) _⟩
end Go.Proofs.YtalgceplcahgbaaDoor
