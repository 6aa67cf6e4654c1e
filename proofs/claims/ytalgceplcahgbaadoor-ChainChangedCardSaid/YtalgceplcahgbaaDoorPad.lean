/- The padded end of a text, in memory. -/
import Derived.Test.YtalgceplcahgbaaDoorPadL
import Derived.Laws.CopyOwn
import Derived.IntWalk
namespace Go.Proofs.YtalgceplcahgbaaDoor
open Go.RowKit

/-- Bytes in memory, wherever a slice names them. -/
def Sb (w : World) (a : Option Addr) (l : List UInt8) : Prop := l ≠ [] → ∃ b o, a = some ⟨b, o, none⟩ ∧ Bs w b o l
theorem Sb.below {w w' : World} {a : Option Addr} {l : List UInt8} (h : Sb w a l) (hb : Below w.heap.size w w') : Sb w' a l := fun hne => by
  obtain ⟨b, o, e, hB⟩ := h hne
  exact ⟨b, o, e, hB.below hb (hB.lt (List.length_pos_iff.2 hne))⟩

theorem bits8_int (n i : Nat) (h : i < 8) (hn : n ≤ 1000000000) : (((bits8 n).getD (7 - i) 0).toNat : Int) = 8 * (n : Int) / 2 ^ (8 * i) % 256 := by
  rw [bits8_get n i h hn]; simp
def z128 : List UInt8 := List.replicate 128 0
theorem z128_len : z128.length = 128 := by simp [z128]
theorem Tryd.zero70 (w : World) : (zeroValue 94).run Tryd.prog w = .ok (.agg (bc z128).toArray) w :=
  (zero_of_info (P := Tryd.prog) (t := 94) (v := .agg (bc z128).toArray) (n := 128) (by kernel_rfl)).1 w
theorem Tryd.size5 : (Tryd.prog.info? 5).map (·.size) = some 1 := by kernel_rfl
theorem z128_splice (rest : List UInt8) : splice (bc z128) 0 (bc rest) = bc (rest ++ List.replicate (128 - rest.length) 0) := by
  unfold splice z128
  rw [bc_len, List.take_zero, List.nil_append, Nat.zero_add, bc_append]
  congr 1
  unfold bc
  rw [List.map_replicate, List.map_replicate, List.drop_replicate]
attribute [irreducible] z128

set_option maxRecDepth 100000 in
set_option maxHeartbeats 800000 in
theorem padded_any (a : Option Addr) (cap : Nat) (rest : List UInt8) (n : Nat) (w : World) (hl : Sb w a rest) (hr : rest.length < 64) (hn : n ≤ 1000000000) :
    Calls Tryd.prog 49 #[.slice a rest.length cap, .int .i64 (n : Nat)] w fun e w' => e = .returned (.slice (some ⟨w.heap.size, 0, none⟩) (pend rest.length) 128) ∧ Blk w' w.heap.size 94 (bc (pl rest n 8)) ∧ Below w.heap.size w w' := by
  have HL := hide hl
  clear hl
  have HMIN := hide (show (bc rest).length = Nat.min rest.length 128 by rw [bc_len]; exact (Nat.min_eq_left (by omega)).symm)
  have HFIT := hide (show 0 + (bc rest).length ≤ (bc z128).length by rw [bc_len, bc_len, z128_len]; omega)
  have HPOS := hide (show ∀ o : Obj, 0 < (bc rest).length → some (⟨w.heap.size, 0, none⟩ : Addr) = some ⟨w.heap.size, 0, none⟩ ∧ ∃ ad, a = some ad ∧ ∀ j v, (bc rest)[j]? = some v → (w.alloc o).cell? (ad.add j) = some v by
    intro ob hp
    rw [bc_len] at hp
    obtain ⟨b, o, ea, hB⟩ := HL.out (List.length_pos_iff.1 hp)
    refine ⟨rfl, _, ea, fun j v hv => ?_⟩
    have hj : j < rest.length := by rw [← bc_len rest]; exact (List.getElem?_eq_some_iff.1 hv).1
    rw [Addr.add_mid, World.cell?_of_block (a := ⟨b, o + j, none⟩) (Below.heap_alloc _ _ _ (hB.lt hp)), hB j hj, ← hv, bc_get hj])
  have HAFT := hide (show ∀ w1 : World, Hid (w1.heap[w.heap.size]? = some (.cells (splice (bc z128) 0 (bc rest)).toArray 94 (0, 0))) → Below w.heap.size w w1 →
      w1.cell? ⟨w.heap.size, rest.length, none⟩ = some (.int .u8 0) ∧ w1.frozen? ⟨w.heap.size, rest.length, none⟩ = false ∧
      Hid (Blk (w1.setCell ⟨w.heap.size, rest.length, none⟩ (.int .u8 128)) w.heap.size 94 (bc (pl rest n 0)) ∧ Below w.heap.size w (w1.setCell ⟨w.heap.size, rest.length, none⟩ (.int .u8 128))) by
    intro w1 hb1 hbel1
    have hB1 : Blk w1 w.heap.size 94 (bc (rest ++ List.replicate (128 - rest.length) 0)) := by
      rw [← z128_splice]; exact hb1.out
    refine ⟨?_, hB1.free _, hide ⟨by rw [← pl_first rest n hr, ← bc_set]; exact hB1.set _ _, hbel1.setCell (Nat.le_refl _) _⟩⟩
    rw [hB1.cell, bc_get (by simp; omega)]
    simp)
  have hz := Tryd.zero70
  have HBT := hide (fun k (hk : k < 8) => bits8_int n k hk hn)
  by_cases h56 : rest.length < 56
  · have HE := hide (show pend rest.length = 64 by unfold pend; omega)
    go_enter Tryd.func49, Tryd.ntmps49
    go_wp2_with (refine wpList_copy_splice rfl (.tmp 9) (.tmp 10) 22 22 rfl 5 Tryd.underlying22 Tryd.size5 (some ⟨w.heap.size, 0, none⟩) a 128 128 rest.length cap rfl rfl w.heap.size 0 (bc z128) 94 (heap_alloc_new w _) (bc rest) HMIN.out (HPOS.out _) HFIT.out (bc_one rest) w.heap.size w (below_new w _) (Nat.le_refl _) ?_; intro w1 hb1 hbel1; obtain ⟨hc1, hf1, HB0⟩ := HAFT.out w1 hb1 hbel1; clear hb1 hbel1)
    generalize w1.setCell ⟨w.heap.size, rest.length, none⟩ (.int .u8 128) = W2 at *
    go_loopw [25] (fun i wr => ∃ k : Nat, k ≤ 8 ∧ i = .int .i64 k ∧ Hid (Blk wr w.heap.size 94 (bc (pl rest n k)) ∧ Below w.heap.size w wr)) (fun i _ => 8 - (intOf i).toNat)
    case atStart => exact ⟨0, by omega, rfl, HB0⟩
    case round =>
      obtain ⟨k, hk, rfl, HB⟩ := hrel
      by_cases hlt : k < 8
      · have hc := HB.out.1.cell (64 - 1 - k)
        rw [bc_get (by rw [pl_len]; omega)] at hc
        have hf := HB.out.1.free (64 - 1 - k)
        have HN : Hid (Blk (wr.setCell ⟨w.heap.size, 64 - 1 - k, none⟩ (.int .u8 (((bits8 n).getD (7 - k) 0).toNat : Nat))) w.heap.size 94 (bc (pl rest n (k + 1))) ∧ Below w.heap.size w (wr.setCell ⟨w.heap.size, 64 - 1 - k, none⟩ (.int .u8 (((bits8 n).getD (7 - k) 0).toNat : Nat)))) :=
          hide ⟨by rw [← pl_set rest n k hr hlt, ← bc_set, HE.out]; exact HB.out.1.set _ _, HB.out.2.setCell (Nat.le_refl _) _⟩
        rw [HBT.out k hlt] at HN
        generalize ((pl rest n k)[64 - 1 - k]'(by rw [pl_len]; omega)).toNat = c0 at *
        go_wp2_with fail
        go_roundw
        case rel => exact ⟨k + 1, by omega, by go_num, HN⟩
        case measure => simp [intOf]; omega
      · have h8 : 8 ≤ k := by omega
        go_wp2_with fail
        go_ret
        obtain rfl : k = 8 := by omega
        exact ⟨by rw [HE.out]; rfl, HB.out⟩
  · have HE := hide (show pend rest.length = 128 by unfold pend; omega)
    go_enter Tryd.func49, Tryd.ntmps49
    go_wp2_with (refine wpList_copy_splice rfl (.tmp 9) (.tmp 10) 22 22 rfl 5 Tryd.underlying22 Tryd.size5 (some ⟨w.heap.size, 0, none⟩) a 128 128 rest.length cap rfl rfl w.heap.size 0 (bc z128) 94 (heap_alloc_new w _) (bc rest) HMIN.out (HPOS.out _) HFIT.out (bc_one rest) w.heap.size w (below_new w _) (Nat.le_refl _) ?_; intro w1 hb1 hbel1; obtain ⟨hc1, hf1, HB0⟩ := HAFT.out w1 hb1 hbel1; clear hb1 hbel1)
    generalize w1.setCell ⟨w.heap.size, rest.length, none⟩ (.int .u8 128) = W2 at *
    go_loopw [25] (fun i wr => ∃ k : Nat, k ≤ 8 ∧ i = .int .i64 k ∧ Hid (Blk wr w.heap.size 94 (bc (pl rest n k)) ∧ Below w.heap.size w wr)) (fun i _ => 8 - (intOf i).toNat)
    case atStart => exact ⟨0, by omega, rfl, HB0⟩
    case round =>
      obtain ⟨k, hk, rfl, HB⟩ := hrel
      by_cases hlt : k < 8
      · have hc := HB.out.1.cell (128 - 1 - k)
        rw [bc_get (by rw [pl_len]; omega)] at hc
        have hf := HB.out.1.free (128 - 1 - k)
        have HN : Hid (Blk (wr.setCell ⟨w.heap.size, 128 - 1 - k, none⟩ (.int .u8 (((bits8 n).getD (7 - k) 0).toNat : Nat))) w.heap.size 94 (bc (pl rest n (k + 1))) ∧ Below w.heap.size w (wr.setCell ⟨w.heap.size, 128 - 1 - k, none⟩ (.int .u8 (((bits8 n).getD (7 - k) 0).toNat : Nat)))) :=
          hide ⟨by rw [← pl_set rest n k hr hlt, ← bc_set, HE.out]; exact HB.out.1.set _ _, HB.out.2.setCell (Nat.le_refl _) _⟩
        rw [HBT.out k hlt] at HN
        generalize ((pl rest n k)[128 - 1 - k]'(by rw [pl_len]; omega)).toNat = c0 at *
        go_wp2_with fail
        go_roundw
        case rel => exact ⟨k + 1, by omega, by go_num, HN⟩
        case measure => simp [intOf]; omega
      · have h8 : 8 ≤ k := by omega
        go_wp2_with fail
        go_ret
        obtain rfl : k = 8 := by omega
        exact ⟨by rw [HE.out]; rfl, HB.out⟩
end Go.Proofs.YtalgceplcahgbaaDoor
