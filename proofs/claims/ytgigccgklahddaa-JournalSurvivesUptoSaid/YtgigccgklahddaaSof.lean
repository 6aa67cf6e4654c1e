
/- sectorOf, double. -/
import Derived.Test.YtgigccgklahddaaRChk
import Derived.Laws.CopyOwn
import Derived.Laws.MakeOwn
import Derived.Laws.Entries
import Derived.Outline
namespace Go.Proofs.Ytgigccgklahddaa
open Go.RowKit
variable {n0 : Nat}

set_option maxRecDepth 20000 in
theorem run_make_rowN {P : Program} (t e : TypeId) (i : TypeInfo) (z : Value) (ht : P.underlying t = some (.slice e)) (hi : P.info? e = some i) (hz : i.zero = some z)
    (kl kc : IntKind) (n c : Nat) (hnc : n ≤ c) (hbytes : i.bytes * c ≤ 281474976710656) (h63 : c ≤ 9223372036854775807) (w : World) :
    (Instr.makeSlice t (.int kl (n : Int)) (.int kc (c : Int))).run P w = .ok (.slice (some ⟨w.heap.size, 0, none⟩) n c) (w.alloc (.cells (madeCells z.cells (c * i.size)) e)) := by
  have hb : (i.bytes : Int) * (c : Int) ≤ 281474976710656 := by
    have h : ((i.bytes * c : Nat) : Int) ≤ 281474976710656 := by omega
    rwa [Int.natCast_mul] at h
  have hr := run_make (P := P) w t e i z ht hi hz kl kc n c (by omega) (by omega) hb (by omega)
  simp only [Int.toNat_natCast] at hr
  exact hr
theorem Try.info5 : (Try.prog.info? 5).map (fun i => (i.zero, i.size, i.bytes)) = some (some (.int .u8 0), 1, 1) := by kernel_rfl
theorem Try.size5 : (Try.prog.info? 5).map (·.size) = some 1 := by kernel_rfl
theorem hinfo5 : ∃ i0, Try.prog.info? 5 = some i0 ∧ i0.zero = some (.int .u8 0) ∧ i0.size = 1 ∧ i0.bytes = 1 := by
  obtain ⟨i0, hi, hz0, hz1, hz2⟩ := info_parts Try.info5
  exact ⟨i0, hi, hz0, hz1, hz2⟩
theorem bs_zero (n : Nat) : bs (List.replicate n 0) = List.replicate n (.int .u8 0) := by simp [bs]
set_option maxRecDepth 20000 in
/-- So many zero bytes. -/
theorem make_bytes (n : Nat) (hn : n ≤ 1000000) (W : World) : (Instr.makeSlice 35 (.int .i64 (n : Int)) (.int .i64 (n : Int))).run Try.prog W = .ok (.slice (some ⟨W.heap.size, 0, none⟩) n n) (W.alloc (.cells (bs (List.replicate n 0)).toArray 5)) := by
  obtain ⟨i0, hi, hz, h1, h2⟩ := hinfo5
  rw [run_make_rowN 35 5 i0 _ Try.underlying35 hi hz _ _ n n (Nat.le_refl _) (by rw [h2]; omega) (by omega) W, h1, bs_zero]
  congr 4
  simp [madeCells, Value.cells]
  apply Array.ext
  · simp
  · intro i h1 h2; simp [Nat.mod_one]
theorem make128 (W : World) : (Instr.makeSlice 35 (.int .i64 128) (.int .i64 128)).run Try.prog W = .ok (.slice (some ⟨W.heap.size, 0, none⟩) 128 128) (W.alloc (.cells (bs zeroS).toArray 5)) := by
  have := make_bytes 128 (by omega) W
  unfold zeroS
  exact this
theorem padS_splice (l : List UInt8) : splice (bs zeroS) 0 (bs (l.take 128)) = bs (padS l) := by
  unfold splice padS
  rw [List.take_zero, List.nil_append, bs_len]
  unfold bs zeroS
  rw [← List.map_drop, ← List.map_append, List.take_append, List.drop_replicate, List.take_replicate, Nat.zero_add, List.length_take]
  congr 3
  omega

set_option maxRecDepth 10000 in
set_option maxHeartbeats 800000 in
theorem sectorOf_any (s : Sec) (w : World) (hs : s.In n0 w) :
    Calls Try.prog 50 #[s.v] w fun e w' => e = .returned (.slice (some ⟨w.heap.size, 0, none⟩) 128 128) ∧ Blk w' w.heap.size 5 (bs (padS s.l)) ∧ Below w.heap.size w w' := by
  obtain ⟨a, l, cap⟩ := s
  have HMIN := hide (show (bs (l.take 128)).length = Nat.min l.length 128 by rw [bs_len, List.length_take]; exact Nat.min_comm _ _)
  have HFIT := hide (show 0 + (bs (l.take 128)).length ≤ (bs zeroS).length by rw [bs_len, bs_len, zeroS_len, List.length_take]; omega)
  have HPOS := hide (show ∀ o : Obj, 0 < (bs (l.take 128)).length → ∃ ad, a = some ad ∧ ∀ j v, (bs (l.take 128))[j]? = some v → (w.alloc o).cell? (ad.add j) = some v by
    intro ob hp
    rw [bs_len] at hp
    have hne : bs l ≠ [] := by intro e; have := congrArg List.length e; rw [bs_len] at this; rw [List.length_take] at hp; simp at this; rw [this] at hp; simp at hp
    obtain ⟨b, o, ea, hlt, _, hB⟩ := hs.cels hne
    refine ⟨_, ea, fun j v hv => ?_⟩
    have hj : j < (bs (l.take 128)).length := (List.getElem?_eq_some_iff.1 hv).1
    rw [bs_len, List.length_take] at hj
    have hj2 : j < (bs l).length := by rw [bs_len]; omega
    rw [Addr.add_mid, World.cell?_of_block (a := ⟨b, o + j, none⟩) (Below.heap_alloc _ _ _ hlt), hB j hj2, ← hv, ← List.getElem?_eq_getElem hj2]
    simp only [bs, List.map_take]
    rw [List.getElem?_take_of_lt (by omega)])
  have HP := hide (padS_splice l)
  have hmk := make128
  clear hs
  go_enter Try.func50, Try.ntmps50
  go_wp2_with (refine wpList_copy_splice rfl (.tmp 5) (.tmp 6) 35 35 rfl 5 Try.underlying35 Try.size5 (some ⟨w.heap.size, 0, none⟩) a 128 128 l.length cap rfl rfl w.heap.size 0 (bs zeroS) 5 (heap_alloc_new w _) (bs (l.take 128)) HMIN.out (fun h => ⟨rfl, HPOS.out _ h⟩) HFIT.out (bs_one _) w.heap.size w (below_new w _) (Nat.le_refl _) ?_; intro w1 hb1 hbel1)
  rw [HP.out] at hb1
  go_ret
  exact ⟨rfl, hb1.out, hbel1⟩

/-- What double makes. -/
def dblS (c : UInt8) : List UInt8 := (zeroS.set 0 c).set 64 c
end Go.Proofs.Ytgigccgklahddaa
