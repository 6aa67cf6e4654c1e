/- The examples: what the calls answer. -/
import Derived.Test.YtfhfmnlkpcmgfaaSof
namespace Go.Proofs.Ytfhfmnlkpcmgfaa
open Go.RowKit
variable {n0 : Nat}

def p7 : List UInt8 := padS [7]
def s0 : Dk := ⟨[zeroS, zeroS], [], -1, false⟩
def s1 : Dk := ⟨[zeroS, zeroS], [(1, p7)], -1, false⟩
def s2 : Dk := ⟨[zeroS, zeroS], [(1, p7)], 1, false⟩
def s3 : Dk := ⟨[zeroS, zeroS], [(1, p7), (0, dblS 8)], 1, false⟩
def t8 : List UInt8 := (dblS 8).take 64 ++ zeroS.drop 64
def s4 : Dk := ⟨[t8, p7], [], 0, true⟩
theorem p7_len : p7.length = 128 := padS_len _
theorem dbl_len (c : UInt8) : (dblS c).length = 128 := by simp [dblS, zeroS_len]
theorem t8_len : t8.length = 128 := by simp [t8, dbl_len, zeroS_len]
theorem s0_runs : s0.runs = true := by simp [s0, Dk.runs, Dk.valid, validSec, validPen, zeroS_len]
theorem s1_runs : s1.runs = true := by simp [s1, Dk.runs, Dk.valid, validSec, validPen, zeroS_len, p7_len]
theorem s2_runs : s2.runs = true := by simp [s2, Dk.runs, Dk.valid, validSec, validPen, zeroS_len, p7_len]
theorem s3_runs : s3.runs = true := by simp [s3, Dk.runs, Dk.valid, validSec, validPen, zeroS_len, p7_len, dbl_len]
theorem s4_runs : s4.restart.runs = true := by simp [s4, Dk.restart, Dk.runs, Dk.valid, validSec, validPen, p7_len, t8_len]
theorem s1_restart : s1.restart = s0 := rfl
theorem e_w1 : s0.write 1 [7] = (s1, 0) := by simp [Dk.write, s0_runs]; simp [s0, s1, Dk.has, p7]
theorem e_r1 : s1.read 1 = (p7, 0) := by simp [Dk.read, s1_runs]; simp [s1, Dk.has, lastW]
theorem e_r2 : s0.read 2 = ([], 40) := by simp [Dk.read, s0_runs]; simp [s0, Dk.has]
theorem e_w2 (b : List UInt8) (h : b.length = 129) : s0.write 0 b = (Dk.zero, 1) := by simp [Dk.write, s0_runs, h]; simp [s0, Dk.has]
theorem e_s : s1.stop 1 = (s2, 0) := by simp [Dk.stop, s1_runs]; simp [s1, s2]
theorem e_w3 : s2.write 0 (dblS 8) = (s3, 0) := by simp [Dk.write, s2_runs, dbl_len]; simp [s2, s3, Dk.has, padS_full (dbl_len 8)]
theorem e_y : s3.sync = (s4, 40) := by simp [Dk.sync, s3_runs]; simp [s3, s4, perf, tornS, t8]
theorem e_x1 : s4.restart.read 1 = (p7, 0) := by simp [Dk.read, s4_runs]; simp [s4, Dk.restart, Dk.has, lastW]
theorem e_x0 : s4.restart.read 0 = (t8, 0) := by simp [Dk.read, s4_runs]; simp [s4, Dk.restart, Dk.has, lastW]
theorem e_l : s1.restart.read 1 = (zeroS, 0) := by rw [s1_restart]; simp [Dk.read, s0_runs]; simp [s0, Dk.has, lastW]
theorem b_p7 : (bs p7)[0]? = some (.int .u8 7) := by unfold p7 padS; simp [bs]
theorem z_at (i : Nat) (h : i < 128) : (bs zeroS)[i]? = some (.int .u8 0) := by unfold zeroS bs; rw [List.map_replicate, List.getElem?_replicate, if_pos h]; rfl
theorem b_t8 : (bs t8)[0]? = some (.int .u8 8) ∧ (bs t8)[64]? = some (.int .u8 0) := by
  have e : zeroS = List.replicate 128 0 := by unfold zeroS; rfl
  unfold t8 dblS
  rw [e]
  exact ⟨rfl, rfl⟩
/-- Byte i of a slice. -/
theorem Sec.In.byte {s : Sec} {W : World} (h : s.In n0 W) {n : Nat} (hn : s.l.length = n) (h0 : 0 < n) : ∃ b o, s.A = some ⟨b, o, none⟩ ∧ b < W.heap.size ∧ ∀ i v, (bs s.l)[i]? = some v → W.cell? ⟨b, o + i, none⟩ = some v := by
  obtain ⟨b, o, e, hb, hc⟩ := h.cels.at (k := 0) (by rw [bs_len]; omega)
  refine ⟨b, o, e, hb, fun i v hv => ?_⟩
  obtain ⟨hi, rfl⟩ := List.getElem?_eq_some_iff.1 hv
  exact hc i hi
end Go.Proofs.Ytfhfmnlkpcmgfaa
