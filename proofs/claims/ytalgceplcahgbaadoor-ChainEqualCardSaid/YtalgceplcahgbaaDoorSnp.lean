/- The examples of the chapter, plain. -/
import Derived.Test.YtalgceplcahgbaaDoorAdd
namespace Go.Proofs.YtalgceplcahgbaaDoor
open Go.RowKit Go.Shelf

section
variable (H0 : List UInt8) (HL : Ln → List UInt8)
def gx : Ln := ⟨3, 0, H0, [120]⟩
def gy (d : UInt8) : Ln := ⟨3, 1, HL (gx H0), [d]⟩
theorem g_nil : chkA H0 HL [] = 0 := by simp [chkA, chainB, upB]
theorem g_a : chkA H0 HL [gx H0] = 0 := by simp [chkA, chainB, upB, lnkB, admB, headL, gx]
theorem g_b (d : UInt8) : chkA H0 HL [gx H0, gy H0 HL d] = 0 := by simp [chkA, chainB, upB, lnkB, admB, headL, gx, gy]
theorem g_one (p : List UInt8) : chkA H0 HL [⟨0, 1, p, []⟩] = 80 := by simp [chkA, chainB, upB, lnkB]
theorem g_tail (d : UInt8) : chkA H0 HL [gy H0 HL d] = 80 := by simp [chkA, chainB, upB, lnkB, gy]
end
def x0 : Ln := gx hd0
def y1 (d : UInt8) : Ln := gy hd0 hdL d
theorem hd_x0 : hdA [x0] = hdL x0 := by simp [hdA, headL]
theorem add_1 : addA [] 3 [120] = (some x0, 0) := by
  unfold addA
  rw [g_nil, if_neg (by simp), if_neg (by simp [admB]), if_neg (by simp)]
  rfl
theorem add_2 (d : UInt8) : addA [x0] 3 [d] = (some (y1 d), 0) := by
  unfold addA
  have h : chkA hd0 hdL [x0] = 0 := g_a _ _
  rw [h, if_neg (by simp), if_neg (by simp [admB, x0, gx]), if_neg (by simp), hd_x0]
  rfl
theorem add_3 : addA [] 24 [] = (none, 1) := by
  unfold addA
  rw [g_nil, if_neg (by simp), if_pos (by simp [admB])]
theorem add_4 : addA [x0] 4 [] = (none, 1) := by
  unfold addA
  have h : chkA hd0 hdL [x0] = 0 := g_a _ _
  rw [h, if_neg (by simp), if_pos (by simp [admB, x0, gx])]
theorem same_x0 : x0.same x0 = true := Ln.same_iff.2 rfl
theorem same_y1 : (y1 121).same (y1 122) = false := Ln.same_no.2 (by simp [y1, gy])
theorem part_1 : partA [x0, y1 121] [x0, y1 122] = (1, true, 0) := by
  unfold partA
  have h1 : chkA hd0 hdL [x0, y1 121] = 0 := g_b _ _ _
  have h2 : chkA hd0 hdL [x0, y1 122] = 0 := g_b _ _ _
  rw [h1, if_neg (by simp), h2, if_neg (by simp), if_neg (by simp)]
  have : firstD [x0, y1 121] [x0, y1 122] 2 = some 1 := by simp [firstD, same_x0, same_y1]
  rw [show min [x0, y1 121].length [x0, y1 122].length = 2 from rfl, this]
  rfl
theorem part_2 : partA [x0] [x0, y1 121] = (0, false, 0) := by
  unfold partA
  have h1 : chkA hd0 hdL [x0] = 0 := g_a _ _
  have h2 : chkA hd0 hdL [x0, y1 121] = 0 := g_b _ _ _
  rw [h1, if_neg (by simp), h2, if_neg (by simp), if_neg (by simp)]
  have : firstD [x0] [x0, y1 121] 1 = none := by simp [firstD, same_x0]
  rw [show min [x0].length [x0, y1 121].length = 1 from rfl, this]
  rfl
theorem part_3 : partA [] [x0] = (0, false, 0) := by
  unfold partA
  have h2 : chkA hd0 hdL [x0] = 0 := g_a _ _
  rw [g_nil, if_neg (by simp), h2, if_neg (by simp), if_neg (by simp)]
  rfl
theorem chk_nil : chkA hd0 hdL [] = 0 := g_nil _ _
theorem chk_b : chkA hd0 hdL [x0, y1 121] = 0 := g_b _ _ _
theorem chk_one (p : List UInt8) : chkA hd0 hdL [⟨0, 1, p, []⟩] = 80 := g_one _ _ p
theorem chk_tail : chkA hd0 hdL [y1 121] = 80 := g_tail _ _ _
/-- The text of a first link. -/
theorem lenc_first (p : List UInt8) (h : p.length = 32) : lenc ⟨3, 0, p, [120]⟩ = [3, 4, 1, 6, 1, 0, 2, 32] ++ p ++ [2, 1, 120] := by
  have e1 : Cdc.numeral (Cdc.uns 3) = [6] := by decide
  have e2 : Cdc.numeral (Cdc.uns 0) = [0] := by decide
  have e3 : Cdc.numeral 32 = [32] := by decide
  have e4 : Cdc.numeral 1 = [1] := by decide
  have e5 : Cdc.numeral 4 = [4] := by decide
  simp [lenc, lnkT, Cdc.VT.enc, Cdc.VT.enc.encs, Cdc.intT, Cdc.textT, e1, e2, e3, e4, e5, h, ByteArray.size]
theorem head_a : hdA [x0] = tagd [108, 105, 110, 107] ([3, 4, 1, 6, 1, 0, 2, 32] ++ hd0 ++ [2, 1, 120]) := by
  rw [hd_x0]
  unfold hdL
  rw [show lenc x0 = _ from lenc_first hd0 (tagd_32 _ _)]
end Go.Proofs.YtalgceplcahgbaaDoor
