/- The reference's words, numbers. -/
import Derived.Test.YthimljcfmnehcaaDoorApp
import Derived.Test.YthimljcfmnehcaaDoorRnd
namespace Go.Proofs.YthimljcfmnehcaaDoor
open Go.RowKit

theorem bv_shl24 (c : UInt8) : ((c.toNat : Nat) : Int) * 16777216 % (4294967296 : Int) = (((BitVec.ofNat 32 c.toNat <<< 24).toNat : Nat) : Int) := by
  rw [bv_byte]; exact bv_shl' _ 24
theorem bs_shl24 (c : UInt8) : ((c.toNat : Nat) : Int) * (16777216 : Int) = (((BitVec.ofNat 32 c.toNat <<< 24).toNat : Nat) : Int) := by
  have := c.toNat_lt
  rw [← bv_shl24]; omega
theorem bv_shl16 (c : UInt8) : ((c.toNat : Nat) : Int) * 65536 % (4294967296 : Int) = (((BitVec.ofNat 32 c.toNat <<< 16).toNat : Nat) : Int) := by
  rw [bv_byte]; exact bv_shl' _ 16
theorem bs_shl16 (c : UInt8) : ((c.toNat : Nat) : Int) * (65536 : Int) = (((BitVec.ofNat 32 c.toNat <<< 16).toNat : Nat) : Int) := by
  have := c.toNat_lt
  rw [← bv_shl16]; omega
theorem bv_shl8 (c : UInt8) : ((c.toNat : Nat) : Int) * 256 % (4294967296 : Int) = (((BitVec.ofNat 32 c.toNat <<< 8).toNat : Nat) : Int) := by
  rw [bv_byte]; exact bv_shl' _ 8
theorem bs_shl8 (c : UInt8) : ((c.toNat : Nat) : Int) * (256 : Int) = (((BitVec.ofNat 32 c.toNat <<< 8).toNat : Nat) : Int) := by
  have := c.toNat_lt
  rw [← bv_shl8]; omega

set_option maxHeartbeats 400000 in
theorem rword_any (b o cap : Nat) (l : List UInt8) (w : World) (hl : Bs w b o l) (h : 4 ≤ l.length) :
    Calls Tryd.prog 63 #[.slice (some ⟨b, o, none⟩) 4 cap] w fun e w' => e = .returned (uv (wd l 0)) ∧ ∃ m, w' = w.drewN m := by
  have c0 := hl 0 (by omega)
  have c1 := hl 1 (by omega)
  have c2 := hl 2 (by omega)
  have c3 := hl 3 (by omega)
  have HW := hide (wd_sum l 0)
  simp only [List.getD_eq_getElem?_getD, Nat.zero_add] at HW
  rw [List.getElem?_eq_getElem (show 0 < l.length by omega), List.getElem?_eq_getElem (show 1 < l.length by omega), List.getElem?_eq_getElem (show 2 < l.length by omega), List.getElem?_eq_getElem (show 3 < l.length by omega)] at HW
  simp only [Option.getD_some] at HW
  rw [Nat.add_zero] at c0
  have b0 := (l[0]'(by omega)).toNat_lt
  have b1 := (l[1]'(by omega)).toNat_lt
  have b2 := (l[2]'(by omega)).toNat_lt
  have b3 := (l[3]'(by omega)).toNat_lt
  generalize l[0]'(by omega) = x0 at *
  generalize l[1]'(by omega) = x1 at *
  generalize l[2]'(by omega) = x2 at *
  generalize l[3]'(by omega) = x3 at *
  clear hl
  go_enter Tryd.func63, Tryd.ntmps63
  go_wp2_with fail
  go_quiet (fail)
  go_wp2_with fail
  go_ret
  refine ⟨?_, nq, rfl⟩
  refine ret_num ?_
  rw [HW.out, bs_shl24, bs_shl16, bs_shl8, bv_byte x3, bv_or, bv_or, bv_or]

/-- The numbers K. -/
def kws : List U32 := (List.range 64).map kw
theorem kws_len : kws.length = 64 := by simp [kws]
theorem kws_get {t : Nat} (h : t < 64) : (uc kws)[t]? = some (uv (kw t)) := by
  rw [uc_get (by rw [kws_len]; exact h)]; simp [kws]
attribute [irreducible] kws

theorem wpList_built {P : Program} {ops : Array Oper} {rest : List Oper} {o : Oper} {a : Act} {w : World} {Q : Exit → Act → World → Prop} (hg : o.guard = none) (t : TypeId) (parts : Array (Nat × Operand)) (ho : o.op = .build t parts) (cells : Array Value)
    (hf : P.built t (parts.map fun (i, x) => (i, a.eval x)).toList = some cells) (h : wpList P ops Q rest (a.put o.dst (.agg cells)) w) : wpList P ops Q (o :: rest) a w :=
  wpList_build hg t parts ho (by rw [hf]; rfl) (by rw [hf]; exact h)
theorem kws_one : (uc kws).toArray.all (·.oneCell') = true := all_oneCell_toArray (uc_one _)
theorem kws_size : (uc kws).toArray.size = 64 := by simp [uc_len, kws_len]

set_option maxRecDepth 100000 in
set_option maxHeartbeats 800000 in
theorem numbers_any (w : World) : Calls Tryd.prog 65 #[] w fun e w' => e = .returned (.agg (uc kws).toArray) ∧ Below w.heap.size w w' := by
  go_enter Tryd.func65, Tryd.ntmps65
  have HS := hide kws_size
  have HZ := hide (show (Tryd.prog.info? 75).map (·.size) = some (uc kws).toArray.size by rw [kws_size]; exact Tryd.size75)
  go_wp2_with (first | (refine wpList_built rfl 75 _ rfl (uc kws).toArray (by kernel_rfl) ?_) | (refine wpList_store_row rfl 75 (.tmp 0) (.tmp 1) rfl w.heap.size _ rfl rfl 75 _ (heap_alloc_new w _) HZ.out (by rw [HS.out]; rfl) kws_one ?_))
  refine bodyPost_ret (v := .agg (uc kws).toArray) (results_cell_row rfl _ _ w.heap.size 75 _ (0, 0) _ rfl (setRow_heap _ _ _ _ _ _ (heap_alloc_new w _)) Tryd.underlying75 rfl HZ.out) rfl ⟨rfl, below_setRow (below_new w _) (Nat.le_refl _) _⟩
end Go.Proofs.YthimljcfmnehcaaDoor
