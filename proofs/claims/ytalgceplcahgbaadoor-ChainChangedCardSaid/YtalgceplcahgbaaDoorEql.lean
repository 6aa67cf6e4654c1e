/- Two digests are compared. -/
import Derived.Test.YtalgceplcahgbaaDoorDsr
import Derived.ChangeKeysEq
import Derived.Laws.StructEq
namespace Go.Proofs.YtalgceplcahgbaaDoor
open Go.RowKit

theorem part_byte (l : List UInt8) (j : Nat) (h : j < l.length) (w : World) : (part 5 (bc l).toArray j).run Tryd.prog w = .ok (.int .u8 (l[j].toNat : Nat)) w := by
  unfold part
  have ha : (isAgg 5).run Tryd.prog w = .ok false w := Tryd.isAgg5 w
  have hx : (bc l).toArray[j]? = some (.int .u8 (l[j].toNat : Nat)) := by rw [List.getElem?_toArray, bc_get h]
  simp [Sem.run_bind, ha, hx]
theorem eqItems_bytes (d : Nat) (xs ys : List UInt8) (w : World) : ∀ (m k : Nat), xs.length = k + m → ys.length = k + m →
    (Op.eqItems (d + 1) 5 1 (bc xs).toArray (bc ys).toArray (List.range' k m)).run Tryd.prog w = .ok (xs.drop k == ys.drop k) w
  | 0, k, hx, hy => by
    rw [List.drop_of_length_le (by omega), List.drop_of_length_le (by omega)]
    simp [Op.eqItems]
  | m + 1, k, hx, hy => by
    have ih := eqItems_bytes d xs ys w m (k + 1) (by omega) (by omega)
    rw [List.range'_succ, List.drop_eq_getElem_cons (show k < xs.length by omega), List.drop_eq_getElem_cons (show k < ys.length by omega)]
    simp only [Op.eqItems, Sem.run_bind, Nat.mul_one, part_byte xs k (by omega), part_byte ys k (by omega), Result.andThen_ok, run_equalIn_int w d 5 .u8 .u8 _ _ Tryd.underlying5]
    have he : (((xs[k]'(by omega)).toNat : Int) == ((ys[k]'(by omega)).toNat : Int)) = ((xs[k]'(by omega)) == (ys[k]'(by omega))) := by
      rw [Bool.eq_iff_iff]
      simp only [beq_iff_eq]
      exact ⟨fun h => UInt8.toNat_inj.1 (by omega), fun h => by rw [h]⟩
    rw [he, List.cons_beq_cons]
    cases hc : ((xs[k]'(by omega)) == (ys[k]'(by omega)))
    · simp only [Bool.not_false, if_true, Sem.run_pure, Bool.false_and]
    · simp only [Bool.not_true, Bool.false_eq_true, if_false, Bool.true_and]
      exact ih
theorem equalIn_dv (d : Nat) (xs ys : List UInt8) (w : World) (hx : xs.length = 32) (hy : ys.length = 32) : (Op.equalIn (d + 2) 26 (dv xs) (dv ys)).run Tryd.prog w = .ok (xs == ys) w := by
  obtain ⟨i, hi⟩ := info_of_underlying Tryd.underlying5
  have hc : Tryd.prog.cellsOf 5 = 1 := by kernel_rfl
  rw [run_equalIn_array w (d + 1) _ _ Tryd.underlying26 hi, hc, List.range_eq_range']
  have := eqItems_bytes d xs ys w 32 0 (by omega) (by omega)
  simpa using this
/-- As the walk meets it. -/
theorem eql_dv (xs ys : List UInt8) (hx : xs.length = 32) (hy : ys.length = 32) (w : World) : (binOp .eql 26 (dv xs) (dv ys)).run Tryd.prog w = .ok (.bool (xs == ys)) w := by
  rw [run_eql_struct, equalIn_dv 9998 xs ys w hx hy]
  rfl
theorem neq_dv (xs ys : List UInt8) (hx : xs.length = 32) (hy : ys.length = 32) (w : World) : (binOp .neq 26 (dv xs) (dv ys)).run Tryd.prog w = .ok (.bool (!(xs == ys))) w := by
  rw [run_neq_struct, equalIn_dv 9998 xs ys w hx hy]
  rfl
theorem equalIn_same (xs : List UInt8) (hx : xs.length = 32) (w : World) : (Op.equalIn 10000 26 (dv xs) (dv xs)).run Tryd.prog w = .ok true w := by
  rw [equalIn_dv 9998 xs xs w hx hx]
  simp
end Go.Proofs.YtalgceplcahgbaaDoor
