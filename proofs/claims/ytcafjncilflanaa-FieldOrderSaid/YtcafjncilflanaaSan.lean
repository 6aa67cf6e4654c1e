/- The examples of the chapter. -/
import Derived.Test.YtcafjncilflanaaAtv
import Derived.Test.YtcafjncilflanaaVal
namespace Go.Proofs.Ytcafjncilflanaa
open Go.RowKit

theorem fl_pt (l : List Pt) : ∀ i, i < l.length → (l.flatMap ptC)[i * 2]? = (l[i]?).map (fun p => Value.int .i64 p.1) ∧ (l.flatMap ptC)[i * 2 + 1]? = (l[i]?).map (fun p => Value.int .i64 p.2) := by
  induction l with
  | nil => intro i h; simp at h
  | cons p l ih =>
    intro i h
    cases i with
    | zero => simp [ptC]
    | succ i =>
      have := ih i (by simpa using h)
      have e1 : (i + 1) * 2 = i * 2 + 1 + 1 := by omega
      rw [List.flatMap_cons, e1]
      simp only [ptC, List.cons_append, List.nil_append, List.getElem?_cons_succ]
      exact this
theorem Pts.blk {w : World} {X T : Nat} {l : List Pt} (h : Blk w X T (l.flatMap ptC)) : Pts w (some ⟨X, 0, none⟩) l := fun _ =>
  ⟨X, 0, rfl, h.lt, fun i hi => by
    obtain ⟨h1, h2⟩ := fl_pt l i hi
    rw [List.getElem?_eq_getElem hi] at h1 h2
    exact ⟨by rw [Nat.zero_add]; exact (h.cell (i * 2)).trans h1, by rw [Nat.zero_add]; exact (h.cell (i * 2 + 1)).trans h2⟩⟩
def z65 : List Pt := List.replicate 65 (0, 0)
theorem make65 (w : World) : (Instr.makeSlice 31 (.int .i64 65) (.int .i64 65)).run Try.prog w = .ok (.slice (some ⟨w.heap.size, 0, none⟩) 65 65) (w.alloc (.cells (z65.flatMap ptC).toArray 35)) := by kernel_rfl
theorem inv_zero : invV 0 = .tuple #[.int .i64 0, .int .i64 90] := by unfold invV; rw [if_pos (by decide), if_pos (by decide)]
theorem inv_q : invV 1073741789 = .tuple #[.int .i64 0, .int .i64 90] := by unfold invV; rw [if_pos (by decide), if_pos (by decide)]
theorem inv_half : invV 2 = .tuple #[.int .i64 536870895, .int .i64 0] := by unfold invV; rw [if_neg (by decide), if_neg (by decide), inv_two]
theorem at_1 : atV [(1, 3), (2, 5)] 0 = .tuple #[.int .i64 1, .int .i64 0] := by
  unfold atV
  rw [if_neg (by simp), if_pos (by decide), if_neg (by simp), if_pos (by decide), at_line]
theorem at_2 : atV [] 7 = .tuple #[.int .i64 0, .int .i64 0] := by
  unfold atV
  rw [if_neg (by simp), if_pos (by decide), if_neg (by simp), if_pos (by decide)]
  rfl
theorem at_3 : atV [(1, 5), (-1073741788, 5)] 0 = .tuple #[.int .i64 0, .int .i64 90] := by
  unfold atV
  rw [if_neg (by simp), if_neg (by decide), if_neg (by simp), if_neg (by decide)]
theorem at_4 : atV z65 0 = .tuple #[.int .i64 0, .int .i64 2] := by
  unfold atV
  rw [if_pos (by simp [z65]), if_pos (by simp [z65])]
theorem val_1 : valF [1, 2, 3] 10 = 321 := by decide
theorem val_2 : valF [] 7 = 0 := rfl

set_option maxRecDepth 20000 in
set_option maxHeartbeats 6400000 in
theorem sane_any (w : World) : Calls Try.prog 7 #[] w fun e w' => e = .returned (.bool true) ∧ Below w.heap.size w w' := by
  have HI0 := hide (fun W => inv_zero ▸ inverse_any 0 W)
  have HI1 := hide (fun W => inv_q ▸ inverse_any 1073741789 W)
  have HI2 := hide (fun W => inv_half ▸ inverse_any 2 W)
  have HA1 := hide (fun W (h : Pts W (some ⟨w.heap.size, 0, none⟩) [(1, 3), (2, 5)]) => at_1 ▸ at_any (some ⟨w.heap.size, 0, none⟩) [(1, 3), (2, 5)] 2 0 W h (by simp) (by omega))
  have HP1 := hide (Pts.blk (l := [(1, 3), (2, 5)]) (Blk.new w 35 [.int .i64 1, .int .i64 3, .int .i64 2, .int .i64 5]))
  have HB1 := hide (below_new w (.cells #[.int .i64 1, .int .i64 3, .int .i64 2, .int .i64 5] 35))
  have HM := make65
  go_enter Try.func7, Try.ntmps7
  go_wp2_with fail
  refine (HI0.out _).mono ?_
  rintro e w' ⟨rfl, rfl⟩
  go_wp2_with fail
  refine (HI1.out _).mono ?_
  rintro e w' ⟨rfl, rfl⟩
  go_wp2_with fail
  refine (HI2.out _).mono ?_
  rintro e w' ⟨rfl, rfl⟩
  go_wp2_with fail
  refine (HA1.out _ HP1.out).mono ?_
  rintro e w1 ⟨rfl, hb⟩
  have HB2 := hide (below_one HB1.out hb)
  clear hb HP1 HB1 HA1 HI0 HI1 HI2
  go_wp2_with fail
  refine (at_2 ▸ at_any none [] 0 7 w1 (Pts.nil _ _) (by simp) (by omega)).mono ?_
  rintro e w2 ⟨rfl, hb⟩
  have HB3 := hide (below_one HB2.out hb)
  have HP2 := hide (Pts.blk (l := [(1, 5), (-1073741788, 5)]) (Blk.new w2 35 [.int .i64 1, .int .i64 5, .int .i64 (-1073741788), .int .i64 5]))
  have HB4 := hide (HB3.out.alloc HB3.out.size (.cells #[.int .i64 1, .int .i64 5, .int .i64 (-1073741788), .int .i64 5] 35))
  clear hb HB2
  go_wp2_with fail
  refine (at_3 ▸ at_any (some ⟨w2.heap.size, 0, none⟩) [(1, 5), (-1073741788, 5)] 2 0 _ HP2.out (by simp) (by omega)).mono ?_
  rintro e w3 ⟨rfl, hb⟩
  have HB5 := hide (below_one HB4.out hb)
  have HP5 := hide (Pts.blk (Blk.new w3 35 (z65.flatMap ptC)))
  have HB6 := hide (HB5.out.alloc HB5.out.size (.cells (z65.flatMap ptC).toArray 35))
  clear hb HB4 HB3 HP2
  go_wp2_with fail
  refine (at_4 ▸ at_any (some ⟨w3.heap.size, 0, none⟩) z65 65 0 _ HP5.out (by simp [z65]) (by omega)).mono ?_
  rintro e w4 ⟨rfl, hb⟩
  have HB7 := hide (below_one HB6.out hb)
  clear hb HB5 HB6 HP5 HM
  go_wp2_with fail
  refine (mod_any (-1) _).mono ?_
  rintro e w' ⟨rfl, rfl⟩
  rw [show md (-1) = 1073741788 from by decide]
  go_wp2_with fail
  refine (mul_any (-1) (-1) _).mono ?_
  rintro e w' ⟨rfl, rfl⟩
  rw [show md (-1 * -1) = 1 from by decide]
  go_wp2_with fail
  refine (add_any 1073741788 3 _).mono ?_
  rintro e w5 ⟨rfl, hb⟩
  have HB8 := hide (below_one HB7.out hb)
  have HB9 := hide (HB8.out.alloc HB8.out.size (.cells #[.int .i64 1, .int .i64 2, .int .i64 3] 3))
  have HN := hide (Nums.blk (l := [1, 2, 3]) (Blk.new w5 3 [.int .i64 1, .int .i64 2, .int .i64 3]))
  rw [show md (1073741788 + 3) = 2 from by decide]
  clear hb HB7
  go_wp2_with fail
  refine (val_1 ▸ value_any (some ⟨w5.heap.size, 0, none⟩) [1, 2, 3] 3 10 _ HN.out (by simp) (by omega)).mono ?_
  rintro e w6 ⟨rfl, hb⟩
  have HB10 := hide (below_one HB9.out hb)
  clear hb HB8 HB9
  go_wp2_with fail
  refine (val_2 ▸ value_any none [] 0 7 w6 (Nums.nil _ _) (by simp) (by omega)).mono ?_
  rintro e w7 ⟨rfl, hb⟩
  have HB11 := hide (below_one HB10.out hb)
  clear hb HB10
  go_wp2_with fail
  go_ret
  exact ⟨by simp, HB11.out⟩
end Go.Proofs.Ytcafjncilflanaa
