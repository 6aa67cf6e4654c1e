/- MerkleLength's walk. -/
import Derived.Test.YthjfeodclphgaaaDoorOpn
namespace Go.Proofs.YthjfeodclphgaaaDoor
open Go.RowKit Go.Shelf
theorem run_eqlD {o : Oper} {a : Act} (x y : Operand) (T : TypeId) (ho : o.op = .binOp .eql 26 x y T) (X Y : List UInt8) (hx : a.eval x = dv X) (hy : a.eval y = dv Y) (h1 : X.length = 32) (h2 : Y.length = 32) (v : Bool) (hv : v = (X == Y)) (w : World) : (execOp a.eval o).run Tryd.prog w = .ok (.value (.bool v)) w := by
  unfold execOp
  simp only [ho, hx, hy, Sem.run_bind, run_eqGuard_agg w .eql 26 x y _ _ Tryd.eqGuardType26, Result.andThen_ok, eql_dv X Y h1 h2 w, Sem.run_pure, hv]
theorem wpList_eql2 {ops : Array Oper} {Q : Exit → Act → World → Prop} {o : Oper} {rest : List Oper} {a : Act} {w : World} (hw : Region.wanted o (yielded ops a.tmps) = true) (x y : Operand) (T : TypeId) (ho : o.op = .binOp .eql 26 x y T) (X Y : List UInt8) (hx : a.eval x = dv X) (hy : a.eval y = dv Y)
    (h1 : X.length = 32) (h2 : Y.length = 32) (v : Bool) (hv : v = (X == Y)) (h : wpList Tryd.prog ops Q rest (a.put o.dst (.bool v)) w) : wpList Tryd.prog ops Q (o :: rest) a w :=
  wpList_of_wp hw (by unfold Oper.wp; rw [run_eqlD x y T ho X Y hx hy h1 h2 v hv w]; exact h)
theorem alone_iff {m k : Nat} (hk : k < m) : aloneB m k = true ↔ (m % 2 = 1 ∧ k = m - 1) := by
  unfold aloneB nb
  rw [decide_eq_true_iff]
  split <;> omega
set_option maxRecDepth 20000 in
set_option maxHeartbeats 6400000 in
theorem length_walk (n i : Int) (LA : Option Addr) (leaf : List UInt8) (lc : Nat) (A : Option Addr) (m c : Nat) (p : List (List UInt8)) (w : World) (hT : Tab w) (hl : Src w LA leaf.length lc leaf) (hlc : leaf.length ≤ 9223372036854775807) (hp : DSrc w A m c p) :
    Calls Tryd.prog 17 #[.int .i64 n, .int .i64 i, .slice LA leaf.length lc, .slice A m c] w (LawPost w) := by
  have HT := hide hT
  have HLP := hide (And.intro hl hp)
  have HZ := hide (fun (r : List UInt8) (hr : r.length = 32) => show (Tryd.prog.info? 26).map (·.size) = some ((bc r).toArray).size by rw [dv_size _ hr]; exact Tryd.size26)
  have HS := hide (sane_any w hT)
  have hm63 : m ≤ 9223372036854775807 := Nat.le_trans hp.le hp.top
  clear hT hl hp
  go_enter Tryd.func17, Tryd.ntmps17
  go_wp2_with fail
  refine HS.out.mono ?_
  rintro e w1 ⟨rfl, hb⟩
  have HB1 := hide hb
  clear hb HS
  by_cases hll : leaf.length ≤ 200
  · have hll' : ¬ (200 : Int) < (leaf.length : Int) := by omega
    by_cases hmm : m ≤ 40
    · have hmm' : ¬ (40 : Int) < (m : Int) := by omega
      have HC := hide (Climb_any n i LA lc leaf A m c p w1 (HT.out.below HB1.out) (HLP.out.1.sb.below HB1.out) HLP.out.1.nil (by omega) (HLP.out.2.below HB1.out))
      go_wp2_with fail
      refine HC.out.mono ?_
      rintro e w2 ⟨rfl, hb⟩
      have HB2 := hide (below_one HB1.out hb)
      have HML := hide HLP.out.2.len
      clear hb HC HLP
      cases hlb : leafB n i with
      | false =>
        rw [climbAns_no hlb]
        have H5 := hide (box_set HB2.out zero32 rfl)
        have hv : true = (zero32 == zero32) := by simp
        have HVE := hide hv
        have hcond : n < 1 ∨ 65536 < n ∨ i < 0 ∨ n ≤ i := by
          unfold leafB at hlb
          simp at hlb
          omega
        clear hv hlb
        by_cases h1 : n < 1
        · go_wp2_with (first | (refine wpList_store_row rfl 26 (.tmp 9) (.tmp 30) rfl w2.heap.size (bc zero32).toArray rfl rfl 26 _ (heap_alloc_new w2 _) (HZ.out _ zero32_len) (by rw [dv_size _ zero32_len]; rfl) (all_oneCell_toArray (bc_one zero32)) ?_) | (refine wpList_load_w rfl 26 (.tmp 9) rfl w2.heap.size rfl 26 _ (0, 0) _ H5.out.1 Tryd.underlying26 rfl (HZ.out _ zero32_len) ?_) | (refine wpList_eql2 rfl (.tmp 50) (.tmp 51) 26 rfl zero32 zero32 rfl rfl zero32_len zero32_len _ HVE.out ?_))
          go_ret
          exact ⟨rfl, H5.out.2.1⟩
        · by_cases h2 : 65536 < n
          · go_wp2_with (first | (refine wpList_store_row rfl 26 (.tmp 9) (.tmp 30) rfl w2.heap.size (bc zero32).toArray rfl rfl 26 _ (heap_alloc_new w2 _) (HZ.out _ zero32_len) (by rw [dv_size _ zero32_len]; rfl) (all_oneCell_toArray (bc_one zero32)) ?_) | (refine wpList_load_w rfl 26 (.tmp 9) rfl w2.heap.size rfl 26 _ (0, 0) _ H5.out.1 Tryd.underlying26 rfl (HZ.out _ zero32_len) ?_) | (refine wpList_eql2 rfl (.tmp 50) (.tmp 51) 26 rfl zero32 zero32 rfl rfl zero32_len zero32_len _ HVE.out ?_))
            go_ret
            exact ⟨rfl, H5.out.2.1⟩
          · by_cases h3 : i < 0
            · go_wp2_with (first | (refine wpList_store_row rfl 26 (.tmp 9) (.tmp 30) rfl w2.heap.size (bc zero32).toArray rfl rfl 26 _ (heap_alloc_new w2 _) (HZ.out _ zero32_len) (by rw [dv_size _ zero32_len]; rfl) (all_oneCell_toArray (bc_one zero32)) ?_) | (refine wpList_load_w rfl 26 (.tmp 9) rfl w2.heap.size rfl 26 _ (0, 0) _ H5.out.1 Tryd.underlying26 rfl (HZ.out _ zero32_len) ?_) | (refine wpList_eql2 rfl (.tmp 50) (.tmp 51) 26 rfl zero32 zero32 rfl rfl zero32_len zero32_len _ HVE.out ?_))
              go_ret
              exact ⟨rfl, H5.out.2.1⟩
            · have h4 : n ≤ i := by omega
              go_wp2_with (first | (refine wpList_store_row rfl 26 (.tmp 9) (.tmp 30) rfl w2.heap.size (bc zero32).toArray rfl rfl 26 _ (heap_alloc_new w2 _) (HZ.out _ zero32_len) (by rw [dv_size _ zero32_len]; rfl) (all_oneCell_toArray (bc_one zero32)) ?_) | (refine wpList_load_w rfl 26 (.tmp 9) rfl w2.heap.size rfl 26 _ (0, 0) _ H5.out.1 Tryd.underlying26 rfl (HZ.out _ zero32_len) ?_) | (refine wpList_eql2 rfl (.tmp 50) (.tmp 51) 26 rfl zero32 zero32 rfl rfl zero32_len zero32_len _ HVE.out ?_))
              go_ret
              exact ⟨rfl, H5.out.2.1⟩
      | true =>
        obtain ⟨e1, e2, h3, h4⟩ := leafB_nat hlb
        generalize n.toNat = N at *
        generalize i.toNat = I at *
        subst e1 e2
        have g1 : ¬ ((N : Int) < 1) := by omega
        have g2 : ¬ ((65536 : Int) < (N : Int)) := by omega
        have g3 : ¬ ((I : Int) < 0) := by omega
        have g4 : ¬ ((N : Int) ≤ (I : Int)) := by omega
        have g5 : (I : Int) < (N : Int) := by omega
        have HLB := hide hlb
        clear hlb
        generalize hans : climbAns (N : Int) (I : Int) leaf p = ans
        have HANS := hide hans
        have H32 := hide (show ans.1.length = 32 by rw [← hans]; exact climbAns_32 _ _ _ _)
        clear hans
        obtain ⟨d, er⟩ := ans
        simp only at H32
        have H5 := hide (box_set HB2.out d rfl)
        go_wp2_with (refine wpList_store_row rfl 26 (.tmp 9) (.tmp 30) rfl w2.heap.size (bc d).toArray rfl rfl 26 _ (heap_alloc_new w2 _) (HZ.out _ H32.out) (by rw [dv_size _ H32.out]; rfl) (all_oneCell_toArray (bc_one d)) ?_)
        go_loop [11, 12, 13] (fun a s k => ∃ (x s' k' : Nat), a = .int .i64 (x : Nat) ∧ s = .int .i64 (s' : Nat) ∧ k = .int .i64 (k' : Nat) ∧ 1 ≤ s' ∧ s' ≤ 65536 ∧ k' < s' ∧ x + s' ≤ 65536 ∧ Hid (x + lenR s' k' = lenR N I)) (fun _ s _ => (intOf s).toNat)
        case atStart => exact ⟨0, N, I, rfl, rfl, rfl, by omega, h4, h3, by omega, hide (by omega)⟩
        case round =>
          obtain ⟨x, s', k', rfl, rfl, rfl, q1, q2, q3, q4, HX⟩ := hrel
          have HMO := hide (fun (h : 1 < s') => lenR_more (i := k') h)
          have HAI := hide (alone_iff q3)
          by_cases hm : 1 < s'
          · have hm' : (1 : Int) < (s' : Int) := by omega
            have k0 : (0 : Int) ≤ (s' : Int) := by omega
            by_cases ev : s' % 2 = 0
            · have he : ((s' : Int) % 2 == 0) = true := by simp only [beq_iff_eq]; omega
              have HN := hide (show lenR s' k' = 1 + lenR ((s' + 1) / 2) (k' / 2) by
                rw [HMO.out hm, if_neg (by rw [HAI.out]; omega)])
              go_wp2_with fail
              go_round
              case rel => exact ⟨x + 1, (s' + 1) / 2, k' / 2, (by first | go_num | (congr 1; omega)), (by first | go_num | (congr 1; omega)), (by first | go_num | (congr 1; omega)), by omega, by omega, by omega, by omega, hide (by have := HX.out; rw [HN.out] at this; omega)⟩
              case measure => simp [intOf]; omega
            · have he : ((s' : Int) % 2 == 0) = false := by simp only [beq_eq_false_iff_ne, ne_eq]; omega
              by_cases hl : k' = s' - 1
              · have hk : ((k' : Int) != (s' : Int) - 1) = false := by simp only [bne_eq_false_iff_eq]; omega
                have HN := hide (show lenR s' k' = lenR ((s' + 1) / 2) (k' / 2) by
                  rw [HMO.out hm, if_pos (by rw [HAI.out]; omega)]; omega)
                have HL := hide hl
                clear hl
                go_wp2_with fail
                go_round
                case rel => exact ⟨x, (s' + 1) / 2, k' / 2, rfl, (by first | go_num | (congr 1; omega)), (by first | go_num | (congr 1; omega)), by omega, by omega, by have := HL.out; omega, by omega, hide (by have := HX.out; rw [HN.out] at this; omega)⟩
                case measure => simp [intOf]; omega
              · have hk : ((k' : Int) != (s' : Int) - 1) = true := by simp only [bne_iff_ne, ne_eq]; omega
                have HN := hide (show lenR s' k' = 1 + lenR ((s' + 1) / 2) (k' / 2) by
                  rw [HMO.out hm, if_neg (by rw [HAI.out]; omega)])
                go_wp2_with fail
                go_round
                case rel => exact ⟨x + 1, (s' + 1) / 2, k' / 2, (by first | go_num | (congr 1; omega)), (by first | go_num | (congr 1; omega)), (by first | go_num | (congr 1; omega)), by omega, by omega, by omega, by omega, hide (by have := HX.out; rw [HN.out] at this; omega)⟩
                case measure => simp [intOf]; omega
          · have hm' : ¬ (1 : Int) < (s' : Int) := by omega
            have HXL := hide (show x = lenR N I by have := HX.out; rw [lenR_one (by omega)] at this; omega)
            by_cases hq : m = x
            · have hq' : ((m : Int) != (x : Int)) = false := by simp only [bne_eq_false_iff_eq]; omega
              have hpl : p.length = lenR N I := by rw [← HML.out, hq, HXL.out]
              have HER := hide (show er = 0 by
                have h := HANS.out
                rw [climbAns_yes HLB.out (by simpa using hpl)] at h
                injection h with h1 h2
                exact h2.symm)
              clear hpl hq
              obtain rfl := HER.out
              go_wp2_with fail
              go_ret
              exact ⟨rfl, H5.out.2.1⟩
            · have hq' : ((m : Int) != (x : Int)) = true := by simp only [bne_iff_ne, ne_eq]; omega
              have hpl : p.length ≠ lenR N I := by rw [← HML.out, ← HXL.out]; exact hq
              have HER := hide (show er = 70 ∧ d = zero32 by
                have h := HANS.out
                rw [climbAns_len HLB.out (by simpa using hpl)] at h
                injection h with h1 h2
                exact ⟨h2.symm, h1.symm⟩)
              clear hpl hq HANS
              obtain ⟨rfl, rfl⟩ := HER.out
              have hv : true = (zero32 == zero32) := by simp
              have HVE := hide hv
              clear hv HER
              go_wp2_with (first | (refine wpList_load_w rfl 26 (.tmp 9) rfl w2.heap.size rfl 26 _ (0, 0) _ H5.out.1 Tryd.underlying26 rfl (HZ.out _ zero32_len) ?_) | (refine wpList_eql2 rfl (.tmp 81) (.tmp 82) 26 rfl zero32 zero32 rfl rfl zero32_len zero32_len _ HVE.out ?_))
              go_ret
              exact ⟨rfl, H5.out.2.1⟩
    · have hmm' : (40 : Int) < (m : Int) := by omega
      go_wp2_with fail
      go_ret
      exact ⟨rfl, HB1.out⟩
  · have hll' : (200 : Int) < (leaf.length : Int) := by omega
    go_wp2_with fail
    go_ret
    exact ⟨rfl, HB1.out⟩
end Go.Proofs.YthjfeodclphgaaaDoor
