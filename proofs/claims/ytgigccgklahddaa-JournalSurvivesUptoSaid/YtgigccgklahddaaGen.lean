/- greatestGeneration. -/
import Derived.Test.YtgigccgklahddaaEql
import Derived.Test.YtgigccgklahddaaPlanT
namespace Go.Proofs.Ytgigccgklahddaa
open Go.RowKit
variable {n0 : Nat}

/-- The two numbers of a sector. -/
def genA (s : List UInt8) : Nat := n4 (s.getD 0 0) (s.getD 1 0) (s.getD 2 0) (s.getD 3 0)
def genZ (s : List UInt8) : Nat := n4 (s.getD 124 0) (s.getD 125 0) (s.getD 126 0) (s.getD 127 0)
def genM : List (List UInt8) → Nat → Nat
  | [], m => m
  | s :: r, m => genM r (max (max m (genA s)) (genZ s))
theorem genM_lt : ∀ (l : List (List UInt8)) (m : Nat), m < 4294967296 → genM l m < 4294967296
  | [], m, h => h
  | s :: r, m, h => genM_lt r _ (by
    have h1 : genA s < 4294967296 := n4_lt _ _ _ _
    have h2 : genZ s < 4294967296 := n4_lt _ _ _ _
    omega)
theorem max3 (m a z : Nat) : (if (if m < a then (a : Int) else m) < (z : Int) then (z : Int) else if m < a then (a : Int) else m) = ((max (max m a) z : Nat) : Int) := by
  by_cases h : m < a
  · rw [if_pos h]
    by_cases h2 : (a : Int) < z
    · rw [if_pos h2]; omega
    · rw [if_neg h2]; omega
  · rw [if_neg h]
    by_cases h2 : (m : Int) < z
    · rw [if_pos h2]; omega
    · rw [if_neg h2]; omega

set_option maxRecDepth 100000 in
set_option maxHeartbeats 3200000 in
theorem greatest_any (A : Option Addr) (l : List Sec) (cap : Nat) (w : World) (hi : SecsIn n0 A l cap w) (hl : ∀ i (h : i < l.length), (l[i]).l.length = 128) (hn : l.length ≤ 4096) :
    Calls Try.prog 41 #[.slice A l.length cap] w fun e w' => e = .returned (.int .i64 (genM (secD l) 0 : Nat)) ∧ Below w.heap.size w w' := by
  have HI := hide hi
  have HL := hide hl
  clear hi hl
  go_enter Try.func41, Try.ntmps41
  go_wp2_with fail
  go_loopw [2, 7] (fun g i wr => ∃ k m : Nat, k ≤ l.length ∧ g = .int .i64 m ∧ i = .int .i64 k ∧ m < 4294967296 ∧ Hid (Below w.heap.size w wr) ∧ Hid (genM (secD l) 0 = genM ((secD l).drop k) m)) (fun _ i _ => l.length - (intOf i).toNat)
  case atStart => exact ⟨0, 0, Nat.zero_le _, rfl, rfl, by decide, hide (Below.refl _ _), hide rfl⟩
  case round =>
    obtain ⟨k, m, hk, rfl, rfl, hm, hb, hq⟩ := hrel
    by_cases hlt : k < l.length
    · have hi0 : (k : Int) < l.length := by omega
      obtain ⟨b, o, hsa, _, c0⟩ := (HI.out.below hb.out).at hlt
      have hsi := (HI.out.below hb.out).each _ (List.getElem_mem hlt)
      have hsl := HL.out k hlt
      have HN := hide (show genM ((secD l).drop k) m = genM ((secD l).drop (k + 1)) (max (max m (genA (l[k]).l)) (genZ (l[k]).l)) by
        rw [List.drop_eq_getElem_cons (by rw [secD_len]; exact hlt), secD_get]
        rfl)
      subst hsa
      generalize l[k] = s at *
      obtain ⟨A', l', cap'⟩ := s
      simp only at hsl
      have hcap : 128 ≤ cap' := by have := hsi.le; simp only at this; omega
      have hcm : cap' ≤ 9223372036854775807 := hsi.cap
      obtain ⟨b', o', hA, hlt2, hc⟩ := hsi.cels.at (k := 0) (by rw [bs_len, hsl]; omega)
      simp only at hA
      subst hA
      have HD := hide (show ∀ W, Below wr.heap.size wr W → ∀ i, i < 128 → W.cell? ⟨b', o' + i, none⟩ = some (.int .u8 ((l'.getD i 0).toNat : Nat)) from fun W hW i h => (hW.cell (p := ⟨b', o' + i, none⟩) hlt2).trans (by
        rw [hc i (by rw [bs_len, hsl]; exact h), bs_get, List.getD_eq_getElem?_getD, List.getElem?_eq_getElem (by omega)]
        rfl))
      have HA := hide (fun W (hW : Below wr.heap.size wr W) => numberIn_any b' o' 128 cap' _ _ _ _ W (HD.out W hW 0 (by omega)) (HD.out W hW 1 (by omega)) (HD.out W hW 2 (by omega)) (HD.out W hW 3 (by omega)) (by omega))
      have HZ := hide (fun W (hW : Below wr.heap.size wr W) => numberIn_any b' (o' + 124) 4 (cap' - 124) _ _ _ _ W (HD.out W hW 124 (by omega)) (HD.out W hW 125 (by omega)) (HD.out W hW 126 (by omega)) (HD.out W hW 127 (by omega)) (by omega))
      have hga : genA l' < 4294967296 := n4_lt _ _ _ _
      have hgz : genZ l' < 4294967296 := n4_lt _ _ _ _
      rw [show n4 (l'.getD 0 0) (l'.getD 1 0) (l'.getD 2 0) (l'.getD 3 0) = genA l' from rfl] at HA
      rw [show n4 (l'.getD 124 0) (l'.getD 125 0) (l'.getD 126 0) (l'.getD 127 0) = genZ l' from rfl] at HZ
      have hv : (Sec.mk (some ⟨b', o', none⟩) l' cap').v = .slice (some ⟨b', o', none⟩) 128 cap' := by simp [hsl]
      rw [hv] at c0
      simp only at HN
      generalize genA l' = ga at *
      generalize genZ l' = gz at *
      have hwa := wrap_i64 (n := (ga : Int)) (by omega) (by omega)
      have hwz := wrap_i64 (n := (gz : Int)) (by omega) (by omega)
      have HMX := hide (max3 m ga gz)
      have g1 : (124 : Int) ≤ cap' := by omega
      have g2 : ¬ cap' = 124 := by omega
      clear hsi hc HD hv
      go_upto_region 4 with (fail)
      have HWD := hide (show Below wr.heap.size wr wr.drew from (Below.refl _ wr).drew)
      refine wp_region_plan3 (fun w' => Below wr.heap.size wr w') (.take 0 (.take 1 (.take 2 (.take 5 (.take 6 (.run 3 (.take 4 (.run 7 (.take 8 (.take 9 (.run 10 .done))))))))))) (by kernel_rfl) (by kernel_rfl) HWD.out ?_
      generalize wr.drew = w1 at HWD ⊢
      (refine plan3_take (o := ?_) (v := ?_) (by simp only [List.getElem?_toArray, List.getElem?_cons_zero]; rfl) (yields_run (by rfl) ?_) ?_; rotate_left; (focus (intro w' hw'; go_simp <;> with_reducible rfl)); (simp only [Act.put, List.setIfInBounds_toArray, List.set_cons_zero, List.set_cons_succ]))
      (refine plan3_take (o := ?_) (v := ?_) (by simp only [List.getElem?_toArray, List.getElem?_cons_succ, List.getElem?_cons_zero]; rfl) (yields_run (by rfl) ?_) ?_; rotate_left; (focus (intro w' hw'; go_simp <;> with_reducible rfl)); (simp only [Act.put, List.setIfInBounds_toArray, List.set_cons_zero, List.set_cons_succ]))
      (refine plan3_take (o := ?_) (v := ?_) (by simp only [List.getElem?_toArray, List.getElem?_cons_succ, List.getElem?_cons_zero]; rfl) (yields_run (by rfl) ?_) ?_; rotate_left; (focus (intro w' hw'; go_simp <;> with_reducible rfl)); (simp only [Act.put, List.setIfInBounds_toArray, List.set_cons_zero, List.set_cons_succ]))
      (refine plan3_take (o := ?_) (v := ?_) (by simp only [List.getElem?_toArray, List.getElem?_cons_succ, List.getElem?_cons_zero]; rfl) (yields_run (by rfl) ?_) ?_; rotate_left; (focus (intro w' hw'; go_simp <;> with_reducible rfl)); (simp only [Act.put, List.setIfInBounds_toArray, List.set_cons_zero, List.set_cons_succ]))
      (refine plan3_take (o := ?_) (v := ?_) (by simp only [List.getElem?_toArray, List.getElem?_cons_succ, List.getElem?_cons_zero]; rfl) (yields_run (by rfl) ?_) ?_; rotate_left; (focus (intro w' hw'; go_simp <;> with_reducible rfl)); (simp only [Act.put, List.setIfInBounds_toArray, List.set_cons_zero, List.set_cons_succ]))
      refine plan3_run (o := ?_) (by simp only [List.getElem?_toArray, List.getElem?_cons_succ, List.getElem?_cons_zero]; rfl) ?_
      intro R HRR
      go_wp2_with fail
      refine (HA.out _ HWD.out).mono ?_
      rintro e w2 ⟨rfl, hb2⟩
      have HW2 := hide (below_one HWD.out hb2)
      go_wp2_with fail
      refine HRR.out _ _ HW2.out ?_
      clear HRR
      (refine plan3_take (o := ?_) (v := ?_) (by simp only [List.getElem?_toArray, List.getElem?_cons_succ, List.getElem?_cons_zero]; rfl) (yields_run (by rfl) ?_) ?_; rotate_left; (focus (intro w' hw'; go_simp <;> with_reducible rfl)); (simp only [Act.put, List.setIfInBounds_toArray, List.set_cons_zero, List.set_cons_succ]))
      refine plan3_run (o := ?_) (by simp only [List.getElem?_toArray, List.getElem?_cons_succ, List.getElem?_cons_zero]; rfl) ?_
      intro R HRR
      go_wp2_with fail
      refine (HZ.out _ HW2.out).mono ?_
      rintro e w3 ⟨rfl, hb3⟩
      have HW3 := hide (below_one HW2.out hb3)
      go_wp2_with fail
      refine HRR.out _ _ HW3.out ?_
      clear HRR
      (refine plan3_take (o := ?_) (v := ?_) (by simp only [List.getElem?_toArray, List.getElem?_cons_succ, List.getElem?_cons_zero]; rfl) (yields_run (by rfl) ?_) ?_; rotate_left; (focus (intro w' hw'; go_simp <;> with_reducible rfl)); (simp only [Act.put, List.setIfInBounds_toArray, List.set_cons_zero, List.set_cons_succ]))
      (refine plan3_take (o := ?_) (v := ?_) (by simp only [List.getElem?_toArray, List.getElem?_cons_succ, List.getElem?_cons_zero]; rfl) (yields_run (by rfl) ?_) ?_; rotate_left; (focus (intro w' hw'; go_simp <;> with_reducible rfl)); (simp only [Act.put, List.setIfInBounds_toArray, List.set_cons_zero, List.set_cons_succ]))
      rw [HMX.out]
      refine plan3_run (o := ?_) (by simp only [List.getElem?_toArray, List.getElem?_cons_succ, List.getElem?_cons_zero]; rfl) ?_
      intro R HRR
      go_wp2_with fail
      refine HRR.out _ _ HW3.out ?_
      clear HRR
      refine plan3_done ?_
      go_wp2_with fail
      go_roundw
      case rel => exact ⟨k + 1, max (max m ga) gz, by omega, rfl, by go_num, by omega, hide (below_one hb.out HW3.out), hide (by rw [hq.out, HN.out])⟩
      case measure => simp [intOf]; omega
    · obtain rfl : k = l.length := by omega
      have HN := hide (show genM ((secD l).drop l.length) m = m by rw [List.drop_eq_nil_of_le (by rw [secD_len]; exact Nat.le_refl _)]; rfl)
      go_wp2_with fail
      go_ret
      exact ⟨by rw [hq.out, HN.out]; rfl, hb.out⟩
end Go.Proofs.Ytgigccgklahddaa
