/- Comparing numbers and pairs; the pair of a link; New. -/
import Derived.Test.YthmaakiibgdigaaVal
import Derived.Test.YthmaakiibgdigaaPln
namespace Go.Proofs.Ythmaakiibgdigaa
open Go.RowKit
variable {ok : Nat → Prop}

def cmpI (a b : Int) : Int := if a < b then -1 else if b < a then 1 else 0
def orI (x y : Int) : Int := if x = 0 then y else x
def cmpP (p q : Int × Int) : Int := orI (cmpI p.1 q.1) (cmpI p.2 q.2)
theorem cmpP_lt {p q : Int × Int} : cmpP p q < 0 ↔ ltPr p q = true := by
  unfold cmpP orI cmpI ltPr
  simp only [decide_eq_true_eq]
  repeat' split
  all_goals omega
theorem isNaN_any (x : Int) (w : World) : Calls Try.prog 62 #[.int .i64 x] w fun e w' => e = .returned (.bool false) ∧ w = w' := by
  go_enter Try.func62, Try.ntmps62
  go_wp2_with fail
  go_ret
  exact ⟨by simp, rfl⟩
set_option maxRecDepth 10000 in
theorem compareI_any (x y : Int) (w : World) : Calls Try.prog 50 #[.int .i64 x, .int .i64 y] w fun e w' => e = .returned (.int .i64 (cmpI x y)) ∧ w = w' := by
  have HD := hide (show cmpI x y = if x < y then -1 else if y < x then 1 else 0 from rfl)
  rcases Int.lt_trichotomy x y with h | h | h
  · have HF := hide (show cmpI x y = -1 by rw [HD.out, if_pos h])
    go_enter Try.func50, Try.ntmps50
    go_wp2_with fail
    refine (isNaN_any _ _).mono ?_
    rintro e w' ⟨rfl, rfl⟩
    go_wp2_with fail
    refine (isNaN_any _ _).mono ?_
    rintro e w' ⟨rfl, rfl⟩
    go_wp2_with fail
    go_ret
    exact ⟨by rw [HF.out]; rfl, rfl⟩
  · subst h
    have HF := hide (show cmpI x x = 0 by rw [HD.out]; simp)
    go_enter Try.func50, Try.ntmps50
    go_wp2_with fail
    refine (isNaN_any _ _).mono ?_
    rintro e w' ⟨rfl, rfl⟩
    go_wp2_with fail
    refine (isNaN_any _ _).mono ?_
    rintro e w' ⟨rfl, rfl⟩
    go_wp2_with fail
    go_ret
    exact ⟨by rw [HF.out]; rfl, rfl⟩
  · have HF := hide (show cmpI x y = 1 by rw [HD.out, if_neg (by omega), if_pos h])
    have h' : ¬ x < y := by omega
    go_enter Try.func50, Try.ntmps50
    go_wp2_with fail
    refine (isNaN_any _ _).mono ?_
    rintro e w' ⟨rfl, rfl⟩
    go_wp2_with fail
    refine (isNaN_any _ _).mono ?_
    rintro e w' ⟨rfl, rfl⟩
    go_wp2_with fail
    go_ret
    exact ⟨by rw [HF.out]; rfl, rfl⟩
set_option maxRecDepth 10000 in
theorem or_any (x y : Int) (X c : Nat) (w : World) (h0 : w.cell? ⟨X, 0, none⟩ = some (.int .i64 x)) (h1 : w.cell? ⟨X, 1, none⟩ = some (.int .i64 y)) : Calls Try.prog 49 #[.slice (some ⟨X, 0, none⟩) 2 c] w fun e w' => e = .returned (.int .i64 (orI x y)) ∧ w = w' := by
  by_cases hx : x = 0
  · subst hx
    by_cases hy : y = 0
    · subst hy
      go_enter Try.func49, Try.ntmps49
      go_wp2_with fail
      refine wp_loop_rounds 3 ?_
      rw [rounds_succ]
      go_wp2_with fail
      rw [rounds_succ]
      go_wp2_with fail
      rw [rounds_succ]
      go_wp2_with fail
      go_ret
      exact ⟨rfl, rfl⟩
    · have hy' : (y != 0) = true := by simp [hy]
      have HF := hide (show orI 0 y = y from rfl)
      clear hy
      go_enter Try.func49, Try.ntmps49
      go_wp2_with fail
      refine wp_loop_rounds 2 ?_
      rw [rounds_succ]
      go_wp2_with fail
      rw [rounds_succ]
      go_wp2_with fail
      go_ret
      exact ⟨by rw [HF.out]; rfl, rfl⟩
  · have hx' : (x != 0) = true := by simp [hx]
    have HF := hide (show orI x y = x from if_neg hx)
    clear hx
    go_enter Try.func49, Try.ntmps49
    go_wp2_with fail
    refine wp_loop_rounds 1 ?_
    rw [rounds_succ]
    go_wp2_with fail
    go_ret
    exact ⟨by rw [HF.out]; rfl, rfl⟩
theorem Try.size55 : (Try.prog.info? 55).map (·.size) = some 2 := by kernel_rfl
set_option maxRecDepth 10000 in
theorem pairOf_any (a b : Int) (w : World) : Calls Try.prog 35 #[.int .i64 a, .int .i64 b] w fun e w' => e = .returned (prV (pairN a b)) ∧ Below w.heap.size w w' := by
  rcases Int.lt_trichotomy a b with h | h | h
  · have HP := hide (show pairN a b = (a, b) by unfold pairN; rw [Int.min_eq_left (by omega), Int.max_eq_right (by omega)])
    have h1 : a ≤ b := by omega
    go_enter Try.func35, Try.ntmps35
    go_wp2_with fail
    exact bodyPost_ret (v := .agg #[.int .i64 a, .int .i64 b]) (by simp [results, Try.results35, go_sem]) rfl ⟨by rw [HP.out], below_new _ _⟩
  · subst h
    have HP := hide (show pairN a a = (a, a) by unfold pairN; simp)
    go_enter Try.func35, Try.ntmps35
    go_wp2_with fail
    all_goals exact bodyPost_ret (v := .agg #[.int .i64 a, .int .i64 a]) (by simp [results, Try.results35, go_sem]) rfl ⟨by rw [HP.out], below_new _ _⟩
  · have HP := hide (show pairN a b = (b, a) by unfold pairN; rw [Int.min_eq_right (by omega), Int.max_eq_left (by omega)])
    have h1 : ¬ a ≤ b := by omega
    have h2 : ¬ a < b := by omega
    go_enter Try.func35, Try.ntmps35
    go_wp2_with fail
    all_goals exact bodyPost_ret (v := .agg #[.int .i64 b, .int .i64 a]) (by simp [results, Try.results35, go_sem]) rfl ⟨by rw [HP.out], below_new _ _⟩
theorem new_any (w : World) : Calls Try.prog 16 #[] w fun e w' => e = .returned Net.zero.v ∧ Below w.heap.size w w' := by
  go_enter Try.func16, Try.ntmps16
  go_wp2_with fail
  exact bodyPost_ret (v := Net.zero.v) (by simp [results, Try.results16, go_sem, Net.zero]) rfl ⟨rfl, below_new _ _⟩
theorem rnew_any (w : World) : Calls Try.prog 17 #[] w fun e w' => e = .returned Net.zero.v ∧ Below w.heap.size w w' := by
  go_enter Try.func17, Try.ntmps17
  go_wp2_with fail
  exact bodyPost_ret (v := Net.zero.v) (by simp [results, Try.results17, go_sem, Net.zero]) rfl ⟨rfl, below_new _ _⟩
end Go.Proofs.Ythmaakiibgdigaa
