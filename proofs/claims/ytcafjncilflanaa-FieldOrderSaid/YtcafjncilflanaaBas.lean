/- Mod, Add, Mul, the difference, sums: what they answer, for all integers. -/
import Derived.Test.YtcafjncilflanaaMem
import Derived.Test.YtcafjncilflanaaFld
namespace Go.Proofs.Ytcafjncilflanaa
open Go.RowKit

theorem tmod_md (n : Int) : (n.tmod 1073741789 < 0 ∧ n.tmod 1073741789 + 1073741789 = md n) ∨ (0 ≤ n.tmod 1073741789 ∧ n.tmod 1073741789 = md n) := by
  have h := Int.tmod_eq_emod (a := n) (b := 1073741789)
  unfold md
  split at h <;> omega
theorem tmod_range (n : Int) : -1073741789 ≤ n.tmod 1073741789 ∧ n.tmod 1073741789 < 1073741789 := by
  have h := tmod_md n
  have h1 := md_lo n
  have h2 := md_hi n
  omega

theorem mod_any (n : Int) (w : World) : Calls Try.prog 10 #[.int .i64 n] w fun e w' => e = .returned (.int .i64 (md n)) ∧ w = w' := by
  have hr := tmod_range n
  have hw : IntKind.i64.wrap (n.tmod 1073741789) = n.tmod 1073741789 := IntWalk.i64_in _ (by omega)
  have hc := tmod_md n
  generalize hx : n.tmod 1073741789 = x at *
  generalize md n = r at *
  rcases hc with ⟨h1, h2⟩ | ⟨h1, h2⟩
  · have h3 : IntKind.i64.wrap (x + 1073741789) = r := by rw [IntWalk.i64_in _ (by omega), h2]
    clear h2
    go_enter Try.func10, Try.ntmps10
    go_wp2_with fail
    go_ret
    exact ⟨by simp, rfl⟩
  · have h3 : ¬ x < 0 := by omega
    subst h2
    clear h1 hr
    go_enter Try.func10, Try.ntmps10
    go_wp2_with fail
    go_ret
    exact ⟨by simp, rfl⟩

/-- Integers in a row. -/
def Nums (w : World) (A : Option Addr) (l : List Int) : Prop := l ≠ [] → ∃ b o, A = some ⟨b, o, none⟩ ∧ b < w.heap.size ∧ ∀ i (h : i < l.length), w.cell? ⟨b, o + i, none⟩ = some (.int .i64 l[i])
theorem Nums.nil (w : World) (A : Option Addr) : Nums w A [] := fun h => absurd rfl h
theorem Nums.below {w w' : World} {A : Option Addr} {l : List Int} (h : Nums w A l) (hb : Below w.heap.size w w') : Nums w' A l := fun hn => by
  obtain ⟨b, o, h1, h2, h3⟩ := h hn
  exact ⟨b, o, h1, Nat.lt_of_lt_of_le h2 hb.size, fun i hi => (hb.cell (p := ⟨b, o + i, none⟩) h2).trans (h3 i hi)⟩
theorem Nums.at {w : World} {A : Option Addr} {l : List Int} (h : Nums w A l) {k : Nat} (hk : k < l.length) : ∃ b o, A = some ⟨b, o, none⟩ ∧ w.cell? ⟨b, o + k, none⟩ = some (.int .i64 l[k]) := by
  obtain ⟨b, o, h1, _, h3⟩ := h (by intro e; subst e; simp at hk)
  exact ⟨b, o, h1, h3 k hk⟩
theorem Nums.blk {w : World} {X T : Nat} {l : List Int} (h : Blk w X T (l.map fun n => .int .i64 n)) : Nums w (some ⟨X, 0, none⟩) l := fun _ =>
  ⟨X, 0, rfl, h.lt, fun i hi => by rw [Nat.zero_add, h.cell]; simp [hi]⟩

def sumTo (l : List Int) : Nat → Int
  | 0 => 0
  | k + 1 => sumTo l k + l.getD k 0

theorem sumTo_step (l : List Int) (k : Nat) (x : Int) (h : l[k]? = some x) : md (md (sumTo l k) + md x) = md (sumTo l (k + 1)) := by
  rw [md_addl, md_addr]
  simp [sumTo, List.getD_eq_getElem?_getD, h]

set_option maxHeartbeats 1600000 in
theorem sum_any (A : Option Addr) (l : List Int) (cap : Nat) (w : World) (hA : Nums w A l) (hl : l.length ≤ cap) (hc : cap ≤ 9223372036854775807) :
    Calls Try.prog 22 #[.slice A l.length cap] w fun e w' => e = .returned (.int .i64 (md (sumTo l l.length))) ∧ w = w' := by
  have HA := hide hA
  clear hA
  go_enter Try.func22, Try.ntmps22
  go_wp2_with fail
  go_loopw [2, 4, 7] (fun x _ i wr => ∃ k : Nat, k ≤ l.length ∧ i = .int .i64 k ∧ x = .int .i64 (md (sumTo l k)) ∧ wr = w) (fun _ _ i _ => l.length - (intOf i).toNat)
  case atStart => exact ⟨0, Nat.zero_le _, rfl, rfl, rfl⟩
  case round =>
    obtain ⟨k, hk, rfl, rfl, rfl⟩ := hrel
    by_cases hlt : k < l.length
    · obtain ⟨b, o, rfl, c0⟩ := HA.out.at hlt
      have hs := sumTo_step l k l[k] (List.getElem?_eq_getElem hlt)
      have h1 := md_lo (sumTo l k)
      have h2 := md_hi (sumTo l k)
      have h3 := md_lo l[k]
      have h4 := md_hi l[k]
      have hw : IntKind.i64.wrap (md (sumTo l k) + md l[k]) = md (sumTo l k) + md l[k] := IntWalk.i64_in _ (by omega)
      have hlt' : (k : Int) < (l.length : Int) := by omega
      generalize l[k] = c at *
      go_wp2_with fail
      refine (mod_any _ _).mono ?_
      rintro e w' ⟨rfl, rfl⟩
      go_wp2_with fail
      refine (mod_any _ _).mono ?_
      rintro e w' ⟨rfl, rfl⟩
      rw [hs]
      go_wp2_with fail
      go_roundw
      case rel => exact ⟨k + 1, by omega, by go_num, rfl, trivial⟩
      case measure => simp [intOf]; omega
    · have hlt' : ¬ (k : Int) < (l.length : Int) := by omega
      obtain rfl : k = l.length := by omega
      go_wp2_with fail
      go_ret
      exact ⟨by simp, rfl⟩

set_option maxHeartbeats 1600000 in
theorem add_any (a b : Int) (w : World) : Calls Try.prog 12 #[.int .i64 a, .int .i64 b] w fun e w' => e = .returned (.int .i64 (md (a + b))) ∧ Below w.heap.size w w' := by
  have HN := hide (Nums.blk (l := [a, b]) (Blk.new w 3 [.int .i64 a, .int .i64 b]))
  have HS := hide (sum_any _ [a, b] 2 _ HN.out (Nat.le_refl _) (by omega))
  have HB := hide (below_new w (.cells #[.int .i64 a, .int .i64 b] 3))
  go_enter Try.func12, Try.ntmps12
  go_wp2_with fail
  refine HS.out.mono ?_
  rintro e w' ⟨rfl, rfl⟩
  go_wp2_with fail
  go_ret
  exact ⟨by simp [sumTo], HB.out⟩
theorem mul_any (a b : Int) (w : World) : Calls Try.prog 14 #[.int .i64 a, .int .i64 b] w fun e w' => e = .returned (.int .i64 (md (a * b))) ∧ w = w' := by
  have hm : md (md a * md b) = md (a * b) := by rw [md_mull, md_mulr]
  have hw : IntKind.i64.wrap (md a * md b) = md a * md b := by
    have h1 := md_lo a
    have h2 := md_hi a
    have h3 := md_lo b
    have h4 := md_hi b
    have h5 := Int.mul_nonneg h1 h3
    have h6 : md a * md b ≤ 1073741789 * 1073741789 := Int.mul_le_mul (by omega) (by omega) h3 (by omega)
    exact IntWalk.i64_in _ (by omega)
  go_enter Try.func14, Try.ntmps14
  go_wp2_with fail
  refine (mod_any _ _).mono ?_
  rintro e w' ⟨rfl, rfl⟩
  go_wp2_with fail
  refine (mod_any _ _).mono ?_
  rintro e w' ⟨rfl, rfl⟩
  go_wp2_with fail
  refine (mod_any _ _).mono ?_
  rintro e w' ⟨rfl, rfl⟩
  rw [hm]
  go_wp2_with fail
  go_ret
  exact ⟨by simp, rfl⟩
set_option maxHeartbeats 1600000 in
theorem diff_any (a b : Int) (w : World) : Calls Try.prog 27 #[.int .i64 a, .int .i64 b] w fun e w' => e = .returned (.int .i64 (md (a - b))) ∧ Below w.heap.size w w' := by
  have HN := hide (Nums.blk (l := [a, -md b]) (Blk.new w 3 [.int .i64 a, .int .i64 (-md b)]))
  have HS := hide (sum_any _ [a, -md b] 2 _ HN.out (Nat.le_refl _) (by omega))
  have HB := hide (below_new w (.cells #[.int .i64 a, .int .i64 (-md b)] 3))
  have HE := hide (show md (sumTo [a, -md b] 2) = md (a - b) from by
    simp only [sumTo, List.getD_cons_zero, List.getD_cons_succ, Int.zero_add]
    rw [← md_addr, md_neg, md_addr, Int.sub_eq_add_neg])
  have hw : IntKind.i64.wrap (-md b) = -md b := by
    have h3 := md_lo b
    have h4 := md_hi b
    exact IntWalk.i64_in _ (by omega)
  go_enter Try.func27, Try.ntmps27
  go_wp2_with fail
  refine (mod_any _ _).mono ?_
  rintro e w' ⟨rfl, rfl⟩
  go_wp2_with fail
  refine HS.out.mono ?_
  rintro e w' ⟨rfl, rfl⟩
  go_wp2_with fail
  go_ret
  exact ⟨by rw [← HE.out]; simp, HB.out⟩

theorem rmod_any (n : Int) (w : World) : Calls Try.prog 11 #[.int .i64 n] w fun e w' => e = .returned (.int .i64 (md n)) ∧ w = w' := by
  have hr := tmod_range n
  have hw : IntKind.i64.wrap (n.tmod 1073741789) = n.tmod 1073741789 := IntWalk.i64_in _ (by omega)
  have hc := tmod_md n
  generalize hx : n.tmod 1073741789 = x at *
  generalize md n = r at *
  rcases hc with ⟨h1, h2⟩ | ⟨h1, h2⟩
  · have h3 : IntKind.i64.wrap (x + 1073741789) = r := by rw [IntWalk.i64_in _ (by omega), h2]
    clear h2
    go_enter Try.func11, Try.ntmps11
    go_wp2_with fail
    go_ret
    exact ⟨by simp, rfl⟩
  · have h3 : ¬ x < 0 := by omega
    subst h2
    clear h1 hr
    go_enter Try.func11, Try.ntmps11
    go_wp2_with fail
    go_ret
    exact ⟨by simp, rfl⟩
theorem tmod_of {n : Int} (h : 0 ≤ n) : n.tmod 1073741789 = md n := Int.tmod_eq_emod_of_nonneg h
theorem radd_any (a b : Int) (w : World) : Calls Try.prog 13 #[.int .i64 a, .int .i64 b] w fun e w' => e = .returned (.int .i64 (md (a + b))) ∧ w = w' := by
  have h1 := md_lo a
  have h2 := md_hi a
  have h3 := md_lo b
  have h4 := md_hi b
  have hw : IntKind.i64.wrap (md a + md b) = md a + md b := IntWalk.i64_in _ (by omega)
  have hm : IntKind.i64.wrap ((md a + md b).tmod 1073741789) = md (a + b) := by
    have h5 := md_lo (a + b)
    have h6 := md_hi (a + b)
    rw [tmod_of (by omega), md_addl, md_addr]
    exact IntWalk.i64_in _ (by omega)
  have hn : (md a + md b).tmod 1073741789 = md (a + b) := by rw [tmod_of (by omega), md_addl, md_addr]
  clear h1 h2 h3 h4
  go_enter Try.func13, Try.ntmps13
  go_wp2_with fail
  refine (rmod_any _ _).mono ?_
  rintro e w' ⟨rfl, rfl⟩
  go_wp2_with fail
  refine (rmod_any _ _).mono ?_
  rintro e w' ⟨rfl, rfl⟩
  go_wp2_with fail
  go_ret
  exact ⟨by simp, rfl⟩
theorem rmul_any (a b : Int) (w : World) : Calls Try.prog 15 #[.int .i64 a, .int .i64 b] w fun e w' => e = .returned (.int .i64 (md (a * b))) ∧ w = w' := by
  have h1 := md_lo a
  have h2 := md_hi a
  have h3 := md_lo b
  have h4 := md_hi b
  have h7 := Int.mul_nonneg h1 h3
  have h8 : md a * md b ≤ 1073741789 * 1073741789 := Int.mul_le_mul (by omega) (by omega) h3 (by omega)
  have hw : IntKind.i64.wrap (md a * md b) = md a * md b := IntWalk.i64_in _ (by omega)
  have hm : IntKind.i64.wrap ((md a * md b).tmod 1073741789) = md (a * b) := by
    have h5 := md_lo (a * b)
    have h6 := md_hi (a * b)
    rw [tmod_of h7, md_mull, md_mulr]
    exact IntWalk.i64_in _ (by omega)
  have hn : (md a * md b).tmod 1073741789 = md (a * b) := by rw [tmod_of h7, md_mull, md_mulr]
  clear h1 h2 h3 h4 h7 h8
  go_enter Try.func15, Try.ntmps15
  go_wp2_with fail
  refine (rmod_any _ _).mono ?_
  rintro e w' ⟨rfl, rfl⟩
  go_wp2_with fail
  refine (rmod_any _ _).mono ?_
  rintro e w' ⟨rfl, rfl⟩
  go_wp2_with fail
  go_ret
  exact ⟨by simp, rfl⟩
theorem in_any (n : Int) (w : World) : Calls Try.prog 16 #[.int .i64 n] w fun e w' => e = .returned (.bool (decide (0 ≤ n ∧ n < 1073741789))) ∧ w = w' := by
  by_cases h0 : 0 ≤ n
  · by_cases h1 : n < 1073741789
    · have hd : decide (0 ≤ n ∧ n < 1073741789) = true := decide_eq_true ⟨h0, h1⟩
      rw [hd]
      clear hd
      go_enter Try.func16, Try.ntmps16
      go_wp2_with fail
      go_ret
      exact ⟨by simp, rfl⟩
    · have hd : decide (0 ≤ n ∧ n < 1073741789) = false := decide_eq_false (by omega)
      rw [hd]
      clear hd
      go_enter Try.func16, Try.ntmps16
      go_wp2_with fail
      go_ret
      exact ⟨by simp, rfl⟩
  · have hd : decide (0 ≤ n ∧ n < 1073741789) = false := decide_eq_false (by omega)
    rw [hd]
    clear hd
    go_enter Try.func16, Try.ntmps16
    go_wp2_with fail
    go_ret
    exact ⟨by simp, rfl⟩
end Go.Proofs.Ytcafjncilflanaa
