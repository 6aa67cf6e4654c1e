/- Mod, Add, sums: what they answer, for all integers. -/
import Derived.Test.YthimljcfmnehcaaDoorGMem
import Derived.Test.YthimljcfmnehcaaDoorGGrp
namespace Go.Proofs.YthimljcfmnehcaaDoor.Gp
open Go.RowKit

theorem tmod_md (n : Int) : (n.tmod 1073741789 < 0 ∧ n.tmod 1073741789 + 1073741789 = md n) ∨ (0 ≤ n.tmod 1073741789 ∧ n.tmod 1073741789 = md n) := by
  have h := Int.tmod_eq_emod (a := n) (b := 1073741789)
  unfold md
  split at h <;> omega
theorem tmod_range (n : Int) : -1073741789 ≤ n.tmod 1073741789 ∧ n.tmod 1073741789 < 1073741789 := by
  have h := tmod_md n
  have h1 := md_lo n
  have h2 := md_hi n
  omega

theorem mod_any (n : Int) (w : World) : Calls Tryd.prog 80 #[.int .i64 n] w fun e w' => e = .returned (.int .i64 (md n)) ∧ w = w' := by
  have hr := tmod_range n
  have hw : IntKind.i64.wrap (n.tmod 1073741789) = n.tmod 1073741789 := IntWalk.i64_in _ (by omega)
  have hc := tmod_md n
  generalize hx : n.tmod 1073741789 = x at *
  generalize md n = r at *
  rcases hc with ⟨h1, h2⟩ | ⟨h1, h2⟩
  · have h3 : IntKind.i64.wrap (x + 1073741789) = r := by rw [IntWalk.i64_in _ (by omega), h2]
    clear h2
    go_enter Tryd.func80, Tryd.ntmps80
    go_wp2_with fail
    go_ret
    exact ⟨by simp, rfl⟩
  · have h3 : ¬ x < 0 := by omega
    subst h2
    clear h1 hr
    go_enter Tryd.func80, Tryd.ntmps80
    go_wp2_with fail
    go_ret
    exact ⟨by simp, rfl⟩

/-- Integers in a row. -/
def Nums (w : World) (A : Option Addr) (l : List Int) : Prop := l ≠ [] → ∃ b o, A = some ⟨b, o, none⟩ ∧ b < w.heap.size ∧ ∀ i (h : i < l.length), w.cell? ⟨b, o + i, none⟩ = some (.int .i64 l[i])
theorem Nums.nil (w : World) (A : Option Addr) : Nums w A [] := fun h => absurd rfl h
theorem Nums.below {w w' : World} {A : Option Addr} {l : List Int} (h : Nums w A l) (hb : Below w.heap.size w w') : Nums w' A l := fun hn => by
  obtain ⟨b, o, h1, h2, h3⟩ := h hn
  exact ⟨b, o, h1, Nat.lt_of_lt_of_le h2 hb.size, fun i hi => (hb.cell (p := ⟨b, o + i, none⟩) h2).trans (h3 i hi)⟩
theorem Nums.at {w : World} {A : Option Addr} {l : List Int} (h : Nums w A l) {k : Nat} (hk : k < l.length) : ∃ b o, A = some ⟨b, o, none⟩ ∧ w.cell? ⟨b, o + k, none⟩ = some (.int .i64 l[k]) := by
  obtain ⟨b, o, h1, _, h3⟩ := h (by intro e; subst e; simp at hk)
  exact ⟨b, o, h1, h3 k hk⟩
theorem Nums.blk {w : World} {X T : Nat} {l : List Int} (h : Blk w X T (l.map fun n => .int .i64 n)) : Nums w (some ⟨X, 0, none⟩) l := fun _ =>
  ⟨X, 0, rfl, h.lt, fun i hi => by rw [Nat.zero_add, h.cell]; simp [hi]⟩

def sumTo (l : List Int) : Nat → Int
  | 0 => 0
  | k + 1 => sumTo l k + l.getD k 0

theorem sumTo_step (l : List Int) (k : Nat) (x : Int) (h : l[k]? = some x) : md (md (sumTo l k) + md x) = md (sumTo l (k + 1)) := by
  rw [md_addl, md_addr]
  simp [sumTo, List.getD_eq_getElem?_getD, h]

set_option maxHeartbeats 1600000 in
theorem sum_any (A : Option Addr) (l : List Int) (cap : Nat) (w : World) (hA : Nums w A l) (hl : l.length ≤ cap) (hc : cap ≤ 9223372036854775807) :
    Calls Tryd.prog 78 #[.slice A l.length cap] w fun e w' => e = .returned (.int .i64 (md (sumTo l l.length))) ∧ w = w' := by
  have HA := hide hA
  clear hA
  go_enter Tryd.func78, Tryd.ntmps78
  go_wp2_with fail
  go_loopw [2, 4, 7] (fun x _ i wr => ∃ k : Nat, k ≤ l.length ∧ i = .int .i64 k ∧ x = .int .i64 (md (sumTo l k)) ∧ wr = w) (fun _ _ i _ => l.length - (intOf i).toNat)
  case atStart => exact ⟨0, Nat.zero_le _, rfl, rfl, rfl⟩
  case round =>
    obtain ⟨k, hk, rfl, rfl, rfl⟩ := hrel
    by_cases hlt : k < l.length
    · obtain ⟨b, o, rfl, c0⟩ := HA.out.at hlt
      have hs := sumTo_step l k l[k] (List.getElem?_eq_getElem hlt)
      have h1 := md_lo (sumTo l k)
      have h2 := md_hi (sumTo l k)
      have h3 := md_lo l[k]
      have h4 := md_hi l[k]
      have hw : IntKind.i64.wrap (md (sumTo l k) + md l[k]) = md (sumTo l k) + md l[k] := IntWalk.i64_in _ (by omega)
      have hlt' : (k : Int) < (l.length : Int) := by omega
      generalize l[k] = c at *
      go_wp2_with fail
      refine (mod_any _ _).mono ?_
      rintro e w' ⟨rfl, rfl⟩
      go_wp2_with fail
      refine (mod_any _ _).mono ?_
      rintro e w' ⟨rfl, rfl⟩
      rw [hs]
      go_wp2_with fail
      go_roundw
      case rel => exact ⟨k + 1, by omega, by go_num, rfl, trivial⟩
      case measure => simp [intOf]; omega
    · have hlt' : ¬ (k : Int) < (l.length : Int) := by omega
      obtain rfl : k = l.length := by omega
      go_wp2_with fail
      go_ret
      exact ⟨by simp, rfl⟩

set_option maxHeartbeats 1600000 in
theorem add_any (a b : Int) (w : World) : Calls Tryd.prog 72 #[.int .i64 a, .int .i64 b] w fun e w' => e = .returned (.int .i64 (md (a + b))) ∧ Below w.heap.size w w' := by
  have HN := hide (Nums.blk (l := [a, b]) (Blk.new w 3 [.int .i64 a, .int .i64 b]))
  have HS := hide (sum_any _ [a, b] 2 _ HN.out (Nat.le_refl _) (by omega))
  have HB := hide (below_new w (.cells #[.int .i64 a, .int .i64 b] 3))
  go_enter Tryd.func72, Tryd.ntmps72
  go_wp2_with fail
  refine HS.out.mono ?_
  rintro e w' ⟨rfl, rfl⟩
  go_wp2_with fail
  go_ret
  exact ⟨by simp [sumTo], HB.out⟩
end Go.Proofs.YthimljcfmnehcaaDoor.Gp
