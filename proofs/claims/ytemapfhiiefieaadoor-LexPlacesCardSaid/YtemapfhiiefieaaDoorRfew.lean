/- Few of the reference. -/
import Derived.Test.YtemapfhiiefieaaDoorLawBase
namespace Go.Proofs.YtemapfhiiefieaaDoor
open Go.RowKit

/-- How long the texts of tokens are. -/
def sumT (l : List Tok) : Nat := (l.map (·.text.size)).sum
theorem sumT_take {l : List Tok} {k : Nat} (h : k < l.length) : sumT (l.take (k + 1)) = sumT (l.take k) + l[k].text.size := by
  unfold sumT
  rw [List.take_succ_eq_append_getElem h, List.map_append, List.sum_append]
  simp
theorem sumT_bound : ∀ (l : List Tok) (B : Nat), (∀ t ∈ l, t.text.size ≤ B) → sumT l ≤ l.length * B
  | [], B, _ => by simp [sumT]
  | t :: l, B, h => by
    have h1 := h t (by simp)
    have h2 := sumT_bound l B (fun u hu => h u (by simp [hu]))
    have : sumT (t :: l) = t.text.size + sumT l := rfl
    rw [this, List.length_cons, Nat.succ_mul]
    omega
/-- Tokens that are few, and short. -/
def Small (l : List Tok) : Prop := l.length ≤ 200 ∧ sumT l ≤ 2000

set_option maxRecDepth 10000 in
set_option maxHeartbeats 1600000 in
theorem rfew_any (A : Option Addr) (l : List Tok) (ca : Nat) (w : World) (hl : l.length * 40 ≤ 140737488351232) (hA : Toks w A l) (hF : ∀ t ∈ l, t.Fit) :
    Calls Tryd.prog 15 #[.slice A l.length ca] w fun e w' => ∃ r : Bool, e = .returned (.bool r) ∧ (r = true → Small l) ∧ Below w.heap.size w w' := by
  have HA := hide hA
  have HF := hide hF
  clear hA hF
  have hl63 : l.length ≤ 3518437208780 := by omega
  by_cases h2 : l.length ≤ 200
  · have hd : decide ((l.length : Int) ≤ 200) = true := by simp; omega
    go_enter Tryd.func15, Tryd.ntmps15
    go_wp2_with fail
    go_loopw [3, 4] (fun x i wr => ∃ k : Nat, k ≤ l.length ∧ i = .int .i64 k ∧ x = .int .i64 (sumT (l.take k) : Nat) ∧ Hid (Below w.heap.size w wr)) (fun _ i _ => l.length - (intOf i).toNat)
    case atStart => exact ⟨0, Nat.zero_le _, rfl, rfl, hide (Below.refl _ _)⟩
    case round =>
      obtain ⟨k, hk, rfl, rfl, hb⟩ := hrel
      by_cases hlt : k < l.length
      · obtain ⟨b, o, rfl, _, c0, c1, c2, c3⟩ := (HA.out.below hb.out) k hlt
        have HS := hide (sumT_take hlt)
        have h4 := (HF.out l[k] (List.getElem_mem hlt)).2.2.2
        have h5 := sumT_bound (l.take k) 140737488351232 (fun t ht => (HF.out t (List.mem_of_mem_take ht)).2.2.2)
        rw [List.length_take, Nat.min_eq_left hk] at h5
        generalize l[k] = t at *
        have h6 : sumT (l.take k) ≤ 28147497670246400 := by omega
        clear h5
        have HB := hide (below_dn w.heap.size wr)
        go_wp2_with fail
        refine ⟨⟨k + 1, by omega, by go_num, ?_, hb⟩, ?_⟩
        · rw [HS.out]; simp
        · simp [intOf]; omega
      · obtain rfl : k = l.length := by omega
        rw [List.take_length]
        have h5 := sumT_bound l 140737488351232 (fun t ht => (HF.out t ht).2.2.2)
        by_cases h7 : sumT l ≤ 2000
        · have h8 : decide ((sumT l : Int) ≤ 2000) = true := by simp; omega
          go_wp2_with fail
          go_ret
          exact ⟨true, rfl, fun _ => ⟨h2, h7⟩, hb.out⟩
        · have h8 : decide ((sumT l : Int) ≤ 2000) = false := by simp; omega
          go_wp2_with fail
          go_ret
          exact ⟨false, rfl, fun h => by (cases h), hb.out⟩
  · have hd : decide ((l.length : Int) ≤ 200) = false := by simp; omega
    go_enter Tryd.func15, Tryd.ntmps15
    go_wp2_with fail
    go_loopw [3, 4] (fun x i wr => ∃ (k : Nat) (z : Int), k ≤ l.length ∧ i = .int .i64 k ∧ x = .int .i64 z ∧ Hid (Below w.heap.size w wr)) (fun _ i _ => l.length - (intOf i).toNat)
    case atStart => exact ⟨0, 0, Nat.zero_le _, rfl, rfl, hide (Below.refl _ _)⟩
    case round =>
      obtain ⟨k, z, hk, rfl, rfl, hb⟩ := hrel
      by_cases hlt : k < l.length
      · obtain ⟨b, o, rfl, _, c0, c1, c2, c3⟩ := (HA.out.below hb.out) k hlt
        have h4 := (HF.out l[k] (List.getElem_mem hlt)).2.2.2
        generalize l[k] = t at *
        go_wp2_with fail
        refine ⟨⟨k + 1, _, by omega, by go_num, rfl, hb⟩, ?_⟩
        simp [intOf]; omega
      · obtain rfl : k = l.length := by omega
        go_wp2_with fail
        go_ret
        exact ⟨false, rfl, fun h => by (cases h), hb.out⟩
end Go.Proofs.YtemapfhiiefieaaDoor
