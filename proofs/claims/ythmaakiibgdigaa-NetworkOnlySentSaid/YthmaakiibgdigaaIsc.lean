/- IsCut. -/
import Derived.Test.YthmaakiibgdigaaIdx
namespace Go.Proofs.Ythmaakiibgdigaa
open Go.RowKit
variable {ok : Nat → Prop}


set_option maxRecDepth 10000 in
set_option maxHeartbeats 1600000 in
theorem isCut_lt (n : Net) (a b : Int) (w : World) (hi : n.In ok w) (hab : a < b) : Calls Try.prog 39 #[n.v, .int .i64 a, .int .i64 b] w fun e w' => e = .returned (.bool (n.a.l.contains (a, b))) ∧ Below w.heap.size w w' := by
  obtain ⟨⟨qA, ql, qc⟩, ⟨aA, l, cap⟩⟩ := n
  have HI := hide hi
  have hle : l.length ≤ cap := hi.a.a.le
  have hcap : cap ≤ 9223372036854775807 := hi.a.a.top
  have HB := hide (below_new w (.cells #[.slice qA ql.length qc, .slice aA l.length cap] 25))
  have HX := hide (Blk.new w 25 [.slice qA ql.length qc, .slice aA l.length cap])
  have HT := hide (show (a, b) ∈ l → l.contains (a, b) = true from fun h => by simpa using h)
  have HF := hide (show ¬ (a, b) ∈ l → l.contains (a, b) = false from fun h => by simpa using h)
  generalize l.contains (a, b) = r at *
  have h1 : a ≤ b := by omega
  clear hi
  go_enter Try.func39, Try.ntmps39
  go_wp2_with fail
  generalize hw1 : (w.alloc (.cells #[.slice qA ql.length qc, .slice aA l.length cap] 25)) = w1 at *
  clear hw1
  go_loop [7] (fun i => ∃ k : Nat, k ≤ l.length ∧ i = .int .i64 k ∧ Hid (∀ j (h : j < l.length), j < k → l[j] ≠ (a, b))) (fun i => l.length - (intOf i).toNat)
  case atStart => exact ⟨0, Nat.zero_le _, rfl, hide (by intros; omega)⟩
  case round =>
    obtain ⟨k, hk, rfl, hw⟩ := hrel
    obtain ⟨e0, e1⟩ := HX.out.c2
    by_cases hlt : k < l.length
    · obtain ⟨bb, o, hA, hb0, c0, c1⟩ := ((HI.out.below HB.out).a).at hlt
      simp only at hA
      subst hA
      by_cases heq : l[k] = (a, b)
      · obtain rfl := HT.out (heq ▸ List.getElem_mem hlt)
        rw [heq] at c0 c1
        clear heq
        have hq1 : (a == a) = true := by simp
        have hq2 : (b == b) = true := by simp
        go_wp2_with fail
        go_ret
        exact ⟨rfl, HB.out⟩
      · have HW := hide (show ∀ j (h : j < l.length), j < k + 1 → l[j] ≠ (a, b) from fun j h hj => by
          by_cases e : j = k
          · subst e; exact heq
          · exact hw.out j h (by omega))
        rcases hq : l[k] with ⟨q1, q2⟩
        rw [hq] at c0 c1 heq
        clear hq
        have hne : q1 = a → q2 = b → False := fun h1 h2 => heq (by rw [h1, h2])
        clear heq
        by_cases h1 : q1 = a
        · obtain rfl : a = q1 := h1.symm
          have hq1 : (a == a) = true := by simp
          have h2 : (q2 == b) = false := by simp only [beq_eq_false_iff_ne, ne_eq]; exact hne rfl
          clear hne
          go_wp2_with fail
          go_round
          case rel => exact ⟨k + 1, by omega, by go_num, HW⟩
          case measure => simp [intOf]; omega
        · have h2 : (q1 == a) = false := by simp only [beq_eq_false_iff_ne, ne_eq]; exact h1
          clear hne h1
          go_wp2_with fail
          go_round
          case rel => exact ⟨k + 1, by omega, by go_num, HW⟩
          case measure => simp [intOf]; omega
    · obtain rfl : k = l.length := by omega
      obtain rfl := HF.out (fun h => by
        obtain ⟨j, hj, e⟩ := List.getElem_of_mem h
        exact hw.out j hj hj e)
      go_wp2_with fail
      go_ret
      exact ⟨rfl, HB.out⟩

set_option maxRecDepth 10000 in
set_option maxHeartbeats 1600000 in
theorem isCut_gt (n : Net) (a b : Int) (w : World) (hi : n.In ok w) (hab : b < a) : Calls Try.prog 39 #[n.v, .int .i64 a, .int .i64 b] w fun e w' => e = .returned (.bool (n.a.l.contains (b, a))) ∧ Below w.heap.size w w' := by
  obtain ⟨⟨qA, ql, qc⟩, ⟨aA, l, cap⟩⟩ := n
  have HI := hide hi
  have hle : l.length ≤ cap := hi.a.a.le
  have hcap : cap ≤ 9223372036854775807 := hi.a.a.top
  have HB := hide (below_new w (.cells #[.slice qA ql.length qc, .slice aA l.length cap] 25))
  have HX := hide (Blk.new w 25 [.slice qA ql.length qc, .slice aA l.length cap])
  have HT := hide (show (b, a) ∈ l → l.contains (b, a) = true from fun h => by simpa using h)
  have HF := hide (show ¬ (b, a) ∈ l → l.contains (b, a) = false from fun h => by simpa using h)
  generalize l.contains (b, a) = r at *
  have h1 : ¬ a ≤ b := by omega
  have h2 : ¬ a < b := by omega
  clear hi
  go_enter Try.func39, Try.ntmps39
  go_wp2_with fail
  generalize hw1 : (w.alloc (.cells #[.slice qA ql.length qc, .slice aA l.length cap] 25)) = w1 at *
  clear hw1
  go_loop [7] (fun i => ∃ k : Nat, k ≤ l.length ∧ i = .int .i64 k ∧ Hid (∀ j (h : j < l.length), j < k → l[j] ≠ (b, a))) (fun i => l.length - (intOf i).toNat)
  case atStart => exact ⟨0, Nat.zero_le _, rfl, hide (by intros; omega)⟩
  case round =>
    obtain ⟨k, hk, rfl, hw⟩ := hrel
    obtain ⟨e0, e1⟩ := HX.out.c2
    by_cases hlt : k < l.length
    · obtain ⟨bb, o, hA, hb0, c0, c1⟩ := ((HI.out.below HB.out).a).at hlt
      simp only at hA
      subst hA
      by_cases heq : l[k] = (b, a)
      · obtain rfl := HT.out (heq ▸ List.getElem_mem hlt)
        rw [heq] at c0 c1
        clear heq
        have hq1 : (b == b) = true := by simp
        have hq2 : (a == a) = true := by simp
        go_wp2_with fail
        go_ret
        exact ⟨rfl, HB.out⟩
      · have HW := hide (show ∀ j (h : j < l.length), j < k + 1 → l[j] ≠ (b, a) from fun j h hj => by
          by_cases e : j = k
          · subst e; exact heq
          · exact hw.out j h (by omega))
        rcases hq : l[k] with ⟨q1, q2⟩
        rw [hq] at c0 c1 heq
        clear hq
        have hne : q1 = b → q2 = a → False := fun h1 h2 => heq (by rw [h1, h2])
        clear heq
        by_cases h1 : q1 = b
        · obtain rfl : b = q1 := h1.symm
          have hq1 : (b == b) = true := by simp
          have h2 : (q2 == a) = false := by simp only [beq_eq_false_iff_ne, ne_eq]; exact hne rfl
          clear hne
          go_wp2_with fail
          go_round
          case rel => exact ⟨k + 1, by omega, by go_num, HW⟩
          case measure => simp [intOf]; omega
        · have h2 : (q1 == b) = false := by simp only [beq_eq_false_iff_ne, ne_eq]; exact h1
          clear hne h1
          go_wp2_with fail
          go_round
          case rel => exact ⟨k + 1, by omega, by go_num, HW⟩
          case measure => simp [intOf]; omega
    · obtain rfl : k = l.length := by omega
      obtain rfl := HF.out (fun h => by
        obtain ⟨j, hj, e⟩ := List.getElem_of_mem h
        exact hw.out j hj hj e)
      go_wp2_with fail
      go_ret
      exact ⟨rfl, HB.out⟩

set_option maxRecDepth 10000 in
set_option maxHeartbeats 1600000 in
theorem isCut_eq (n : Net) (a : Int) (w : World) (hi : n.In ok w) : Calls Try.prog 39 #[n.v, .int .i64 a, .int .i64 a] w fun e w' => e = .returned (.bool (n.a.l.contains (a, a))) ∧ Below w.heap.size w w' := by
  obtain ⟨⟨qA, ql, qc⟩, ⟨aA, l, cap⟩⟩ := n
  have HI := hide hi
  have hle : l.length ≤ cap := hi.a.a.le
  have hcap : cap ≤ 9223372036854775807 := hi.a.a.top
  have HB := hide (below_new w (.cells #[.slice qA ql.length qc, .slice aA l.length cap] 25))
  have HX := hide (Blk.new w 25 [.slice qA ql.length qc, .slice aA l.length cap])
  have HT := hide (show (a, a) ∈ l → l.contains (a, a) = true from fun h => by simpa using h)
  have HF := hide (show ¬ (a, a) ∈ l → l.contains (a, a) = false from fun h => by simpa using h)
  generalize l.contains (a, a) = r at *
  clear hi
  go_enter Try.func39, Try.ntmps39
  go_wp2_with fail
  generalize hw1 : (w.alloc (.cells #[.slice qA ql.length qc, .slice aA l.length cap] 25)) = w1 at *
  clear hw1
  go_loop [7] (fun i => ∃ k : Nat, k ≤ l.length ∧ i = .int .i64 k ∧ Hid (∀ j (h : j < l.length), j < k → l[j] ≠ (a, a))) (fun i => l.length - (intOf i).toNat)
  case atStart => exact ⟨0, Nat.zero_le _, rfl, hide (by intros; omega)⟩
  case round =>
    obtain ⟨k, hk, rfl, hw⟩ := hrel
    obtain ⟨e0, e1⟩ := HX.out.c2
    by_cases hlt : k < l.length
    · obtain ⟨bb, o, hA, hb0, c0, c1⟩ := ((HI.out.below HB.out).a).at hlt
      simp only at hA
      subst hA
      by_cases heq : l[k] = (a, a)
      · obtain rfl := HT.out (heq ▸ List.getElem_mem hlt)
        rw [heq] at c0 c1
        clear heq
        have hq1 : (a == a) = true := by simp
        have hq2 : (a == a) = true := by simp
        go_wp2_with fail
        go_ret
        exact ⟨rfl, HB.out⟩
      · have HW := hide (show ∀ j (h : j < l.length), j < k + 1 → l[j] ≠ (a, a) from fun j h hj => by
          by_cases e : j = k
          · subst e; exact heq
          · exact hw.out j h (by omega))
        rcases hq : l[k] with ⟨q1, q2⟩
        rw [hq] at c0 c1 heq
        clear hq
        have hne : q1 = a → q2 = a → False := fun h1 h2 => heq (by rw [h1, h2])
        clear heq
        by_cases h1 : q1 = a
        · obtain rfl : a = q1 := h1.symm
          have hq1 : (a == a) = true := by simp
          have h2 : (q2 == a) = false := by simp only [beq_eq_false_iff_ne, ne_eq]; exact hne rfl
          clear hne
          go_wp2_with fail
          go_round
          case rel => exact ⟨k + 1, by omega, by go_num, HW⟩
          case measure => simp [intOf]; omega
        · have h2 : (q1 == a) = false := by simp only [beq_eq_false_iff_ne, ne_eq]; exact h1
          clear hne h1
          go_wp2_with fail
          go_round
          case rel => exact ⟨k + 1, by omega, by go_num, HW⟩
          case measure => simp [intOf]; omega
    · obtain rfl : k = l.length := by omega
      obtain rfl := HF.out (fun h => by
        obtain ⟨j, hj, e⟩ := List.getElem_of_mem h
        exact hw.out j hj hj e)
      go_wp2_with fail
      go_ret
      exact ⟨rfl, HB.out⟩

theorem isCut_any (n : Net) (a b : Int) (w : World) (hi : n.In ok w) : Calls Try.prog 39 #[n.v, .int .i64 a, .int .i64 b] w fun e w' => e = .returned (.bool (n.d.isCut a b)) ∧ Below w.heap.size w w' := by
  rcases Int.lt_trichotomy a b with h | h | h
  · have := isCut_lt n a b w hi h
    rwa [show n.a.l.contains (a, b) = n.d.isCut a b by unfold Nt.isCut pairN; rw [Int.min_eq_left (by omega), Int.max_eq_right (by omega)]; rfl] at this
  · subst h
    have := isCut_eq n a w hi
    rwa [show n.a.l.contains (a, a) = n.d.isCut a a by unfold Nt.isCut pairN; simp; rfl] at this
  · have := isCut_gt n a b w hi h
    rwa [show n.a.l.contains (b, a) = n.d.isCut a b by unfold Nt.isCut pairN; rw [Int.min_eq_right (by omega), Int.max_eq_left (by omega)]; rfl] at this
end Go.Proofs.Ythmaakiibgdigaa
