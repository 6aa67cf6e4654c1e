/- What is valid: parties, packets, queues. -/
import Derived.Test.YthmaakiibgdigaaNet
namespace Go.Proofs.Ythmaakiibgdigaa
open Go.RowKit
variable {ok : Nat → Prop}

set_option maxRecDepth 10000 in
theorem party_any (x : Int) (w : World) : Calls Try.prog 45 #[.int .i64 x] w fun e w' => e = .returned (.bool (siteB x)) ∧ w = w' := by
  have HD := hide (show siteB x = decide (0 ≤ x ∧ x < 24) from rfl)
  by_cases h1 : 0 ≤ x
  · by_cases h2 : x < 24
    · have HF := hide (show siteB x = true by rw [HD.out]; simp [h1, h2])
      go_enter Try.func45, Try.ntmps45
      go_wp2_with fail
      go_ret
      exact ⟨by rw [HF.out]; rfl, rfl⟩
    · have HF := hide (show siteB x = false by rw [HD.out]; simp [h1, h2])
      have h2' : decide (x < 24) = false := by simp; omega
      go_enter Try.func45, Try.ntmps45
      go_wp2_with fail
      go_ret
      exact ⟨by rw [HF.out]; rfl, rfl⟩
  · have HF := hide (show siteB x = false by rw [HD.out]; simp [h1])
    have h1' : x < 0 := by omega
    go_enter Try.func45, Try.ntmps45
    go_wp2_with fail
    go_ret
    exact ⟨by rw [HF.out]; rfl, rfl⟩
set_option maxRecDepth 10000 in
theorem site_any (x : Int) (w : World) : Calls Try.prog 33 #[.int .i64 x] w fun e w' => e = .returned (.bool (siteB x)) ∧ w = w' := by
  have HD := hide (show siteB x = decide (0 ≤ x ∧ x < 24) from rfl)
  by_cases h1 : 0 ≤ x
  · by_cases h2 : x < 24
    · have HF := hide (show siteB x = true by rw [HD.out]; simp [h1, h2])
      go_enter Try.func33, Try.ntmps33
      go_wp2_with fail
      go_ret
      exact ⟨by rw [HF.out]; rfl, rfl⟩
    · have HF := hide (show siteB x = false by rw [HD.out]; simp [h1, h2])
      have h2' : decide (x < 24) = false := by simp; omega
      go_enter Try.func33, Try.ntmps33
      go_wp2_with fail
      go_ret
      exact ⟨by rw [HF.out]; rfl, rfl⟩
  · have HF := hide (show siteB x = false by rw [HD.out]; simp [h1])
    have h1' : x < 0 := by omega
    go_enter Try.func33, Try.ntmps33
    go_wp2_with fail
    go_ret
    exact ⟨by rw [HF.out]; rfl, rfl⟩
theorem party_is {x : Int} {b : Bool} (h : siteB x = b) (w : World) : Calls Try.prog 45 #[.int .i64 x] w fun e w' => e = .returned (.bool b) ∧ w = w' := h ▸ party_any x w
theorem site_is {x : Int} {b : Bool} (h : siteB x = b) (w : World) : Calls Try.prog 33 #[.int .i64 x] w fun e w' => e = .returned (.bool b) ∧ w = w' := h ▸ site_any x w

set_option maxRecDepth 10000 in
theorem parties_any (x y : Int) (w : World) : Calls Try.prog 34 #[.int .i64 x, .int .i64 y] w fun e w' => e = .returned (.bool (partB x y)) ∧ w = w' := by
  have HD := hide (show partB x y = (siteB x && siteB y && decide (x ≠ y)) from rfl)
  have HX := hide (fun b (h : siteB x = b) W => party_is h W)
  have HY := hide (fun b (h : siteB y = b) W => party_is h W)
  cases hx : siteB x with
  | false =>
    have HF := hide (show partB x y = false by rw [HD.out, hx]; rfl)
    have HC := hide (HX.out _ hx)
    clear hx
    go_enter Try.func34, Try.ntmps34
    go_wp2_with fail
    refine (HC.out _).mono ?_
    rintro e w' ⟨rfl, rfl⟩
    go_wp2_with fail
    go_ret
    exact ⟨by rw [HF.out]; rfl, rfl⟩
  | true =>
    have HC := hide (HX.out _ hx)
    cases hy : siteB y with
    | false =>
      have HF := hide (show partB x y = false by rw [HD.out, hx, hy]; rfl)
      have HE := hide (HY.out _ hy)
      clear hx hy
      go_enter Try.func34, Try.ntmps34
      go_wp2_with fail
      refine (HC.out _).mono ?_
      rintro e w' ⟨rfl, rfl⟩
      go_wp2_with fail
      refine (HE.out _).mono ?_
      rintro e w' ⟨rfl, rfl⟩
      go_wp2_with fail
      go_ret
      exact ⟨by rw [HF.out]; rfl, rfl⟩
    | true =>
      have HE := hide (HY.out _ hy)
      by_cases hxy : x = y
      · have HF := hide (show partB x y = false by rw [HD.out, hx, hy]; simp [hxy])
        clear hx hy
        have hne : (x != y) = false := by simp [hxy]
        clear hxy
        go_enter Try.func34, Try.ntmps34
        go_wp2_with fail
        refine (HC.out _).mono ?_
        rintro e w' ⟨rfl, rfl⟩
        go_wp2_with fail
        refine (HE.out _).mono ?_
        rintro e w' ⟨rfl, rfl⟩
        go_wp2_with fail
        go_ret
        exact ⟨by rw [HF.out]; rfl, rfl⟩
      · have HF := hide (show partB x y = true by rw [HD.out, hx, hy]; simp [hxy])
        clear hx hy
        have hne : (x != y) = true := by simp [hxy]
        clear hxy
        go_enter Try.func34, Try.ntmps34
        go_wp2_with fail
        refine (HC.out _).mono ?_
        rintro e w' ⟨rfl, rfl⟩
        go_wp2_with fail
        refine (HE.out _).mono ?_
        rintro e w' ⟨rfl, rfl⟩
        go_wp2_with fail
        go_ret
        exact ⟨by rw [HF.out]; rfl, rfl⟩
theorem parties_is {x y : Int} {b : Bool} (h : partB x y = b) (w : World) : Calls Try.prog 34 #[.int .i64 x, .int .i64 y] w fun e w' => e = .returned (.bool b) ∧ w = w' := h ▸ parties_any x y w

set_option maxRecDepth 10000 in
theorem packet_any (p : Pkt) (w : World) (hl : p.s.l.length ≤ p.s.cap) (hc : p.s.cap ≤ 9223372036854775807) : Calls Try.prog 28 #[p.v] w fun e w' => e = .returned (.bool (pkB p.d)) ∧ Below w.heap.size w w' := by
  obtain ⟨fr, to, ⟨A, l, cap⟩⟩ := p
  simp only at hl hc
  have HB := hide (below_new w (.cells #[.int .i64 fr, .int .i64 to, .slice A l.length cap] 28))
  have HD := hide (show pkB (Pkt.d ⟨fr, to, ⟨A, l, cap⟩⟩) = (partB fr to && decide (l.length ≤ 1048576)) from rfl)
  cases hx : partB fr to with
  | false =>
    have HF := hide (show pkB (Pkt.d ⟨fr, to, ⟨A, l, cap⟩⟩) = false by rw [HD.out, hx]; rfl)
    have HC := hide (fun W => parties_is hx W)
    clear hx
    go_enter Try.func28, Try.ntmps28
    go_wp2_with fail
    refine (HC.out _).mono ?_
    rintro e w' ⟨rfl, rfl⟩
    go_wp2_with fail
    go_ret
    exact ⟨by rw [HF.out]; rfl, HB.out⟩
  | true =>
    have HC := hide (fun W => parties_is hx W)
    by_cases h1 : l.length ≤ 1048576
    · have HF := hide (show pkB (Pkt.d ⟨fr, to, ⟨A, l, cap⟩⟩) = true by rw [HD.out, hx]; simp [h1])
      clear hx
      have h1' : (l.length : Int) ≤ 1048576 := by omega
      go_enter Try.func28, Try.ntmps28
      go_wp2_with fail
      refine (HC.out _).mono ?_
      rintro e w' ⟨rfl, rfl⟩
      go_wp2_with fail
      go_ret
      exact ⟨by rw [HF.out]; rfl, HB.out⟩
    · have HF := hide (show pkB (Pkt.d ⟨fr, to, ⟨A, l, cap⟩⟩) = false by rw [HD.out, hx]; simp [h1])
      clear hx
      have h1' : decide ((l.length : Int) ≤ 1048576) = false := by simp; omega
      go_enter Try.func28, Try.ntmps28
      go_wp2_with fail
      refine (HC.out _).mono ?_
      rintro e w' ⟨rfl, rfl⟩
      go_wp2_with fail
      go_ret
      exact ⟨by rw [HF.out]; rfl, HB.out⟩
theorem packet_is {p : Pkt} {b : Bool} (h : pkB p.d = b) (w : World) (hi : p.In ok w) : Calls Try.prog 28 #[p.v] w fun e w' => e = .returned (.bool b) ∧ Below w.heap.size w w' := h ▸ packet_any p w hi.s.le hi.s.top
end Go.Proofs.Ythmaakiibgdigaa
