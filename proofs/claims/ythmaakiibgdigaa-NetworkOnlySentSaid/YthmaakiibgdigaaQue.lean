/- Packets and queues: valid? -/
import Derived.Test.YthmaakiibgdigaaVal
namespace Go.Proofs.Ythmaakiibgdigaa
open Go.RowKit
variable {ok : Nat → Prop}

set_option maxRecDepth 10000 in
theorem rpacket_any (p : Pkt) (w : World) (hl : p.s.l.length ≤ p.s.cap) (hc : p.s.cap ≤ 9223372036854775807) : Calls Try.prog 30 #[p.v] w fun e w' => e = .returned (.bool (pkB p.d)) ∧ Below w.heap.size w w' := by
  obtain ⟨fr, to, ⟨A, l, cap⟩⟩ := p
  simp only at hl hc
  have HB := hide (below_new w (.cells #[.int .i64 fr, .int .i64 to, .slice A l.length cap] 28))
  have HD := hide (show pkB (Pkt.d ⟨fr, to, ⟨A, l, cap⟩⟩) = (siteB fr && siteB to && decide (fr ≠ to) && decide (l.length ≤ 1048576)) from rfl)
  cases hx : siteB fr with
  | false =>
    have HF := hide (show pkB (Pkt.d ⟨fr, to, ⟨A, l, cap⟩⟩) = false by rw [HD.out, hx]; rfl)
    have HC := hide (fun W => site_is hx W)
    clear hx
    go_enter Try.func30, Try.ntmps30
    go_wp2_with fail
    refine (HC.out _).mono ?_
    rintro e w' ⟨rfl, rfl⟩
    go_wp2_with fail
    go_ret
    exact ⟨by rw [HF.out]; rfl, HB.out⟩
  | true =>
    have HC := hide (fun W => site_is hx W)
    cases hy : siteB to with
    | false =>
      have HF := hide (show pkB (Pkt.d ⟨fr, to, ⟨A, l, cap⟩⟩) = false by rw [HD.out, hx, hy]; rfl)
      have HE := hide (fun W => site_is hy W)
      clear hx hy
      go_enter Try.func30, Try.ntmps30
      go_wp2_with fail
      refine (HC.out _).mono ?_
      rintro e w' ⟨rfl, rfl⟩
      go_wp2_with fail
      refine (HE.out _).mono ?_
      rintro e w' ⟨rfl, rfl⟩
      go_wp2_with fail
      go_ret
      exact ⟨by rw [HF.out]; rfl, HB.out⟩
    | true =>
      have HE := hide (fun W => site_is hy W)
      by_cases hxy : fr = to
      · have HF := hide (show pkB (Pkt.d ⟨fr, to, ⟨A, l, cap⟩⟩) = false by rw [HD.out, hx, hy]; simp [hxy])
        have hne : (fr != to) = false := by simp [hxy]
        clear hx hy hxy
        go_enter Try.func30, Try.ntmps30
        go_wp2_with fail
        refine (HC.out _).mono ?_
        rintro e w' ⟨rfl, rfl⟩
        go_wp2_with fail
        refine (HE.out _).mono ?_
        rintro e w' ⟨rfl, rfl⟩
        go_wp2_with fail
        go_ret
        exact ⟨by rw [HF.out]; rfl, HB.out⟩
      · have hne : (fr != to) = true := by simp [hxy]
        by_cases h1 : l.length ≤ 1048576
        · have HF := hide (show pkB (Pkt.d ⟨fr, to, ⟨A, l, cap⟩⟩) = true by rw [HD.out, hx, hy]; simp [h1, hxy])
          clear hx hy hxy
          have h1' : (l.length : Int) ≤ 1048576 := by omega
          go_enter Try.func30, Try.ntmps30
          go_wp2_with fail
          refine (HC.out _).mono ?_
          rintro e w' ⟨rfl, rfl⟩
          go_wp2_with fail
          refine (HE.out _).mono ?_
          rintro e w' ⟨rfl, rfl⟩
          go_wp2_with fail
          go_ret
          exact ⟨by rw [HF.out]; rfl, HB.out⟩
        · have HF := hide (show pkB (Pkt.d ⟨fr, to, ⟨A, l, cap⟩⟩) = false by rw [HD.out, hx, hy]; simp [h1])
          clear hx hy hxy
          have h1' : decide ((l.length : Int) ≤ 1048576) = false := by simp; omega
          go_enter Try.func30, Try.ntmps30
          go_wp2_with fail
          refine (HC.out _).mono ?_
          rintro e w' ⟨rfl, rfl⟩
          go_wp2_with fail
          refine (HE.out _).mono ?_
          rintro e w' ⟨rfl, rfl⟩
          go_wp2_with fail
          go_ret
          exact ⟨by rw [HF.out]; rfl, HB.out⟩
theorem rpacket_is {p : Pkt} {b : Bool} (h : pkB p.d = b) (w : World) (hi : p.In ok w) : Calls Try.prog 30 #[p.v] w fun e w' => e = .returned (.bool b) ∧ Below w.heap.size w w' := h ▸ rpacket_any p w hi.s.le hi.s.top

set_option maxRecDepth 10000 in
set_option maxHeartbeats 800000 in
theorem queue_any (A : Option Addr) (l : List Pkt) (cap : Nat) (w : World) (hi : PksIn ok ⟨A, l, cap⟩ w) : Calls Try.prog 31 #[.slice A l.length cap] w fun e w' => e = .returned (.bool (quB (l.map Pkt.d))) ∧ Below w.heap.size w w' := by
  have HI := hide hi
  have hle : l.length ≤ cap := hi.q.le
  have hcap : cap ≤ 9223372036854775807 := hi.q.top
  have HIFF := hide (quB_iff (l := l.map Pkt.d))
  clear hi
  by_cases h1 : 4096 < l.length
  · have HF := hide (show quB (l.map Pkt.d) = false from bool_false fun h => by have := (HIFF.out.1 h).1; rw [List.length_map] at this; omega)
    have h1' : (4096 : Int) < l.length := by omega
    go_enter Try.func31, Try.ntmps31
    go_wp2_with fail
    go_ret
    exact ⟨by rw [HF.out]; rfl, Below.refl _ _⟩
  · have h1' : ¬ (4096 : Int) < l.length := by omega
    go_enter Try.func31, Try.ntmps31
    go_wp2_with fail
    go_loopw [10, 4] (fun i _ wr => ∃ k : Nat, k ≤ l.length ∧ i = .int .i64 k ∧ Hid (∀ j (h : j < l.length), j < k → pkB (l[j]).d = true) ∧ Hid (Below w.heap.size w wr)) (fun i _ _ => l.length - (intOf i).toNat)
    case atStart => exact ⟨0, Nat.zero_le _, rfl, hide (by intros; omega), hide (Below.refl _ _)⟩
    case round =>
      obtain ⟨k, hk, rfl, hw, hb⟩ := hrel
      by_cases hlt : k < l.length
      · obtain ⟨b, o, hA, hb0, c0, c1, c2⟩ := (HI.out.below hb.out).at hlt
        simp only at hA
        subst hA
        have HIP := hide ((HI.out.below hb.out).p _ (List.getElem_mem hlt))
        have HB1 := hide (below_one hb.out (below_new wr (.cells #[.int .i64 l[k].fr, .int .i64 l[k].to, .slice l[k].s.A l[k].s.l.length l[k].s.cap] 28)))
        cases hp : pkB (l[k]).d with
        | true =>
          have HW := hide (show ∀ j (h : j < l.length), j < k + 1 → pkB (l[j]).d = true from fun j h hj => by
            by_cases e : j = k
            · subst e; exact hp
            · exact hw.out j h (by omega))
          have HC := hide (packet_is hp (wr.alloc (.cells #[.int .i64 l[k].fr, .int .i64 l[k].to, .slice l[k].s.A l[k].s.l.length l[k].s.cap] 28)) (HIP.out.below (below_new _ _)))
          clear hp
          generalize l[k] = s at *
          go_wp2_with fail
          refine HC.out.mono ?_
          rintro e w2 ⟨rfl, hb2⟩
          have HB2 := hide (below_one HB1.out hb2)
          clear hb2
          go_wp2_with fail
          go_roundw
          case rel => exact ⟨k + 1, by omega, by go_num, HW, HB2⟩
          case measure => simp [intOf]; omega
        | false =>
          have HF := hide (show quB (l.map Pkt.d) = false from bool_false fun h => by
            have := (HIFF.out.1 h).2 k (by simpa using hlt)
            rw [List.getElem_map, hp] at this
            cases this)
          have HC := hide (packet_is hp (wr.alloc (.cells #[.int .i64 l[k].fr, .int .i64 l[k].to, .slice l[k].s.A l[k].s.l.length l[k].s.cap] 28)) (HIP.out.below (below_new _ _)))
          clear hp
          generalize l[k] = s at *
          go_wp2_with fail
          refine HC.out.mono ?_
          rintro e w2 ⟨rfl, hb2⟩
          have HB2 := hide (below_one HB1.out hb2)
          clear hb2
          go_wp2_with fail
          go_ret
          exact ⟨by rw [HF.out]; rfl, HB2.out⟩
      · obtain rfl : k = l.length := by omega
        have HT := hide (show quB (l.map Pkt.d) = true from HIFF.out.2 ⟨by rw [List.length_map]; omega, fun i h => by rw [List.getElem_map]; exact hw.out i (by simpa using h) (by simpa using h)⟩)
        go_wp2_with fail
        go_ret
        exact ⟨by rw [HT.out]; rfl, hb.out⟩
theorem queue_is {q : Sl Pkt} {b : Bool} (h : quB (q.l.map Pkt.d) = b) (w : World) (hi : PksIn ok q w) : Calls Try.prog 31 #[.slice q.A q.l.length q.cap] w fun e w' => e = .returned (.bool b) ∧ Below w.heap.size w w' := h ▸ queue_any q.A q.l q.cap w hi
end Go.Proofs.Ythmaakiibgdigaa
