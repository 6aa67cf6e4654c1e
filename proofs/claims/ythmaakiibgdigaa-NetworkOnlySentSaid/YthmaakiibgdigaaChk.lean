/- Check of the program. -/
import Derived.Test.YthmaakiibgdigaaApr
namespace Go.Proofs.Ythmaakiibgdigaa
open Go.RowKit
variable {ok : Nat → Prop}

set_option maxRecDepth 10000 in
set_option maxHeartbeats 800000 in
theorem check_any (n : Net) (w : World) (hi : n.In ok w) : Calls Try.prog 13 #[n.v] w fun e w' => e = .returned (.int .i64 (n.d.chkI)) ∧ Below w.heap.size w w' := by
  obtain ⟨⟨qA, ql, qc⟩, ⟨aA, al, ac⟩⟩ := n
  have HD := hide (show (Net.d ⟨⟨qA, ql, qc⟩, ⟨aA, al, ac⟩⟩).chk = (quB (ql.map Pkt.d) && apB al) from rfl)
  have hi2 := hi.below (below_new w (.cells #[.slice qA ql.length qc, .slice aA al.length ac] 25))
  have HQ := hide (fun b (h : quB (ql.map Pkt.d) = b) => queue_is (q := ⟨qA, ql, qc⟩) h _ hi2.q)
  have HA := hide (fun b (h : apB al = b) W (hW : Below (w.alloc (.cells #[.slice qA ql.length qc, .slice aA al.length ac] 25)).heap.size (w.alloc (.cells #[.slice qA ql.length qc, .slice aA al.length ac] 25)) W) => apart_is (a := ⟨aA, al, ac⟩) h _ (hi2.a.below hW))
  have HB := hide (below_new w (.cells #[.slice qA ql.length qc, .slice aA al.length ac] 25))
  have HX := hide (Blk.new w 25 [.slice qA ql.length qc, .slice aA al.length ac])
  clear hi hi2
  cases hq : quB (ql.map Pkt.d) with
  | false =>
    have HF := hide (show (Net.d ⟨⟨qA, ql, qc⟩, ⟨aA, al, ac⟩⟩).chk = false by rw [HD.out, hq]; rfl)
    have HC := hide (HQ.out _ hq)
    clear hq
    go_enter Try.func13, Try.ntmps13
    go_wp2_with fail
    refine HC.out.mono ?_
    rintro e w1 ⟨rfl, hb⟩
    have HK := hide (below_one HB.out hb)
    clear hb
    go_wp2_with fail
    go_ret
    exact ⟨by rw [chkI_no HF.out]; rfl, HK.out⟩
  | true =>
    have HC := hide (HQ.out _ hq)
    cases ha : apB al with
    | false =>
      have HF := hide (show (Net.d ⟨⟨qA, ql, qc⟩, ⟨aA, al, ac⟩⟩).chk = false by rw [HD.out, hq, ha]; rfl)
      have HE := hide (HA.out _ ha)
      clear hq ha
      go_enter Try.func13, Try.ntmps13
      go_wp2_with fail
      refine HC.out.mono ?_
      rintro e w1 ⟨rfl, hb⟩
      have HK := hide (below_one HB.out hb)
      have HE1 := hide (HE.out _ hb)
      obtain ⟨c0, c1⟩ := (HX.out.below hb HX.out.lt).c2
      clear hb
      go_wp2_with fail
      refine HE1.out.mono ?_
      rintro e w2 ⟨rfl, hb⟩
      have HK2 := hide (below_one HK.out hb)
      clear hb
      go_wp2_with fail
      go_ret
      exact ⟨by rw [chkI_no HF.out]; rfl, HK2.out⟩
    | true =>
      have HF := hide (show (Net.d ⟨⟨qA, ql, qc⟩, ⟨aA, al, ac⟩⟩).chk = true by rw [HD.out, hq, ha]; rfl)
      have HE := hide (HA.out _ ha)
      clear hq ha
      go_enter Try.func13, Try.ntmps13
      go_wp2_with fail
      refine HC.out.mono ?_
      rintro e w1 ⟨rfl, hb⟩
      have HK := hide (below_one HB.out hb)
      have HE1 := hide (HE.out _ hb)
      obtain ⟨c0, c1⟩ := (HX.out.below hb HX.out.lt).c2
      clear hb
      go_wp2_with fail
      refine HE1.out.mono ?_
      rintro e w2 ⟨rfl, hb⟩
      have HK2 := hide (below_one HK.out hb)
      clear hb
      go_wp2_with fail
      go_ret
      exact ⟨by rw [chkI_ok HF.out]; rfl, HK2.out⟩
theorem check_ok {n : Net} (h : n.d.chk = true) (w : World) (hi : n.In ok w) : Calls Try.prog 13 #[n.v] w fun e w' => e = .returned (.int .i64 0) ∧ Below w.heap.size w w' :=
  (check_any n w hi).mono fun e w' ⟨h1, h2⟩ => ⟨by rw [h1, chkI_ok h], h2⟩
theorem check_no {n : Net} (h : n.d.chk = false) (w : World) (hi : n.In ok w) : Calls Try.prog 13 #[n.v] w fun e w' => e = .returned (.int .i64 60) ∧ Below w.heap.size w w' :=
  (check_any n w hi).mono fun e w' ⟨h1, h2⟩ => ⟨by rw [h1, chkI_no h], h2⟩
end Go.Proofs.Ythmaakiibgdigaa
