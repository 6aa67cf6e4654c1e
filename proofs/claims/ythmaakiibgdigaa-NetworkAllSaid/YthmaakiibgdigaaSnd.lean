/- Send. -/
import Derived.Test.YthmaakiibgdigaaQud
import Derived.Test.YthmaakiibgdigaaAsk
namespace Go.Proofs.Ythmaakiibgdigaa
open Go.RowKit
variable {ok : Nat → Prop}

set_option maxRecDepth 10000 in
set_option maxHeartbeats 1600000 in
theorem send_any (n : Net) (p : Pkt) (w : World) (hok : ∀ b, w.heap.size ≤ b → ok b) (hi : n.In ok w) (hp : p.In ok w) : Calls Try.prog 11 #[n.v, p.v] w (Ans ok w (n.d.send p.d)) := by
  obtain ⟨⟨qA, ql, qc⟩, ⟨aA, al, ac⟩⟩ := n
  obtain ⟨fr, to, ⟨sA, sl, sc⟩⟩ := p
  have hle : ql.length ≤ qc := hi.q.q.le
  have hcap : qc ≤ 9223372036854775807 := hi.q.q.top
  have HB := hide (show Below w.heap.size w (((w.alloc (.cells #[.slice qA ql.length qc, .slice aA al.length ac] 25)).alloc (.cells #[.int .i64 fr, .int .i64 to, .slice sA sl.length sc] 28)).alloc (.cells #[.slice none 0 0, .slice none 0 0] 25)) from ((below_new _ _).alloc (by simp) _).alloc (by simp only [World.size_alloc]; omega) _)
  have HX0 := hide (show Blk (((w.alloc (.cells #[.slice qA ql.length qc, .slice aA al.length ac] 25)).alloc (.cells #[.int .i64 fr, .int .i64 to, .slice sA sl.length sc] 28)).alloc (.cells #[.slice none 0 0, .slice none 0 0] 25)) w.heap.size 25 [.slice qA ql.length qc, .slice aA al.length ac] from ((Blk.new w 25 [.slice qA ql.length qc, .slice aA al.length ac]).alloc _).alloc _)
  have b1 := (Blk.new (w.alloc (.cells #[.slice qA ql.length qc, .slice aA al.length ac] 25)) 28 [.int .i64 fr, .int .i64 to, .slice sA sl.length sc]).alloc (.cells #[.slice none 0 0, .slice none 0 0] 25)
  have b2 := Blk.new ((w.alloc (.cells #[.slice qA ql.length qc, .slice aA al.length ac] 25)).alloc (.cells #[.int .i64 fr, .int .i64 to, .slice sA sl.length sc] 28)) 25 [.slice none 0 0, .slice none 0 0]
  simp only [World.size_alloc, Nat.add_assoc, Nat.reduceAdd] at b1 b2
  have HX1 := hide b1
  have HX2 := hide b2
  have HZ := hide (show w.heap.size < (((w.alloc (.cells #[.slice qA ql.length qc, .slice aA al.length ac] 25)).alloc (.cells #[.int .i64 fr, .int .i64 to, .slice sA sl.length sc] 28)).alloc (.cells #[.slice none 0 0, .slice none 0 0] 25)).heap.size ∧ w.heap.size + 1 < (((w.alloc (.cells #[.slice qA ql.length qc, .slice aA al.length ac] 25)).alloc (.cells #[.int .i64 fr, .int .i64 to, .slice sA sl.length sc] 28)).alloc (.cells #[.slice none 0 0, .slice none 0 0] 25)).heap.size ∧ (((w.alloc (.cells #[.slice qA ql.length qc, .slice aA al.length ac] 25)).alloc (.cells #[.int .i64 fr, .int .i64 to, .slice sA sl.length sc] 28)).alloc (.cells #[.slice none 0 0, .slice none 0 0] 25)).heap.size = w.heap.size + 3 ∧ w.heap.size + 2 < (((w.alloc (.cells #[.slice qA ql.length qc, .slice aA al.length ac] 25)).alloc (.cells #[.int .i64 fr, .int .i64 to, .slice sA sl.length sc] 28)).alloc (.cells #[.slice none 0 0, .slice none 0 0] 25)).heap.size by refine ⟨?_, ?_, ?_, ?_⟩ <;> simp only [World.size_alloc] <;> omega)
  clear b1 b2
  have HI := hide hi
  have HP := hide hp
  have HNEW := hide (show ∀ x, w.heap.size + 3 ≤ x → okX ok w.heap.size (w.heap.size + 3) x from okX_new hok (by omega))
  clear hi hp
  cases hc : (Net.d ⟨⟨qA, ql, qc⟩, ⟨aA, al, ac⟩⟩).chk with
  | false =>
    have HC := hide (check_no hc (((w.alloc (.cells #[.slice qA ql.length qc, .slice aA al.length ac] 25)).alloc (.cells #[.int .i64 fr, .int .i64 to, .slice sA sl.length sc] 28)).alloc (.cells #[.slice none 0 0, .slice none 0 0] 25)) (HI.out.below HB.out))
    have HX := hide (show (Net.d ⟨⟨qA, ql, qc⟩, ⟨aA, al, ac⟩⟩).send (Pkt.d ⟨fr, to, ⟨sA, sl, sc⟩⟩) = (Nt.zero, 60) by unfold Nt.send; rw [hc]; rfl)
    clear hc
    go_enter Try.func11, Try.ntmps11
    go_wp2_with fail
    refine HC.out.mono ?_
    rintro e w1 ⟨rfl, hb⟩
    have HK := hide (below_one HB.out hb)
    have HRR := hide (HX2.out.below hb HX2.out.lt)
    clear hb
    go_wp2_with (refine wpList_store_row rfl 25 (.tmp 4) (.tmp 14) rfl (w.heap.size + 2) #[.slice none 0 0, .slice none 0 0] rfl rfl 25 _ HRR.out Try.size25 rfl (one25 _ _ _ _ _ _) ?_)
    exact bodyPost_ret (v := .tuple #[Net.zero.v, .int .i64 60]) (results_cell_row_tmp rfl _ _ (w.heap.size + 2) 25 #[.slice none 0 0, .slice none 0 0] (0, 0) _ (.int .i64 60) rfl rfl (setRow_heap _ _ _ _ _ _ HRR.out) Try.underlying25 rfl Try.size25) rfl (Ans.zero HX.out (below_setRow HK.out (by omega) _))
  | true =>
    have HC := hide (check_ok hc (((w.alloc (.cells #[.slice qA ql.length qc, .slice aA al.length ac] 25)).alloc (.cells #[.int .i64 fr, .int .i64 to, .slice sA sl.length sc] 28)).alloc (.cells #[.slice none 0 0, .slice none 0 0] 25)) (HI.out.below HB.out))
    cases hp : pkB (Pkt.d ⟨fr, to, ⟨sA, sl, sc⟩⟩) with
    | false =>
      have HE := hide (fun W (hW : Below w.heap.size w W) => packet_is hp W (HP.out.below hW))
      have HX := hide (show (Net.d ⟨⟨qA, ql, qc⟩, ⟨aA, al, ac⟩⟩).send (Pkt.d ⟨fr, to, ⟨sA, sl, sc⟩⟩) = (Nt.zero, 60) by unfold Nt.send; rw [hc, hp]; rfl)
      clear hc hp
      go_enter Try.func11, Try.ntmps11
      go_wp2_with fail
      refine HC.out.mono ?_
      rintro e w1 ⟨rfl, hb⟩
      have HK1 := hide (below_one HB.out hb)
      have HR1 := hide (HX2.out.below hb HX2.out.lt)
      obtain ⟨d0, d1, d2⟩ := (HX1.out.below hb HX1.out.lt).c3
      clear hb
      go_wp2_with fail
      refine (HE.out _ HK1.out).mono ?_
      rintro e w2 ⟨rfl, hb⟩
      have HK := hide (below_one HK1.out hb)
      have HRR := hide (HR1.out.below hb HR1.out.lt)
      clear hb d0 d1 d2
      go_wp2_with (refine wpList_store_row rfl 25 (.tmp 4) (.tmp 14) rfl (w.heap.size + 2) #[.slice none 0 0, .slice none 0 0] rfl rfl 25 _ HRR.out Try.size25 rfl (one25 _ _ _ _ _ _) ?_)
      exact bodyPost_ret (v := .tuple #[Net.zero.v, .int .i64 60]) (results_cell_row_tmp rfl _ _ (w.heap.size + 2) 25 #[.slice none 0 0, .slice none 0 0] (0, 0) _ (.int .i64 60) rfl rfl (setRow_heap _ _ _ _ _ _ HRR.out) Try.underlying25 rfl Try.size25) rfl (Ans.zero HX.out (below_setRow HK.out (by omega) _))
    | true =>
      have HE := hide (fun W (hW : Below w.heap.size w W) => packet_is hp W (HP.out.below hW))
      have HX := hide (show (Net.d ⟨⟨qA, ql, qc⟩, ⟨aA, al, ac⟩⟩).send (Pkt.d ⟨fr, to, ⟨sA, sl, sc⟩⟩) = (Net.d ⟨⟨qA, ql, qc⟩, ⟨aA, al, ac⟩⟩).put (Pkt.d ⟨fr, to, ⟨sA, sl, sc⟩⟩) by unfold Nt.send; rw [hc, hp]; rfl)
      have HLEN := hide (show ql.length ≤ 4096 by have := chk_len hc; rwa [net_len] at this)
      have HQD := hide (fun W (hW : Below w.heap.size w W) (hz : w.heap.size + 3 ≤ W.heap.size) => queued_any (ok := okX ok w.heap.size (w.heap.size + 3)) ⟨⟨qA, ql, qc⟩, ⟨aA, al, ac⟩⟩ ⟨fr, to, ⟨sA, sl, sc⟩⟩ W (fun b hb => HNEW.out b (Nat.le_trans hz hb)) ((HI.out.weak okX_old).below hW) ((HP.out.weak okX_old).below hW) HLEN.out)
      clear hc hp
      go_enter Try.func11, Try.ntmps11
      go_wp2_with fail
      refine HC.out.mono ?_
      rintro e w1 ⟨rfl, hb⟩
      have HK1 := hide (below_one HB.out hb)
      have HA1 := hide (HX0.out.below hb HX0.out.lt)
      have HP1 := hide (HX1.out.below hb HX1.out.lt)
      have HR1 := hide (HX2.out.below hb HX2.out.lt)
      obtain ⟨d0, d1, d2⟩ := HP1.out.c3
      clear hb
      go_wp2_with fail
      refine (HE.out _ HK1.out).mono ?_
      rintro e w2 ⟨rfl, hb⟩
      have HK2 := hide (below_one HK1.out hb)
      have HA2 := hide (HA1.out.below hb HA1.out.lt)
      have HP2 := hide (HP1.out.below hb HP1.out.lt)
      have HR2 := hide (HR1.out.below hb HR1.out.lt)
      clear hb d0 d1 d2
      obtain ⟨c0, c1⟩ := HA2.out.c2
      obtain ⟨d0, d1, d2⟩ := HP2.out.c3
      go_wp2_with fail
      refine (HQD.out _ HK2.out (by have := HR2.out.lt; omega)).mono ?_
      rintro e w3 ⟨n', rfl, hd, hin, hb⟩
      have HK := hide (below_one HK2.out hb)
      have HRR := hide (HR2.out.below hb HR2.out.lt)
      have HD := hide hd
      have HIN := hide hin
      clear hb hd hin c0 c1 d0 d1 d2
      go_wp2_with (refine wpList_store_row rfl 25 (.tmp 4) (.tmp 18) rfl (w.heap.size + 2) #[.slice n'.q.A n'.q.l.length n'.q.cap, .slice n'.a.A n'.a.l.length n'.a.cap] rfl rfl 25 _ HRR.out Try.size25 rfl (one25 _ _ _ _ _ _) ?_)
      refine bodyPost_ret (v := .tuple #[.agg #[.slice n'.q.A n'.q.l.length n'.q.cap, .slice n'.a.A n'.a.l.length n'.a.cap], .int .i64 _]) (results_cell_row_tmp rfl _ _ (w.heap.size + 2) 25 #[.slice n'.q.A n'.q.l.length n'.q.cap, .slice n'.a.A n'.a.l.length n'.a.cap] (0, 0) _ _ rfl rfl (setRow_heap _ _ _ _ _ _ HRR.out) Try.underlying25 rfl Try.size25) rfl ?_
      exact ⟨n', by rw [HX.out], by rw [HX.out]; exact HD.out, (HIN.out.keep (Kept.row (okX_not (by omega) (by omega)) _)).weak okX_ok, below_setRow HK.out (by omega) _⟩
end Go.Proofs.Ythmaakiibgdigaa
