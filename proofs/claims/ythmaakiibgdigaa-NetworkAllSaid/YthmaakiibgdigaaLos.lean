/- Lose. -/
import Derived.Test.YthmaakiibgdigaaRSnd
namespace Go.Proofs.Ythmaakiibgdigaa
open Go.RowKit
variable {ok : Nat → Prop}

set_option maxRecDepth 10000 in
set_option maxHeartbeats 1600000 in
theorem lose_any (n : Net) (i : Int) (w : World) (hok : ∀ b, w.heap.size ≤ b → ok b) (hi : n.In ok w) : Calls Try.prog 23 #[n.v, .int .i64 i] w (Ans ok w (n.d.lose i)) := by
  obtain ⟨⟨qA, ql, qc⟩, ⟨aA, al, ac⟩⟩ := n
  have hle : ql.length ≤ qc := hi.q.q.le
  have hcap : qc ≤ 9223372036854775807 := hi.q.q.top
  have HB := hide (show Below w.heap.size w ((w.alloc (.cells #[.slice qA ql.length qc, .slice aA al.length ac] 25)).alloc (.cells #[.slice none 0 0, .slice none 0 0] 25)) from (below_new _ _).alloc (by simp) _)
  have HX0 := hide (show Blk ((w.alloc (.cells #[.slice qA ql.length qc, .slice aA al.length ac] 25)).alloc (.cells #[.slice none 0 0, .slice none 0 0] 25)) w.heap.size 25 [.slice qA ql.length qc, .slice aA al.length ac] from (Blk.new w 25 [.slice qA ql.length qc, .slice aA al.length ac]).alloc _)
  have b2 := Blk.new (w.alloc (.cells #[.slice qA ql.length qc, .slice aA al.length ac] 25)) 25 [.slice none 0 0, .slice none 0 0]
  simp only [World.size_alloc] at b2
  have HX2 := hide b2
  have HZ := hide (show w.heap.size < ((w.alloc (.cells #[.slice qA ql.length qc, .slice aA al.length ac] 25)).alloc (.cells #[.slice none 0 0, .slice none 0 0] 25)).heap.size ∧ w.heap.size + 1 < ((w.alloc (.cells #[.slice qA ql.length qc, .slice aA al.length ac] 25)).alloc (.cells #[.slice none 0 0, .slice none 0 0] 25)).heap.size by refine ⟨?_, ?_⟩ <;> simp only [World.size_alloc] <;> omega)
  clear b2
  have HI := hide hi
  have HNEW := hide (show ∀ x, w.heap.size + 2 ≤ x → okX ok w.heap.size (w.heap.size + 2) x from okX_new hok (by omega))
  clear hi
  by_cases hk : (Net.d ⟨⟨qA, ql, qc⟩, ⟨aA, al, ac⟩⟩).asked i = 0
  · obtain ⟨hc, h0, h1⟩ := asked_zero hk
    have hlen := chk_len hc
    rw [net_len] at h1 hlen
    obtain ⟨j, rfl⟩ := Int.eq_ofNat_of_zero_le h0
    have HX := hide (show (Net.d ⟨⟨qA, ql, qc⟩, ⟨aA, al, ac⟩⟩).lose (j : Int) = ((Net.d ⟨⟨qA, ql, qc⟩, ⟨aA, al, ac⟩⟩).drop j, 0) by unfold Nt.lose; rw [if_pos hk]; rfl)
    have HC := hide (ask_is hk ((w.alloc (.cells #[.slice qA ql.length qc, .slice aA al.length ac] 25)).alloc (.cells #[.slice none 0 0, .slice none 0 0] 25)) (HI.out.below HB.out))
    have HD := hide (fun W (hW : Below w.heap.size w W) (hz : w.heap.size + 2 ≤ W.heap.size) => dropped_any (ok := okX ok w.heap.size (w.heap.size + 2)) ⟨⟨qA, ql, qc⟩, ⟨aA, al, ac⟩⟩ j W (fun b hb => HNEW.out b (Nat.le_trans hz hb)) ((HI.out.weak okX_old).below hW) (by simp only at h1 ⊢; omega) hlen)
    clear hk hc h0 h1 hlen
    go_enter Try.func23, Try.ntmps23
    go_wp2_with fail
    refine HC.out.mono ?_
    rintro e w1 ⟨rfl, hb⟩
    have HK1 := hide (below_one HB.out hb)
    have HR1 := hide (HX2.out.below hb HX2.out.lt)
    obtain ⟨c0, c1⟩ := (HX0.out.below hb HX0.out.lt).c2
    clear hb
    go_wp2_with fail
    refine (HD.out _ HK1.out (by have := HR1.out.lt; omega)).mono ?_
    rintro e w2 ⟨n', rfl, hd, hin, hb⟩
    have HK := hide (below_one HK1.out hb)
    have HRR := hide (HR1.out.below hb HR1.out.lt)
    have HDD := hide hd
    have HIN := hide hin
    clear hb hd hin c0 c1
    go_wp2_with (refine wpList_store_row rfl 25 (.tmp 4) (.tmp 15) rfl (w.heap.size + 1) #[.slice n'.q.A n'.q.l.length n'.q.cap, .slice n'.a.A n'.a.l.length n'.a.cap] rfl rfl 25 _ HRR.out Try.size25 rfl (one25 _ _ _ _ _ _) ?_)
    refine bodyPost_ret (v := .tuple #[.agg #[.slice n'.q.A n'.q.l.length n'.q.cap, .slice n'.a.A n'.a.l.length n'.a.cap], .int .i64 0]) (results_cell_row_tmp rfl _ _ (w.heap.size + 1) 25 #[.slice n'.q.A n'.q.l.length n'.q.cap, .slice n'.a.A n'.a.l.length n'.a.cap] (0, 0) _ (.int .i64 0) rfl rfl (setRow_heap _ _ _ _ _ _ HRR.out) Try.underlying25 rfl Try.size25) rfl ?_
    exact ⟨n', by rw [HX.out], by rw [HX.out]; exact HDD.out, (HIN.out.keep (Kept.row (okX_not (by omega) (by omega)) _)).weak okX_ok, below_setRow HK.out (by omega) _⟩
  · have HX := hide (show (Net.d ⟨⟨qA, ql, qc⟩, ⟨aA, al, ac⟩⟩).lose i = (Nt.zero, (Net.d ⟨⟨qA, ql, qc⟩, ⟨aA, al, ac⟩⟩).asked i) by unfold Nt.lose; rw [if_neg hk])
    generalize hkk : (Net.d ⟨⟨qA, ql, qc⟩, ⟨aA, al, ac⟩⟩).asked i = k at *
    have HC := hide (ask_is hkk ((w.alloc (.cells #[.slice qA ql.length qc, .slice aA al.length ac] 25)).alloc (.cells #[.slice none 0 0, .slice none 0 0] 25)) (HI.out.below HB.out))
    have hk' : (k != 0) = true := by simpa using hk
    clear hkk hk
    go_enter Try.func23, Try.ntmps23
    go_wp2_with fail
    refine HC.out.mono ?_
    rintro e w1 ⟨rfl, hb⟩
    have HK := hide (below_one HB.out hb)
    have HRR := hide (HX2.out.below hb HX2.out.lt)
    clear hb
    go_wp2_with (refine wpList_store_row rfl 25 (.tmp 4) (.tmp 11) rfl (w.heap.size + 1) #[.slice none 0 0, .slice none 0 0] rfl rfl 25 _ HRR.out Try.size25 rfl (one25 _ _ _ _ _ _) ?_)
    exact bodyPost_ret (v := .tuple #[Net.zero.v, .int .i64 k]) (results_cell_row_tmp rfl _ _ (w.heap.size + 1) 25 #[.slice none 0 0, .slice none 0 0] (0, 0) _ (.int .i64 k) rfl rfl (setRow_heap _ _ _ _ _ _ HRR.out) Try.underlying25 rfl Try.size25) rfl (Ans.zero HX.out (below_setRow HK.out (by omega) _))

set_option maxRecDepth 10000 in
set_option maxHeartbeats 1600000 in
theorem rlose_any (n : Net) (i : Int) (w : World) (hok : ∀ b, w.heap.size ≤ b → ok b) (hi : n.In ok w) : Calls Try.prog 24 #[n.v, .int .i64 i] w (Ans ok w (n.d.lose i)) := by
  obtain ⟨⟨qA, ql, qc⟩, ⟨aA, al, ac⟩⟩ := n
  have hle : ql.length ≤ qc := hi.q.q.le
  have hcap : qc ≤ 9223372036854775807 := hi.q.q.top
  have HB := hide (show Below w.heap.size w ((w.alloc (.cells #[.slice qA ql.length qc, .slice aA al.length ac] 25)).alloc (.cells #[.slice none 0 0, .slice none 0 0] 25)) from (below_new _ _).alloc (by simp) _)
  have HX0 := hide (show Blk ((w.alloc (.cells #[.slice qA ql.length qc, .slice aA al.length ac] 25)).alloc (.cells #[.slice none 0 0, .slice none 0 0] 25)) w.heap.size 25 [.slice qA ql.length qc, .slice aA al.length ac] from (Blk.new w 25 [.slice qA ql.length qc, .slice aA al.length ac]).alloc _)
  have b2 := Blk.new (w.alloc (.cells #[.slice qA ql.length qc, .slice aA al.length ac] 25)) 25 [.slice none 0 0, .slice none 0 0]
  simp only [World.size_alloc] at b2
  have HX2 := hide b2
  have HZ := hide (show w.heap.size < ((w.alloc (.cells #[.slice qA ql.length qc, .slice aA al.length ac] 25)).alloc (.cells #[.slice none 0 0, .slice none 0 0] 25)).heap.size ∧ w.heap.size + 1 < ((w.alloc (.cells #[.slice qA ql.length qc, .slice aA al.length ac] 25)).alloc (.cells #[.slice none 0 0, .slice none 0 0] 25)).heap.size by refine ⟨?_, ?_⟩ <;> simp only [World.size_alloc] <;> omega)
  clear b2
  have HI := hide hi
  have HNEW := hide (show ∀ x, w.heap.size + 2 ≤ x → okX ok w.heap.size (w.heap.size + 2) x from okX_new hok (by omega))
  clear hi
  by_cases hk : (Net.d ⟨⟨qA, ql, qc⟩, ⟨aA, al, ac⟩⟩).asked i = 0
  · obtain ⟨hc, h0, h1⟩ := asked_zero hk
    have hlen := chk_len hc
    rw [net_len] at h1 hlen
    obtain ⟨j, rfl⟩ := Int.eq_ofNat_of_zero_le h0
    have HX := hide (show (Net.d ⟨⟨qA, ql, qc⟩, ⟨aA, al, ac⟩⟩).lose (j : Int) = ((Net.d ⟨⟨qA, ql, qc⟩, ⟨aA, al, ac⟩⟩).drop j, 0) by unfold Nt.lose; rw [if_pos hk]; rfl)
    have HC := hide (rask_is hk ((w.alloc (.cells #[.slice qA ql.length qc, .slice aA al.length ac] 25)).alloc (.cells #[.slice none 0 0, .slice none 0 0] 25)) (HI.out.below HB.out))
    have HD := hide (fun W (hW : Below w.heap.size w W) (hz : w.heap.size + 2 ≤ W.heap.size) => without_any (ok := okX ok w.heap.size (w.heap.size + 2)) ⟨⟨qA, ql, qc⟩, ⟨aA, al, ac⟩⟩ j W (fun b hb => HNEW.out b (Nat.le_trans hz hb)) ((HI.out.weak okX_old).below hW) (by simp only at h1 ⊢; omega) hlen)
    clear hk hc h0 h1 hlen
    go_enter Try.func24, Try.ntmps24
    go_wp2_with fail
    refine HC.out.mono ?_
    rintro e w1 ⟨rfl, hb⟩
    have HK1 := hide (below_one HB.out hb)
    have HR1 := hide (HX2.out.below hb HX2.out.lt)
    obtain ⟨c0, c1⟩ := (HX0.out.below hb HX0.out.lt).c2
    clear hb
    go_wp2_with fail
    refine (HD.out _ HK1.out (by have := HR1.out.lt; omega)).mono ?_
    rintro e w2 ⟨n', rfl, hd, hin, hb⟩
    have HK := hide (below_one HK1.out hb)
    have HRR := hide (HR1.out.below hb HR1.out.lt)
    have HDD := hide hd
    have HIN := hide hin
    clear hb hd hin c0 c1
    go_wp2_with (refine wpList_store_row rfl 25 (.tmp 4) (.tmp 16) rfl (w.heap.size + 1) #[.slice n'.q.A n'.q.l.length n'.q.cap, .slice n'.a.A n'.a.l.length n'.a.cap] rfl rfl 25 _ HRR.out Try.size25 rfl (one25 _ _ _ _ _ _) ?_)
    refine bodyPost_ret (v := .tuple #[.agg #[.slice n'.q.A n'.q.l.length n'.q.cap, .slice n'.a.A n'.a.l.length n'.a.cap], .int .i64 0]) (results_cell_row_tmp rfl _ _ (w.heap.size + 1) 25 #[.slice n'.q.A n'.q.l.length n'.q.cap, .slice n'.a.A n'.a.l.length n'.a.cap] (0, 0) _ (.int .i64 0) rfl rfl (setRow_heap _ _ _ _ _ _ HRR.out) Try.underlying25 rfl Try.size25) rfl ?_
    exact ⟨n', by rw [HX.out], by rw [HX.out]; exact HDD.out, (HIN.out.keep (Kept.row (okX_not (by omega) (by omega)) _)).weak okX_ok, below_setRow HK.out (by omega) _⟩
  · have HX := hide (show (Net.d ⟨⟨qA, ql, qc⟩, ⟨aA, al, ac⟩⟩).lose i = (Nt.zero, (Net.d ⟨⟨qA, ql, qc⟩, ⟨aA, al, ac⟩⟩).asked i) by unfold Nt.lose; rw [if_neg hk])
    generalize hkk : (Net.d ⟨⟨qA, ql, qc⟩, ⟨aA, al, ac⟩⟩).asked i = k at *
    have HC := hide (rask_is hkk ((w.alloc (.cells #[.slice qA ql.length qc, .slice aA al.length ac] 25)).alloc (.cells #[.slice none 0 0, .slice none 0 0] 25)) (HI.out.below HB.out))
    have hk' : (k != 0) = true := by simpa using hk
    clear hkk hk
    go_enter Try.func24, Try.ntmps24
    go_wp2_with fail
    refine HC.out.mono ?_
    rintro e w1 ⟨rfl, hb⟩
    have HK := hide (below_one HB.out hb)
    have HRR := hide (HX2.out.below hb HX2.out.lt)
    clear hb
    go_wp2_with (refine wpList_store_row rfl 25 (.tmp 4) (.tmp 12) rfl (w.heap.size + 1) #[.slice none 0 0, .slice none 0 0] rfl rfl 25 _ HRR.out Try.size25 rfl (one25 _ _ _ _ _ _) ?_)
    exact bodyPost_ret (v := .tuple #[Net.zero.v, .int .i64 k]) (results_cell_row_tmp rfl _ _ (w.heap.size + 1) 25 #[.slice none 0 0, .slice none 0 0] (0, 0) _ (.int .i64 k) rfl rfl (setRow_heap _ _ _ _ _ _ HRR.out) Try.underlying25 rfl Try.size25) rfl (Ans.zero HX.out (below_setRow HK.out (by omega) _))
end Go.Proofs.Ythmaakiibgdigaa
