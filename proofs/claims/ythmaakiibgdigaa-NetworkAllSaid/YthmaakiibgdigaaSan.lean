/- sane. -/
import Derived.Test.YthmaakiibgdigaaEnv
namespace Go.Proofs.Ythmaakiibgdigaa
open Go.RowKit
theorem i64_1 : I64 1 := by unfold I64; decide
theorem i64_3 : I64 3 := by unfold I64; decide
theorem cut_31 : (Nt.mk [⟨1, 3, [7]⟩, ⟨1, 3, [7]⟩] []).cut 3 1 true = (⟨[⟨1, 3, [7]⟩, ⟨1, 3, [7]⟩], [(1, 3)]⟩, 0) := by kernel_rfl
theorem give_31 : (Nt.mk [⟨1, 3, [7]⟩, ⟨1, 3, [7]⟩] [(1, 3)]).give 1 = (Pk.zero, ⟨[⟨1, 3, [7]⟩], [(1, 3)]⟩, 0) := by kernel_rfl

set_option maxRecDepth 100000 in
set_option maxHeartbeats 6400000 in
theorem sane_any (w : World) : Calls Try.prog 9 #[] w fun e w' => e = .returned (.bool true) ∧ Below w.heap.size w w' := by
  go_enter Try.func9, Try.ntmps9
  have H0 := hide (Env.start w)
  go_wp2_with fail
  refine (new_any w).mono ?_
  rintro e w0 ⟨rfl, hb⟩
  have H00 := hide ((H0.out.below hb).newn (n := ⟨⟨none, [], 0⟩, ⟨none, [], 0⟩⟩) ⟨⟨SlIn.none _, fun p hp => by cases hp⟩, ⟨SlIn.none _, fun p hp => by cases hp⟩⟩)
  clear hb H0
  obtain ⟨hbc, -, hic⟩ := H00.out.box (w0.heap.size, ⟨⟨none, [], 0⟩, ⟨none, [], 0⟩⟩) (by simp)
  obtain ⟨c0, c1⟩ := hbc.c2
  simp only [List.length_nil] at c0 c1
  have HC := hide (give_is (n := ⟨⟨none, [], 0⟩, ⟨none, [], 0⟩⟩) (i := 0) (p := Pk.zero) (x := Nt.zero) (k := 1) rfl _ H00.out.okn hic)
  replace HC := hide (show Calls Try.prog 20 #[.agg #[.slice none 0 0, .slice none 0 0], .int .i64 0] _ _ from HC.out)
  go_wp2_with fail
  refine HC.out.mono ?_
  rintro e w1 ⟨p2, n3, rfl, hd, hd2, hi, hi2, hb⟩
  have HDp2 := hide hd
  have HDn3 := hide hd2
  have HZ := hide (new2_blk w1 #[.int .i64 p2.fr, .int .i64 p2.to, .slice p2.s.A p2.s.l.length p2.s.cap])
  have H1 := hide ((H00.out.below hb).new2 hi hi2)
  clear hd hd2 hi hi2 hb H00
  clear HC hbc hic c0 c1
  obtain ⟨hbc, -, hic⟩ := H1.out.box (w0.heap.size, ⟨⟨none, [], 0⟩, ⟨none, [], 0⟩⟩) (by simp)
  obtain ⟨c0, c1⟩ := hbc.c2
  simp only [List.length_nil] at c0 c1
  have HC := hide (send_is (n := ⟨⟨none, [], 0⟩, ⟨none, [], 0⟩⟩) (p := ⟨3, 3, ⟨none, [], 0⟩⟩) (x := Nt.zero) (k := 60) rfl _ H1.out.okn hic ⟨SlIn.none _, by unfold I64; decide, by unfold I64; decide⟩)
  replace HC := hide (show Calls Try.prog 11 #[.agg #[.slice none 0 0, .slice none 0 0], .agg #[.int .i64 3, .int .i64 3, .slice none 0 0]] _ _ from HC.out)
  go_wp2_with (first | (refine wpList_store_row rfl 28 (.tmp 2) (.tmp 26) rfl w1.heap.size #[.int .i64 p2.fr, .int .i64 p2.to, .slice p2.s.A p2.s.l.length p2.s.cap] rfl rfl 28 _ HZ.out.1 Try.size28 rfl (one28 _ _ _ _ _) ?_) | (refine wpList_store_row rfl 25 (.tmp 3) (.tmp 27) rfl (w1.heap.size + 1) #[.slice n3.q.A n3.q.l.length n3.q.cap, .slice n3.a.A n3.a.l.length n3.a.cap] rfl rfl 25 _ HZ.out.2 Try.size25 rfl (one25 _ _ _ _ _ _) ?_))
  refine HC.out.mono ?_
  rintro e w2 ⟨n5, rfl, hd, hi, hb⟩
  have HDn5 := hide hd
  have H2 := hide ((H1.out.below hb).newn hi)
  clear hd hi hb H1
  clear HC HZ hbc hic c0 c1
  obtain ⟨hbc, -, hic⟩ := H2.out.box (w0.heap.size, ⟨⟨none, [], 0⟩, ⟨none, [], 0⟩⟩) (by simp)
  obtain ⟨c0, c1⟩ := hbc.c2
  simp only [List.length_nil] at c0 c1
  have HC := hide (cut_is (n := ⟨⟨none, [], 0⟩, ⟨none, [], 0⟩⟩) (a := 2) (b := 2) (on := true) (x := Nt.zero) (k := 1) rfl _ H2.out.okn hic)
  replace HC := hide (show Calls Try.prog 18 #[.agg #[.slice none 0 0, .slice none 0 0], .int .i64 2, .int .i64 2, .bool true] _ _ from HC.out)
  go_wp2_with fail
  refine HC.out.mono ?_
  rintro e w3 ⟨n7, rfl, hd, hi, hb⟩
  have HDn7 := hide hd
  have H3 := hide ((H2.out.below hb).newn hi)
  clear hd hi hb H2
  clear HC hbc hic c0 c1
  have HB7 := hide (Blk.new (w3.alloc (.cells (Net.cs n7).toArray 25)) 5 [.int .u8 7])
  have HE7 := hide (H3.out.below (below_new _ (.cells #[.int .u8 7] 5)))
  have t := (HE7.out.newp (n := ⟨1, 3, ⟨some ⟨(w3.alloc (.cells (Net.cs n7).toArray 25)).heap.size, 0, none⟩, [7], 1⟩⟩) ⟨blk_sl HB7.out rfl (by decide) (by decide) (H3.out.okn _ (Nat.le_refl _)), i64_1, i64_3⟩)
  simp only [World.size_alloc] at t
  have H5B := hide (show Env w _ _ (((w3.alloc (.cells (Net.cs n7).toArray 25)).alloc (.cells #[.int .u8 7] 5)).alloc (.cells #[.int .i64 1, .int .i64 3, .slice (some ⟨w3.heap.size + 1, 0, none⟩) 1 1] 28)) from t)
  clear HB7 HE7 t H3
  obtain ⟨hbc, -, hic⟩ := H5B.out.box (w0.heap.size, ⟨⟨none, [], 0⟩, ⟨none, [], 0⟩⟩) (by simp)
  obtain ⟨c0, c1⟩ := hbc.c2
  simp only [List.length_nil] at c0 c1
  obtain ⟨hbd, -, hid⟩ := H5B.out.pks (w3.heap.size + 1 + 1, ⟨1, 3, ⟨some ⟨w3.heap.size + 1, 0, none⟩, [7], 1⟩⟩) (by simp)
  obtain ⟨d0, d1, d2⟩ := hbd.c3
  simp only [List.length_cons, List.length_nil, Nat.zero_add] at d2
  have HC := hide (send_is (n := ⟨⟨none, [], 0⟩, ⟨none, [], 0⟩⟩) (p := ⟨1, 3, ⟨some ⟨w3.heap.size + 1, 0, none⟩, [7], 1⟩⟩) (x := ⟨[⟨1, 3, [7]⟩], []⟩) (k := 0) rfl _ H5B.out.okn hic hid)
  replace HC := hide (show Calls Try.prog 11 #[.agg #[.slice none 0 0, .slice none 0 0], .agg #[.int .i64 1, .int .i64 3, .slice (some ⟨w3.heap.size + 1, 0, none⟩) 1 1]] _ _ from HC.out)
  go_wp2_with fail
  refine HC.out.mono ?_
  rintro e w4 ⟨n10, rfl, hd, hi, hb⟩
  have HDn10 := hide hd
  have H4 := hide ((H5B.out.below hb).newn hi)
  clear hd hi hb H5B
  clear HC hbc hic c0 c1 hbd hid d0 d1 d2
  obtain ⟨hbc, -, hic⟩ := H4.out.box (w4.heap.size, n10) (by simp)
  obtain ⟨c0, c1⟩ := hbc.c2
  have HC := hide (again_is (i := 0) (x := ⟨[⟨1, 3, [7]⟩, ⟨1, 3, [7]⟩], []⟩) (k := 0) (by rw [HDn10.out]; rfl) _ H4.out.okn hic)
  go_wp2_with fail
  refine HC.out.mono ?_
  rintro e w5 ⟨n12, rfl, hd, hi, hb⟩
  have HDn12 := hide hd
  have H5 := hide ((H4.out.below hb).newn hi)
  clear hd hi hb H4
  clear HC
  clear hbc hic c0 c1
  obtain ⟨hbc, -, hic⟩ := H5.out.box (w5.heap.size, n12) (by simp)
  obtain ⟨c0, c1⟩ := hbc.c2
  have HC := hide (cut_is (a := 3) (b := 1) (on := true) (x := ⟨[⟨1, 3, [7]⟩, ⟨1, 3, [7]⟩], [(1, 3)]⟩) (k := 0) (by rw [HDn12.out]; exact cut_31) _ H5.out.okn hic)
  go_wp2_with fail
  refine HC.out.mono ?_
  rintro e w6 ⟨n14, rfl, hd, hi, hb⟩
  have HDn14 := hide hd
  have H6 := hide ((H5.out.below hb).newn hi)
  clear hd hi hb H5
  clear HC
  clear hbc hic c0 c1
  obtain ⟨hbc, -, hic⟩ := H6.out.box (w5.heap.size, n12) (by simp)
  obtain ⟨c0, c1⟩ := hbc.c2
  have HC := hide (give_is (i := 0) (p := ⟨1, 3, [7]⟩) (x := ⟨[⟨1, 3, [7]⟩], []⟩) (k := 0) (by rw [HDn12.out]; rfl) _ H6.out.okn hic)
  go_wp2_with fail
  refine HC.out.mono ?_
  rintro e w7 ⟨p16, n17, rfl, hd, hd2, hi, hi2, hb⟩
  have HDp16 := hide hd
  have HDn17 := hide hd2
  have HZ := hide (new2_blk w7 #[.int .i64 p16.fr, .int .i64 p16.to, .slice p16.s.A p16.s.l.length p16.s.cap])
  have H7 := hide ((H6.out.below hb).new2 hi hi2)
  clear hd hd2 hi hi2 hb H6
  clear HC
  clear hbc hic c0 c1
  have HZA := HZ
  clear HZ
  obtain ⟨hbc, -, hic⟩ := H7.out.box (w6.heap.size, n14) (by simp)
  obtain ⟨c0, c1⟩ := hbc.c2
  have HC := hide (give_is (i := 1) (p := Pk.zero) (x := ⟨[⟨1, 3, [7]⟩], [(1, 3)]⟩) (k := 0) (by rw [HDn14.out]; exact give_31) _ H7.out.okn hic)
  go_wp2_with (first | (refine wpList_store_row rfl 28 (.tmp 16) (.tmp 61) rfl w7.heap.size #[.int .i64 p16.fr, .int .i64 p16.to, .slice p16.s.A p16.s.l.length p16.s.cap] rfl rfl 28 _ HZA.out.1 Try.size28 rfl (one28 _ _ _ _ _) ?_) | (refine wpList_store_row rfl 25 (.tmp 17) (.tmp 62) rfl (w7.heap.size + 1) #[.slice n17.q.A n17.q.l.length n17.q.cap, .slice n17.a.A n17.a.l.length n17.a.cap] rfl rfl 25 _ HZA.out.2 Try.size25 rfl (one25 _ _ _ _ _ _) ?_))
  refine HC.out.mono ?_
  rintro e w8 ⟨p19, n20, rfl, hd, hd2, hi, hi2, hb⟩
  have HDp19 := hide hd
  have HDn20 := hide hd2
  have HZ := hide (new2_blk w8 #[.int .i64 p19.fr, .int .i64 p19.to, .slice p19.s.A p19.s.l.length p19.s.cap])
  have H8 := hide ((H7.out.below hb).new2 hi hi2)
  clear hd hd2 hi hi2 hb H7
  clear HC
  clear hbc hic c0 c1
  clear HZA
  obtain ⟨hbc, -, hic⟩ := H8.out.box (w0.heap.size, ⟨⟨none, [], 0⟩, ⟨none, [], 0⟩⟩) (by simp)
  obtain ⟨c0, c1⟩ := hbc.c2
  simp only [List.length_nil] at c0 c1
  have HC := hide (chk_is (n := ⟨⟨none, [], 0⟩, ⟨none, [], 0⟩⟩) (k := 0) rfl _ hic)
  replace HC := hide (show Calls Try.prog 13 #[.agg #[.slice none 0 0, .slice none 0 0]] _ _ from HC.out)
  go_wp2_with (first | (refine wpList_store_row rfl 28 (.tmp 19) (.tmp 67) rfl w8.heap.size #[.int .i64 p19.fr, .int .i64 p19.to, .slice p19.s.A p19.s.l.length p19.s.cap] rfl rfl 28 _ HZ.out.1 Try.size28 rfl (one28 _ _ _ _ _) ?_) | (refine wpList_store_row rfl 25 (.tmp 20) (.tmp 68) rfl (w8.heap.size + 1) #[.slice n20.q.A n20.q.l.length n20.q.cap, .slice n20.a.A n20.a.l.length n20.a.cap] rfl rfl 25 _ HZ.out.2 Try.size25 rfl (one25 _ _ _ _ _ _) ?_))
  refine HC.out.mono ?_
  rintro e w20 ⟨rfl, hb⟩
  have H20 := hide (H8.out.below hb)
  clear hb HC HZ hbc hic c0 c1 H8
  obtain ⟨hb9, -, hi9⟩ := H20.out.pks (w3.heap.size + 1 + 1, ⟨1, 3, ⟨some ⟨w3.heap.size + 1, 0, none⟩, [7], 1⟩⟩) (by simp)
  obtain ⟨hb16, -, hi16⟩ := H20.out.pks (w7.heap.size, p16) (by simp)
  obtain ⟨c0, c1, c2⟩ := hb9.c3
  simp only [List.length_cons, List.length_nil, Nat.zero_add] at c2
  obtain ⟨d0, d1, d2⟩ := hb16.c3
  have HC := hide (samePk_is (b := true) (decide_eq_true (show Pkt.d ⟨1, 3, ⟨some ⟨w3.heap.size + 1, 0, none⟩, [7], 1⟩⟩ = p16.d from HDp16.out.symm)) _ hi9 hi16)
  replace HC := hide (show Calls Try.prog 22 #[.agg #[.int .i64 1, .int .i64 3, .slice (some ⟨w3.heap.size + 1, 0, none⟩) 1 1], p16.v] _ _ from HC.out)
  clear hb9 hi9 hb16 hi16
  go_wp2_with fail
  refine HC.out.mono ?_
  rintro e w21 ⟨rfl, hb⟩
  have H21 := hide (H20.out.below hb)
  clear hb HC c0 c1 c2 d0 d1 d2 H20
  obtain ⟨hb9, -, hi9⟩ := H21.out.pks (w8.heap.size, p19) (by simp)
  obtain ⟨c0, c1, c2⟩ := hb9.c3
  have HC := hide (samePk_is (q := ⟨0, 0, ⟨none, [], 0⟩⟩) (b := true) (decide_eq_true HDp19.out) _ hi9 ⟨SlIn.none _, by unfold I64; decide, by unfold I64; decide⟩)
  replace HC := hide (show Calls Try.prog 22 #[p19.v, .agg #[.int .i64 0, .int .i64 0, .slice none 0 0]] _ _ from HC.out)
  clear hb9 hi9
  go_wp2_with fail
  refine HC.out.mono ?_
  rintro e w22 ⟨rfl, hb⟩
  have H22 := hide (H21.out.below hb)
  clear hb HC c0 c1 c2 H21
  obtain ⟨hbc, -, hic⟩ := H22.out.box (w7.heap.size + 1, n17) (by simp)
  obtain ⟨c0, c1⟩ := hbc.c2
  obtain ⟨hbd, -, hid⟩ := H22.out.box (w4.heap.size, n10) (by simp)
  obtain ⟨d0, d1⟩ := hbd.c2
  have HC := hide (same_any _ _ _ hic hid (HDn17.out.trans HDn10.out.symm))
  clear hbc hic hbd hid
  go_wp2_with fail
  refine HC.out.mono ?_
  rintro e w23 ⟨rfl, hb⟩
  have H23 := hide (H22.out.below hb)
  clear hb HC c0 c1 d0 d1 H22
  obtain ⟨⟨qA, ql, qc⟩, ⟨aA, al, ac⟩⟩ := n14
  have hdd := HDn14.out
  clear HDn14
  simp only [Net.d, Nt.mk.injEq] at hdd
  obtain ⟨hq, rfl⟩ := hdd
  have hql : ql.length = 2 := by have := congrArg List.length hq; simpa using this
  obtain ⟨hbc, -, hic⟩ := H23.out.box (w6.heap.size, ⟨⟨qA, ql, qc⟩, ⟨aA, [(1, 3)], ac⟩⟩) (by simp)
  obtain ⟨c0, c1⟩ := hbc.c2
  obtain ⟨b, o, hA, hlt, f0, f1⟩ := hic.a.at (k := 0) (by simp)
  simp only at hA
  subst hA
  rw [hql] at c0
  simp only [List.length_cons, List.length_nil, Nat.zero_add, Nat.zero_mul, Nat.add_zero, List.getElem_cons_zero] at c1 f0 f1
  have HEQ : ∀ W, (binOp .eql 55 (.agg #[.int .i64 1, .int .i64 3]) (.agg #[.int .i64 1, .int .i64 3])).run Try.prog W = .ok (.bool true) W := fun W => eql_pr (1, 3) (1, 3) W
  clear hbc hic hlt hq
  go_wp2_with fail
  go_ret
  exact ⟨rfl, H23.out.bel⟩
end Go.Proofs.Ythmaakiibgdigaa
