/- NetworkCuts: the walk. -/
import Derived.Test.YthmaakiibgdigaaSan
import Derived.Test.YthmaakiibgdigaaOpn
import Derived.Test.YthmaakiibgdigaaPur
namespace Go.Proofs.Ythmaakiibgdigaa
open Go.RowKit
theorem wrap_small (p : Nat) (h : p < 1000) : IntKind.i64.wrap (p : Int) = (p : Int) := by
  simp [IntKind.wrap, IntKind.signed, IntKind.bits]; omega
theorem wrapu_small (p : Nat) (h : p < 1000) : IntKind.u64.wrap (p : Int) = (p : Int) := by
  simp [IntKind.wrap, IntKind.signed, IntKind.bits]; omega

attribute [local irreducible] cutA
set_option maxRecDepth 100000 in
set_option maxHeartbeats 12800000 in
theorem cuts_walk (n : Net) (a b which : Int) (w : World) (hn : n.In all w) (hw0 : 0 ≤ which) : Calls Try.prog 7 #[n.v, .int .i64 a, .int .i64 b, .int .u64 which] w fun e w' => e = .returned (.bool true) ∧ Below w.heap.size w w' := by
  go_enter Try.func7, Try.ntmps7
  have H0 := hide ((Env.start w).newn ((Env.start w).arg hn))
  clear hn
  go_wp2_with fail
  refine (sane_any _).mono ?_
  rintro e w1 ⟨rfl, hb⟩
  have H1 := hide (H0.out.below hb)
  clear hb H0
  obtain ⟨hbc, -, hic⟩ := H1.out.box (w.heap.size, n) (by simp)
  obtain ⟨c0, c1⟩ := hbc.c2
  cases hf : (decide (n.q.l.length ≤ 40) && decide (n.a.l.length ≤ 40)) with
  | false =>
    have HC := hide (few_is hf _ hic)
    go_wp2_with fail
    refine HC.out.mono ?_
    rintro e w2 ⟨rfl, hb⟩
    have H2 := hide (H1.out.below hb)
    clear hb HC H1 hbc hic c0 c1
    go_wp2_with fail
    go_ret
    exact ⟨rfl, H2.out.bel⟩
  | true =>
    have HC := hide (few_is hf _ hic)
    go_wp2_with fail
    refine HC.out.mono ?_
    rintro e w2 ⟨rfl, hb⟩
    have H2 := hide (H1.out.below hb)
    clear hb HC H1 hbc hic c0 c1
    have HF40 := hide (show n.q.l.length ≤ 40 ∧ n.a.l.length ≤ 40 by simpa using hf)
    clear hf
    obtain ⟨hbc, -, hic⟩ := H2.out.box (w.heap.size, n) (by simp)
    obtain ⟨c0, c1⟩ := hbc.c2
    cases hck : n.d.chk with
    | false =>
      have HC := hide (chk_is (chkI_no hck) _ hic)
      go_wp2_with fail
      refine HC.out.mono ?_
      rintro e w3 ⟨rfl, hb⟩
      have H3 := hide (H2.out.below hb)
      clear hb HC H2 hbc hic c0 c1
      go_wp2_with fail
      go_ret
      exact ⟨rfl, H3.out.bel⟩
    | true =>
      have HC := hide (chk_is (chkI_ok hck) _ hic)
      go_wp2_with fail
      refine HC.out.mono ?_
      rintro e w3 ⟨rfl, hb⟩
      have H3 := hide (H2.out.below hb)
      clear hb HC H2 hbc hic c0 c1
      have HCK := hide hck
      clear hck
      cases hp : partB a b with
      | false =>
        obtain ⟨hbc, -, hic⟩ := H3.out.box (w.heap.size, n) (by simp)
        obtain ⟨c0, c1⟩ := hbc.c2
        have HC := hide (cut_is (cut_no HCK.out hp true) _ H3.out.okn hic)
        go_wp2_with fail
        refine HC.out.mono ?_
        rintro e w4 ⟨n9, rfl, hd, hi, hb⟩
        have HDn9 := hide hd
        have H4 := hide ((H3.out.below hb).newn hi)
        clear hd hi hb H3
        clear HC
        clear hbc hic c0 c1
        go_wp2_with fail
        go_ret
        exact ⟨rfl, H4.out.bel⟩
      | true =>
        have HP := hide hp
        clear hp
        obtain ⟨hbc, -, hic⟩ := H3.out.box (w.heap.size, n) (by simp)
        obtain ⟨c0, c1⟩ := hbc.c2
        have HC := hide (cut_is (cut_yes HCK.out HP.out true) _ H3.out.okn hic)
        go_wp2_with fail
        refine HC.out.mono ?_
        rintro e w4 ⟨n9, rfl, hd, hi, hb⟩
        have HDn9 := hide hd
        have H4 := hide ((H3.out.below hb).newn hi)
        clear hd hi hb H3
        clear HC
        clear hbc hic c0 c1
        obtain ⟨hbc, -, hic⟩ := H4.out.box (w.heap.size, n) (by simp)
        obtain ⟨c0, c1⟩ := hbc.c2
        have HC := hide (cut_is (a := b) (b := a) (x := ⟨n.d.q, cutA n.d.a (pairN a b) true⟩) (k := 0) ((cut_yes HCK.out (partB_comm HP.out) true).trans (by rw [pairN_comm b a])) _ H4.out.okn hic)
        go_wp2_with fail
        refine HC.out.mono ?_
        rintro e w5 ⟨n11, rfl, hd, hi, hb⟩
        have HDn11 := hide hd
        have H5 := hide ((H4.out.below hb).newn hi)
        clear hd hi hb H4
        clear HC
        clear hbc hic c0 c1
        obtain ⟨hbc, -, hic⟩ := H5.out.box (w4.heap.size, n9) (by simp)
        obtain ⟨c0, c1⟩ := hbc.c2
        have HC := hide (cut_is (a := a) (b := b) (on := true) (x := ⟨n.d.q, cutA n.d.a (pairN a b) true⟩) (k := 0) (by rw [HDn9.out]; exact cut_again HCK.out HP.out true true) _ H5.out.okn hic)
        go_wp2_with fail
        refine HC.out.mono ?_
        rintro e w6 ⟨n13, rfl, hd, hi, hb⟩
        have HDn13 := hide hd
        have H6 := hide ((H5.out.below hb).newn hi)
        clear hd hi hb H5
        clear HC
        clear hbc hic c0 c1
        obtain ⟨hbc, -, hic⟩ := H6.out.box (w4.heap.size, n9) (by simp)
        obtain ⟨c0, c1⟩ := hbc.c2
        have HC := hide (cut_is (a := b) (b := a) (on := false) (x := ⟨n.d.q, cutA n.d.a (pairN a b) false⟩) (k := 0) (by rw [HDn9.out]; exact cut_back HCK.out HP.out true false) _ H6.out.okn hic)
        go_wp2_with fail
        refine HC.out.mono ?_
        rintro e w7 ⟨n15, rfl, hd, hi, hb⟩
        have HDn15 := hide hd
        have H7 := hide ((H6.out.below hb).newn hi)
        clear hd hi hb H6
        clear HC
        clear hbc hic c0 c1
        obtain ⟨hbc, -, hic⟩ := H7.out.box (w.heap.size, n) (by simp)
        obtain ⟨c0, c1⟩ := hbc.c2
        have HC := hide (cut_is (cut_yes HCK.out HP.out false) _ H7.out.okn hic)
        go_wp2_with fail
        refine HC.out.mono ?_
        rintro e w8 ⟨n17, rfl, hd, hi, hb⟩
        have HDn17 := hide hd
        have H8 := hide ((H7.out.below hb).newn hi)
        clear hd hi hb H7
        clear HC
        clear hbc hic c0 c1
        obtain ⟨hbc, -, hic⟩ := H8.out.box (w4.heap.size, n9) (by simp)
        obtain ⟨c0, c1⟩ := hbc.c2
        obtain ⟨hbd, -, hid⟩ := H8.out.box (w5.heap.size, n11) (by simp)
        obtain ⟨d0, d1⟩ := hbd.c2
        have HC := hide (same_any _ _ _ hic hid (HDn9.out.trans HDn11.out.symm))
        go_wp2_with fail
        refine HC.out.mono ?_
        rintro e w9 ⟨rfl, hb⟩
        have H9 := hide (H8.out.below hb)
        clear hb HC hbc hic hbd hid c0 c1 d0 d1 H8
        obtain ⟨hbc, -, hic⟩ := H9.out.box (w4.heap.size, n9) (by simp)
        obtain ⟨c0, c1⟩ := hbc.c2
        obtain ⟨hbd, -, hid⟩ := H9.out.box (w6.heap.size, n13) (by simp)
        obtain ⟨d0, d1⟩ := hbd.c2
        have HC := hide (same_any _ _ _ hic hid (HDn9.out.trans HDn13.out.symm))
        go_wp2_with fail
        refine HC.out.mono ?_
        rintro e w10 ⟨rfl, hb⟩
        have H10 := hide (H9.out.below hb)
        clear hb HC hbc hic hbd hid c0 c1 d0 d1 H9
        obtain ⟨hbc, -, hic⟩ := H10.out.box (w7.heap.size, n15) (by simp)
        obtain ⟨c0, c1⟩ := hbc.c2
        obtain ⟨hbd, -, hid⟩ := H10.out.box (w8.heap.size, n17) (by simp)
        obtain ⟨d0, d1⟩ := hbd.c2
        have HC := hide (same_any _ _ _ hic hid (HDn15.out.trans HDn17.out.symm))
        go_wp2_with fail
        refine HC.out.mono ?_
        rintro e w11 ⟨rfl, hb⟩
        have H11 := hide (H10.out.below hb)
        clear hb HC hbc hic hbd hid c0 c1 d0 d1 H10
        obtain ⟨hbc, -, hic⟩ := H11.out.box (w4.heap.size, n9) (by simp)
        obtain ⟨c0, c1⟩ := hbc.c2
        obtain ⟨hbd, -, hid⟩ := H11.out.box (w8.heap.size, n17) (by simp)
        obtain ⟨d0, d1⟩ := hbd.c2
        obtain ⟨hbf, -, hif⟩ := H11.out.box (w.heap.size, n) (by simp)
        obtain ⟨f0, f1⟩ := hbf.c2
        have hlen : n9.a.l.length = n17.a.l.length + 1 := by
          have h1 : n9.a.l = _ := congrArg Nt.a HDn9.out
          have h2 : n17.a.l = _ := congrArg Nt.a HDn17.out
          rw [h1, h2]
          exact cutA_len _ (pair_ok HP.out)
        rw [hlen] at c1
        have hsm : n17.a.l.length ≤ 276 := by
          have h2 : n17.a.l = _ := congrArg Nt.a HDn17.out
          rw [h2]
          exact ap_len (ap_cutA _ _ _)
        have hqs := HF40.out.1
        by_cases hz : n.q.l.length = 0
        · rw [hz] at f0
          clear hbc hic hbd hid hbf hif
          go_wp2_with fail
          go_ret
          exact ⟨rfl, H11.out.bel⟩
        · have hz' : (n.q.l.length : Int) ≠ 0 := by omega
          obtain ⟨i, hi⟩ : ∃ i : Nat, i = which.toNat % n.q.l.length := ⟨_, rfl⟩
          have hil : i < n.q.l.length := by rw [hi]; exact Nat.mod_lt _ (by omega)
          have hw1 : IntKind.u64.wrap (n.q.l.length : Int) = (n.q.l.length : Int) := wrapu_small _ (by omega)
          have hw2 : which.tmod (n.q.l.length : Int) = (i : Int) := by rw [Int.tmod_eq_emod_of_nonneg hw0, hi, Int.natCast_emod, Int.toNat_of_nonneg hw0]
          have hw3 : IntKind.u64.wrap (i : Int) = (i : Int) := wrapu_small _ (by omega)
          have hw4 : IntKind.i64.wrap (i : Int) = (i : Int) := wrap_small _ (by omega)
          obtain ⟨P, R, y9, y17, hg1, hg0, hPR1, hPR2⟩ := cuts_give HCK.out HP.out (i := i) (by rw [net_len]; exact hil)
          have HP1 := hide (And.intro hPR1 hPR2)
          have HG0 := hide hg0
          have HG1 := hide hg1
          clear hPR1 hPR2 hg0 hg1
          have HC := hide (give_is (i := (i : Int)) (p := P) (x := y9) (k := 0) (by rw [HDn9.out]; exact HG1.out) _ H11.out.okn hic)
          clear hi hbc hic hbd hid hbf hif
          go_upto_region 17 with (fail)
          rw [← hlen] at c1
          clear hlen
          go_wp2_with fail
          refine HC.out.mono ?_
          rintro e w12 ⟨p20, n21, rfl, hd, hd2, hi, hi2, hb⟩
          have HDp20 := hide hd
          have HDn21 := hide hd2
          have HZ := hide (new2_blk w12 #[.int .i64 p20.fr, .int .i64 p20.to, .slice p20.s.A p20.s.l.length p20.s.cap])
          have H12 := hide ((H11.out.below hb).new2 hi hi2)
          clear hd hd2 hi hi2 hb H11
          clear HC c0 c1 d0 d1 f0 f1
          have HZA := HZ
          clear HZ
          obtain ⟨hbc, -, hic⟩ := H12.out.box (w8.heap.size, n17) (by simp)
          obtain ⟨c0, c1⟩ := hbc.c2
          have HC := hide (give_is (i := (i : Int)) (p := R) (x := y17) (k := 0) (by rw [HDn17.out]; exact HG0.out) _ H12.out.okn hic)
          go_wp2_with (first | (refine wpList_store_row rfl 28 (.tmp 20) (.tmp 133) rfl w12.heap.size #[.int .i64 p20.fr, .int .i64 p20.to, .slice p20.s.A p20.s.l.length p20.s.cap] rfl rfl 28 _ HZA.out.1 Try.size28 rfl (one28 _ _ _ _ _) ?_) | (refine wpList_store_row rfl 25 (.tmp 21) (.tmp 134) rfl (w12.heap.size + 1) #[.slice n21.q.A n21.q.l.length n21.q.cap, .slice n21.a.A n21.a.l.length n21.a.cap] rfl rfl 25 _ HZA.out.2 Try.size25 rfl (one25 _ _ _ _ _ _) ?_))
          refine HC.out.mono ?_
          rintro e w13 ⟨p23, n24, rfl, hd, hd2, hi, hi2, hb⟩
          have HDp23 := hide hd
          have HDn24 := hide hd2
          have HZ := hide (new2_blk w13 #[.int .i64 p23.fr, .int .i64 p23.to, .slice p23.s.A p23.s.l.length p23.s.cap])
          have H13 := hide ((H12.out.below hb).new2 hi hi2)
          clear hd hd2 hi hi2 hb H12
          clear HC
          clear hbc hic c0 c1
          clear HZA hw1 hw2 hw3 hw4
          go_upto_region 19 with (first | (refine wpList_store_row rfl 28 (.tmp 23) (.tmp 140) rfl w13.heap.size #[.int .i64 p23.fr, .int .i64 p23.to, .slice p23.s.A p23.s.l.length p23.s.cap] rfl rfl 28 _ HZ.out.1 Try.size28 rfl (one28 _ _ _ _ _) ?_) | (refine wpList_store_row rfl 25 (.tmp 24) (.tmp 141) rfl (w13.heap.size + 1) #[.slice n24.q.A n24.q.l.length n24.q.cap, .slice n24.a.A n24.a.l.length n24.a.cap] rfl rfl 25 _ HZ.out.2 Try.size25 rfl (one25 _ _ _ _ _ _) ?_))
          obtain ⟨fr, to, sc⟩ := p23
          have hR : Pkt.d ⟨fr, to, sc⟩ = R := HDp23.out
          have hP0 : p20.d = P := HDp20.out
          have hPR := HP1.out
          rw [← hR, ← hP0] at hPR
          replace hPR : (fr = a ∧ to = b ∨ fr = b ∧ to = a → p20.d = Pk.zero) ∧ (¬ (fr = a ∧ to = b ∨ fr = b ∧ to = a) → p20.d = Pkt.d ⟨fr, to, sc⟩) := hPR
          have HX := hide hPR
          clear hR hP0 hPR HP1
          have hab : a ≠ b := by have := HP.out; unfold partB at this; simp only [Bool.and_eq_true, decide_eq_true_eq] at this; exact this.2
          obtain ⟨hbc, -, hic⟩ := H13.out.pks (w12.heap.size, p20) (by simp)
          obtain ⟨hbd, -, hid⟩ := H13.out.pks (w13.heap.size, ⟨fr, to, sc⟩) (by simp)
          obtain ⟨c0, c1, c2⟩ := hbc.c3
          obtain ⟨d0, d1, d2⟩ := hbd.c3
          by_cases h1 : fr = a
          · have bh1 : ((fr : Int) == a) = true := beq_iff_eq.2 h1
            have Hh1 := hide h1
            clear h1
            by_cases h2 : to = b
            · have bh2 : ((to : Int) == b) = true := beq_iff_eq.2 h2
              have Hh2 := hide h2
              clear h2
              have hd : p20.d = Pk.zero := HX.out.1 (by have t0 := Hh1.out; have t1 := Hh2.out; omega)
              have HC := hide (samePk_is (q := ⟨0, 0, ⟨none, [], 0⟩⟩) (b := true) (decide_eq_true hd) _ hic ⟨SlIn.none _, by unfold I64; decide, by unfold I64; decide⟩)
              replace HC := hide (show Calls Try.prog 22 #[p20.v, .agg #[.int .i64 0, .int .i64 0, .slice none 0 0]] _ _ from HC.out)
              clear hd
              go_wp2_with fail
              with_reducible refine HC.out.mono ?_
              rintro e wa ⟨rfl, hb⟩
              have HK := hide (H13.out.below hb)
              clear hb
              go_wp2_with fail
              go_ret
              exact ⟨rfl, HK.out.bel⟩
            · have bh2 : ((to : Int) == b) = false := beq_eq_false_iff_ne.2 h2
              have Hh2 := hide h2
              clear h2
              have b3 : (fr == b) = false := beq_eq_false_iff_ne.2 (by have t0 := Hh1.out; have t1 := Hh2.out; omega)
              have hd : p20.d = Pkt.d ⟨fr, to, sc⟩ := HX.out.2 (by have t0 := Hh1.out; have t1 := Hh2.out; omega)
              have HDD := hide hd
              generalize hz2 : decide (p20.d = Pk.zero) = dz
              have HC := hide (samePk_is (q := ⟨0, 0, ⟨none, [], 0⟩⟩) (b := dz) hz2 _ hic ⟨SlIn.none _, by unfold I64; decide, by unfold I64; decide⟩)
              replace HC := hide (show Calls Try.prog 22 #[p20.v, .agg #[.int .i64 0, .int .i64 0, .slice none 0 0]] _ _ from HC.out)
              have HC2 := hide (fun v (hv : Below _ _ v) => samePk_is (p := ⟨fr, to, sc⟩) (q := ⟨0, 0, ⟨none, [], 0⟩⟩) (b := dz) (by rw [hd] at hz2; exact hz2) v (hid.below (W' := v) hv) ⟨SlIn.none _, by unfold I64; decide, by unfold I64; decide⟩)
              replace HC2 := hide (show ∀ v, Below _ _ v → Calls Try.prog 22 #[.agg #[.int .i64 fr, .int .i64 to, .slice sc.A sc.l.length sc.cap], .agg #[.int .i64 0, .int .i64 0, .slice none 0 0]] v _ from HC2.out)
              have HC3 := hide (fun v (hv : Below _ _ v) => samePk_is (p := p20) (q := ⟨fr, to, sc⟩) (b := true) (decide_eq_true hd) v (hic.below (W' := v) hv) (hid.below (W' := v) hv))
              clear hd hz2
              go_wp2_with fail
              with_reducible refine HC.out.mono ?_
              rintro e wa ⟨rfl, hb⟩
              have HK := hide (H13.out.below hb)
              have HBB := hide hb
              have q0 := (hb.cell (p := ⟨w13.heap.size, 0, none⟩) hbd.lt).trans d0
              have q1 := (hb.cell (p := ⟨w13.heap.size, 1, none⟩) hbd.lt).trans d1
              have q2 := (hb.cell (p := ⟨w13.heap.size, 2, none⟩) hbd.lt).trans d2
              clear hb
              go_wp2_with fail
              with_reducible refine (HC2.out _ HBB.out).mono ?_
              rintro e wb ⟨rfl, hb⟩
              have HK2 := hide (HK.out.below hb)
              have HB2 := hide (below_one HBB.out hb)
              clear hb q0 q1 q2
              obtain ⟨c0, c1, c2⟩ := (HK2.out.pks (w12.heap.size, p20) (by simp)).1.c3
              obtain ⟨d0, d1, d2⟩ := (HK2.out.pks (w13.heap.size, ⟨fr, to, sc⟩) (by simp)).1.c3
              go_wp2_with fail
              with_reducible refine (HC3.out _ HB2.out).mono ?_
              rintro e wc ⟨rfl, hb⟩
              have HK3 := hide (HK2.out.below hb)
              clear hb
              go_wp2_with fail
              go_ret
              exact ⟨rfl, HK3.out.bel⟩
          · have bh1 : ((fr : Int) == a) = false := beq_eq_false_iff_ne.2 h1
            have Hh1 := hide h1
            clear h1
            by_cases h3 : fr = b
            · have bh3 : ((fr : Int) == b) = true := beq_iff_eq.2 h3
              have Hh3 := hide h3
              clear h3
              by_cases h4 : to = a
              · have bh4 : ((to : Int) == a) = true := beq_iff_eq.2 h4
                have Hh4 := hide h4
                clear h4
                have hd : p20.d = Pk.zero := HX.out.1 (by have t0 := Hh1.out; have t1 := Hh3.out; have t2 := Hh4.out; omega)
                have HC := hide (samePk_is (q := ⟨0, 0, ⟨none, [], 0⟩⟩) (b := true) (decide_eq_true hd) _ hic ⟨SlIn.none _, by unfold I64; decide, by unfold I64; decide⟩)
                replace HC := hide (show Calls Try.prog 22 #[p20.v, .agg #[.int .i64 0, .int .i64 0, .slice none 0 0]] _ _ from HC.out)
                clear hd
                go_wp2_with fail
                with_reducible refine HC.out.mono ?_
                rintro e wa ⟨rfl, hb⟩
                have HK := hide (H13.out.below hb)
                clear hb
                go_wp2_with fail
                go_ret
                exact ⟨rfl, HK.out.bel⟩
              · have bh4 : ((to : Int) == a) = false := beq_eq_false_iff_ne.2 h4
                have Hh4 := hide h4
                clear h4
                have hd : p20.d = Pkt.d ⟨fr, to, sc⟩ := HX.out.2 (by have t0 := Hh1.out; have t1 := Hh3.out; have t2 := Hh4.out; omega)
                have HDD := hide hd
                generalize hz2 : decide (p20.d = Pk.zero) = dz
                have HC := hide (samePk_is (q := ⟨0, 0, ⟨none, [], 0⟩⟩) (b := dz) hz2 _ hic ⟨SlIn.none _, by unfold I64; decide, by unfold I64; decide⟩)
                replace HC := hide (show Calls Try.prog 22 #[p20.v, .agg #[.int .i64 0, .int .i64 0, .slice none 0 0]] _ _ from HC.out)
                have HC2 := hide (fun v (hv : Below _ _ v) => samePk_is (p := ⟨fr, to, sc⟩) (q := ⟨0, 0, ⟨none, [], 0⟩⟩) (b := dz) (by rw [hd] at hz2; exact hz2) v (hid.below (W' := v) hv) ⟨SlIn.none _, by unfold I64; decide, by unfold I64; decide⟩)
                replace HC2 := hide (show ∀ v, Below _ _ v → Calls Try.prog 22 #[.agg #[.int .i64 fr, .int .i64 to, .slice sc.A sc.l.length sc.cap], .agg #[.int .i64 0, .int .i64 0, .slice none 0 0]] v _ from HC2.out)
                have HC3 := hide (fun v (hv : Below _ _ v) => samePk_is (p := p20) (q := ⟨fr, to, sc⟩) (b := true) (decide_eq_true hd) v (hic.below (W' := v) hv) (hid.below (W' := v) hv))
                clear hd hz2
                go_wp2_with fail
                with_reducible refine HC.out.mono ?_
                rintro e wa ⟨rfl, hb⟩
                have HK := hide (H13.out.below hb)
                have HBB := hide hb
                have q0 := (hb.cell (p := ⟨w13.heap.size, 0, none⟩) hbd.lt).trans d0
                have q1 := (hb.cell (p := ⟨w13.heap.size, 1, none⟩) hbd.lt).trans d1
                have q2 := (hb.cell (p := ⟨w13.heap.size, 2, none⟩) hbd.lt).trans d2
                clear hb
                go_wp2_with fail
                with_reducible refine (HC2.out _ HBB.out).mono ?_
                rintro e wb ⟨rfl, hb⟩
                have HK2 := hide (HK.out.below hb)
                have HB2 := hide (below_one HBB.out hb)
                clear hb q0 q1 q2
                obtain ⟨c0, c1, c2⟩ := (HK2.out.pks (w12.heap.size, p20) (by simp)).1.c3
                obtain ⟨d0, d1, d2⟩ := (HK2.out.pks (w13.heap.size, ⟨fr, to, sc⟩) (by simp)).1.c3
                go_wp2_with fail
                with_reducible refine (HC3.out _ HB2.out).mono ?_
                rintro e wc ⟨rfl, hb⟩
                have HK3 := hide (HK2.out.below hb)
                clear hb
                go_wp2_with fail
                go_ret
                exact ⟨rfl, HK3.out.bel⟩
            · have bh3 : ((fr : Int) == b) = false := beq_eq_false_iff_ne.2 h3
              have Hh3 := hide h3
              clear h3
              have hd : p20.d = Pkt.d ⟨fr, to, sc⟩ := HX.out.2 (by have t0 := Hh1.out; have t1 := Hh3.out; omega)
              have HDD := hide hd
              generalize hz2 : decide (p20.d = Pk.zero) = dz
              have HC := hide (samePk_is (q := ⟨0, 0, ⟨none, [], 0⟩⟩) (b := dz) hz2 _ hic ⟨SlIn.none _, by unfold I64; decide, by unfold I64; decide⟩)
              replace HC := hide (show Calls Try.prog 22 #[p20.v, .agg #[.int .i64 0, .int .i64 0, .slice none 0 0]] _ _ from HC.out)
              have HC2 := hide (fun v (hv : Below _ _ v) => samePk_is (p := ⟨fr, to, sc⟩) (q := ⟨0, 0, ⟨none, [], 0⟩⟩) (b := dz) (by rw [hd] at hz2; exact hz2) v (hid.below (W' := v) hv) ⟨SlIn.none _, by unfold I64; decide, by unfold I64; decide⟩)
              replace HC2 := hide (show ∀ v, Below _ _ v → Calls Try.prog 22 #[.agg #[.int .i64 fr, .int .i64 to, .slice sc.A sc.l.length sc.cap], .agg #[.int .i64 0, .int .i64 0, .slice none 0 0]] v _ from HC2.out)
              have HC3 := hide (fun v (hv : Below _ _ v) => samePk_is (p := p20) (q := ⟨fr, to, sc⟩) (b := true) (decide_eq_true hd) v (hic.below (W' := v) hv) (hid.below (W' := v) hv))
              clear hd hz2
              go_wp2_with fail
              with_reducible refine HC.out.mono ?_
              rintro e wa ⟨rfl, hb⟩
              have HK := hide (H13.out.below hb)
              have HBB := hide hb
              have q0 := (hb.cell (p := ⟨w13.heap.size, 0, none⟩) hbd.lt).trans d0
              have q1 := (hb.cell (p := ⟨w13.heap.size, 1, none⟩) hbd.lt).trans d1
              have q2 := (hb.cell (p := ⟨w13.heap.size, 2, none⟩) hbd.lt).trans d2
              clear hb
              go_wp2_with fail
              with_reducible refine (HC2.out _ HBB.out).mono ?_
              rintro e wb ⟨rfl, hb⟩
              have HK2 := hide (HK.out.below hb)
              have HB2 := hide (below_one HBB.out hb)
              clear hb q0 q1 q2
              obtain ⟨c0, c1, c2⟩ := (HK2.out.pks (w12.heap.size, p20) (by simp)).1.c3
              obtain ⟨d0, d1, d2⟩ := (HK2.out.pks (w13.heap.size, ⟨fr, to, sc⟩) (by simp)).1.c3
              go_wp2_with fail
              with_reducible refine (HC3.out _ HB2.out).mono ?_
              rintro e wc ⟨rfl, hb⟩
              have HK3 := hide (HK2.out.below hb)
              clear hb
              go_wp2_with fail
              go_ret
              exact ⟨rfl, HK3.out.bel⟩
end Go.Proofs.Ythmaakiibgdigaa
