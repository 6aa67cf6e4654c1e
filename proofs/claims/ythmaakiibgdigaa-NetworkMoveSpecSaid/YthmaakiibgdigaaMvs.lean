/- NetworkMoveSpec: the walk. -/
import Derived.Test.YthmaakiibgdigaaSan
import Derived.Test.YthmaakiibgdigaaOpn
namespace Go.Proofs.Ythmaakiibgdigaa
open Go.RowKit
abbrev inC (x : Int) : List Value := [.int .i64 x]
theorem own_int (w : World) (x : Int) : (w.alloc (.cells #[.int .i64 x] 3)).ownsRow w.heap.size 3 1 (.slice (some ⟨w.heap.size, 0, none⟩) (0 + 1) 1) (0 + 1) ([x].flatMap inC) :=
  ⟨rfl, .inr ⟨w.heap.size, 1, #[.int .i64 x], rfl, Nat.le_refl _, heap_alloc_new w _, Nat.le_refl _, by decide, rfl, rfl⟩⟩
theorem Try.info3 : (Try.prog.info? 3).map (fun i => (i.zero, i.size, i.bytes)) = some (some (.int .i64 0), 1, 8) := by kernel_rfl
theorem hinfo3 : ∃ i0, Try.prog.info? 3 = some i0 ∧ i0.zero = some (.int .i64 0) ∧ i0.size = 1 ∧ i0.bytes = 8 := by
  obtain ⟨i0, hi, hz0, hz1, hz2⟩ := info_parts Try.info3
  exact ⟨i0, hi, hz0, hz1, hz2⟩
section
variable {w W : World} {X Y : Nat} {m n n' : Net} {q : List (Nat × Pkt)}
theorem Env.put2 (h : Env w [(Y, m), (X, n)] q W) (hn : n'.In (oks [(Y, m), (X, n)] q) W) (hne : X ≠ Y) : Env w [(Y, m), (X, n')] q (W.setRow X n'.cs.toArray) :=
  h.putn (n := n) (by simp) hn rfl fun p hp => by
    simp only [List.mem_cons, List.not_mem_nil, or_false] at hp ⊢
    rcases hp with rfl | rfl
    · exact .inr ⟨.inl rfl, fun e => hne e.symm⟩
    · exact .inl rfl
theorem Env.put3 (h : Env w [(Y, m), (X, n)] q W) (hn : n'.In (oks [(Y, m), (X, n)] q) W) (hne : X ≠ Y) : Env w [(Y, n'), (X, n)] q (W.setRow Y n'.cs.toArray) :=
  h.put1 hn fun p hp => by
    rw [List.mem_singleton.1 hp]
    exact hne
end

set_option maxRecDepth 100000 in
set_option maxHeartbeats 12800000 in
theorem move_walk (n : Net) (at' x y : Int) (on : Bool) (w : World) (hn : n.In all w) : Calls Try.prog 4 #[n.v, .int .i64 at', .int .i64 x, .int .i64 y, .bool on] w fun e w' => e = .returned (.bool true) ∧ Below w.heap.size w w' := by
  go_enter Try.func4, Try.ntmps4
  have H0 := hide ((Env.start w).newn ((Env.start w).arg hn))
  clear hn
  go_wp2_with fail
  refine (sane_any _).mono ?_
  rintro e w1 ⟨rfl, hb⟩
  have H1 := hide (H0.out.below hb)
  clear hb H0
  obtain ⟨hbc, -, hic⟩ := H1.out.box (w.heap.size, n) (by simp)
  obtain ⟨c0, c1⟩ := hbc.c2
  cases hf : (decide (n.q.l.length ≤ 40) && decide (n.a.l.length ≤ 40)) with
  | false =>
    have HC := hide (few_is hf _ hic)
    go_wp2_with fail
    refine HC.out.mono ?_
    rintro e w2 ⟨rfl, hb⟩
    have H2 := hide (H1.out.below hb)
    clear hb HC H1 hbc hic c0 c1
    go_wp2_with fail
    go_ret
    exact ⟨rfl, H2.out.bel⟩
  | true =>
    have HC := hide (few_is hf _ hic)
    go_wp2_with fail
    refine HC.out.mono ?_
    rintro e w2 ⟨rfl, hb⟩
    have H2 := hide (H1.out.below hb)
    clear hb HC H1 hbc hic c0 c1
    have hq40 : n.q.l.length ≤ 40 := by simp at hf; exact hf.1
    clear hf
    cases hx : n.d.cut x y on with
    | mk z k0 =>
      obtain ⟨hbc, -, hic⟩ := H2.out.box (w.heap.size, n) (by simp)
      obtain ⟨c0, c1⟩ := hbc.c2
      have HC := hide (cut_is hx _ H2.out.okn hic)
      go_wp2_with fail
      refine HC.out.mono ?_
      rintro e w3 ⟨n11, rfl, hd, hi, hb⟩
      have HDn11 := hide hd
      have H3 := hide ((H2.out.below hb).newn hi)
      clear hd hi hb H2
      clear HC
      clear hbc hic c0 c1
      obtain ⟨hbc, -, hic⟩ := H3.out.box (w.heap.size, n) (by simp)
      obtain ⟨c0, c1⟩ := hbc.c2
      have HC := hide (rcut_is hx _ H3.out.okn hic)
      go_wp2_with fail
      refine HC.out.mono ?_
      rintro e w4 ⟨n13, rfl, hd, hi, hb⟩
      have HDn13 := hide hd
      have H4 := hide ((H3.out.below hb).newn hi)
      clear hd hi hb H3
      clear HC
      clear hbc hic c0 c1
      obtain ⟨hbc, -, hic⟩ := H4.out.box (w3.heap.size, n11) (by simp)
      obtain ⟨c0, c1⟩ := hbc.c2
      obtain ⟨hbd, -, hid⟩ := H4.out.box (w4.heap.size, n13) (by simp)
      obtain ⟨d0, d1⟩ := hbd.c2
      have HC := hide (same_any _ _ _ hic hid (HDn11.out.trans HDn13.out.symm))
      go_wp2_with fail
      refine HC.out.mono ?_
      rintro e w5 ⟨rfl, hb⟩
      have H5 := hide (H4.out.below hb)
      clear hb HC hbc hic hbd hid c0 c1 d0 d1 H4
      have HE0 := hide (show Env w [(w.heap.size, n)] [] w5 from H5.out.sub (by simp) (by simp))
      clear H5 HDn11 HDn13 hx
      have HOW := hide (own_int w5 at')
      have HB0 := hide (below_new w5 (.cells #[.int .i64 at'] 3))
      obtain ⟨i3, hi3⟩ := hinfo3
      have HI3 := hide hi3
      clear hi3
      go_wp2_with fail
      go_loopw [16, 15] (fun i v wr => ∃ (k : Nat) (A : Option Addr) (l : List Int) (c : Nat), k ≤ 3 ∧ k ≤ n.q.l.length ∧ i = .int .i64 k ∧ v = .slice A (k + 1) c ∧ Hid (l.length = k + 1) ∧ Hid (wr.ownsRow w5.heap.size 3 1 (.slice A (k + 1) c) (k + 1) (l.flatMap inC)) ∧ Hid (Below w5.heap.size w5 wr)) (fun i _ _ => 3 - (intOf i).toNat)
      case atStart => exact ⟨0, _, [at'], 1, by omega, by omega, rfl, rfl, hide rfl, HOW, HB0⟩
      case round =>
        clear HOW HB0
        obtain ⟨k, A, l, c, hk, hkl, rfl, rfl, HL, HO, HBw⟩ := hrel
        obtain ⟨c0, c1⟩ := ((HE0.out.below HBw.out).box (w.heap.size, n) (by simp)).1.c2
        by_cases h1 : k < n.q.l.length
        · have h1' : (k : Int) < (n.q.l.length : Int) := by omega
          by_cases h2 : k < 3
          · have h2' : (k : Int) < 3 := by omega
            have hzW : w5.heap.size ≤ (wr.alloc (.cells #[.int .i64 (k : Int)] 3)).heap.size := by have := HBw.out.size; simp; omega
            have HOW2 := hide (own_later HO.out (below_new wr (.cells #[.int .i64 (k : Int)] 3)))
            go_wp2_with (refine wpList_app rfl (.tmp 68) (.tmp 70) 39 rfl w5.heap.size 3 i3 _ 1 8 Try.underlying39 HI3.out rfl (by omega) _ (k + 1) (l.flatMap inC) rfl HOW2.out (some ⟨wr.heap.size, 0, none⟩) 1 1 [.int .i64 (k : Int)] rfl (fun h => by cases h) rfl (new_cells wr 3 [.int .i64 (k : Int)]) (fun u hu => by rw [List.mem_singleton.1 hu]; rfl) (by unfold maxLen; omega) (by omega) hzW ?_; intro A6 c6 w6 hown hg; have HO6 := hide hown; have HB6 := hide (below_app (HBw.out.alloc HBw.out.size (.cells #[.int .i64 (k : Int)] 3)) HOW2.out hg (Nat.le_refl _) hzW); clear hown hg)
            go_roundw
            case rel => exact ⟨k + 1, A6, l ++ [(k : Int)], c6, by omega, by omega, by go_num, rfl, hide (by rw [List.length_append, HL.out]; rfl), hide (by rw [List.flatMap_append]; exact HO6.out), HB6⟩
            case measure => simp [intOf]; omega
          · have h2' : ¬ ((k : Int) < 3) := by omega
            have HS := hide (own_in (ok := all) HO.out HL.out (fun _ _ => trivial))
            have HE1 := hide (HE0.out.below HBw.out)
            have hcap := own_caps HO.out
            have HLL := HL
            clear HO HBw HE0
            go_wp2_with fail
            generalize wr = wl at *
            go_loopw [74, 18, 19, 20, 21, 22, 23, 24] (fun i _ _ _ _ _ _ _ wr => ∃ k2 : Nat, k2 ≤ k + 1 ∧ i = .int .i64 k2 ∧ Hid (Below wl.heap.size wl wr)) (fun i _ _ _ _ _ _ _ _ => k + 1 - (intOf i).toNat)
            case atStart => exact ⟨0, by omega, rfl, hide (Below.refl _ _)⟩
            case round =>
              obtain ⟨k2, hk2, rfl, HB2⟩ := hrel
              by_cases hlt2 : k2 < k + 1
              · have hlt2' : (k2 : Int) < ((k + 1 : Nat) : Int) := by omega
                have hkl2 : k2 < l.length := by rw [HLL.out]; exact hlt2
                obtain ⟨b, o, hA, hlt, hcell⟩ := (HS.out.below HB2.out).at (m := 1) (fun _ => rfl) (by decide) (k := k2) hkl2
                have f0 := hcell 0 _ rfl
                simp only [Nat.mul_one, Nat.add_zero] at f0 hA
                clear hcell hlt
                have HXN := hide (((HE1.out.below HB2.out).box (w.heap.size, n) (by simp)).1)
                have HNI := hide (((HE1.out.below HB2.out).box (w.heap.size, n) (by simp)).2.2)
                have HI0 := hide (Env.start wr)
                generalize l[k2] = p at f0
                subst hA
                cases hx : n.d.give p with
                | mk P yk =>
                  obtain ⟨z2, k3⟩ := yk
                  have hbc := HXN.out.below HI0.out.bel HXN.out.lt
                  have hic := HI0.out.arg HNI.out
                  obtain ⟨c0, c1⟩ := hbc.c2
                  have HC := hide (give_is hx _ HI0.out.okn hic)
                  go_wp2_with fail
                  refine HC.out.mono ?_
                  rintro e w61 ⟨p19, n20, rfl, hd, hd2, hi, hi2, hb⟩
                  have HDp19 := hide hd
                  have HDn20 := hide hd2
                  have HZ := hide (new2_blk w61 #[.int .i64 p19.fr, .int .i64 p19.to, .slice p19.s.A p19.s.l.length p19.s.cap])
                  have H61 := hide ((HI0.out.below hb).new2 hi hi2)
                  clear hd hd2 hi hi2 hb HI0
                  clear HC
                  clear hbc hic c0 c1
                  have HZA := HZ
                  clear HZ
                  have hbc := HXN.out.below H61.out.bel HXN.out.lt
                  have hic := H61.out.arg HNI.out
                  obtain ⟨c0, c1⟩ := hbc.c2
                  have HC := hide (rgive_is hx _ H61.out.okn hic)
                  go_wp2_with (first | (refine wpList_store_row rfl 28 (.tmp 19) (.tmp 82) rfl w61.heap.size #[.int .i64 p19.fr, .int .i64 p19.to, .slice p19.s.A p19.s.l.length p19.s.cap] rfl rfl 28 _ HZA.out.1 Try.size28 rfl (one28 _ _ _ _ _) ?_) | (refine wpList_store_row rfl 25 (.tmp 20) (.tmp 83) rfl (w61.heap.size + 1) #[.slice n20.q.A n20.q.l.length n20.q.cap, .slice n20.a.A n20.a.l.length n20.a.cap] rfl rfl 25 _ HZA.out.2 Try.size25 rfl (one25 _ _ _ _ _ _) ?_))
                  refine HC.out.mono ?_
                  rintro e w62 ⟨p22, n23, rfl, hd, hd2, hi, hi2, hb⟩
                  have HDp22 := hide hd
                  have HDn23 := hide hd2
                  have HSEP0 := hide (show w61.heap.size + 1 ≠ w62.heap.size + 1 from fun e => by have h1 := (H61.out.box (w61.heap.size + 1, n20) (by simp)).1.lt; have h2 := hb.size; omega)
                  have HZ := hide (new2_blk w62 #[.int .i64 p22.fr, .int .i64 p22.to, .slice p22.s.A p22.s.l.length p22.s.cap])
                  have H62 := hide ((H61.out.below hb).new2 hi hi2)
                  clear hd hd2 hi hi2 hb H61
                  clear HC
                  clear hbc hic c0 c1
                  clear HZA hx
                  skip
                  obtain ⟨hbc, -, hic⟩ := H62.out.pks (w61.heap.size, p19) (by simp)
                  obtain ⟨hbd, -, hid⟩ := H62.out.pks (w62.heap.size, p22) (by simp)
                  obtain ⟨c0, c1, c2⟩ := hbc.c3
                  obtain ⟨d0, d1, d2⟩ := hbd.c3
                  have HC := hide (samePk_is (b := true) (decide_eq_true (HDp19.out.trans HDp22.out.symm)) _ hic hid)
                  go_wp2_with (first | (refine wpList_store_row rfl 28 (.tmp 22) (.tmp 89) rfl w62.heap.size #[.int .i64 p22.fr, .int .i64 p22.to, .slice p22.s.A p22.s.l.length p22.s.cap] rfl rfl 28 _ HZ.out.1 Try.size28 rfl (one28 _ _ _ _ _) ?_) | (refine wpList_store_row rfl 25 (.tmp 23) (.tmp 90) rfl (w62.heap.size + 1) #[.slice n23.q.A n23.q.l.length n23.q.cap, .slice n23.a.A n23.a.l.length n23.a.cap] rfl rfl 25 _ HZ.out.2 Try.size25 rfl (one25 _ _ _ _ _ _) ?_))
                  refine HC.out.mono ?_
                  rintro e w63 ⟨rfl, hb⟩
                  have H63 := hide (H62.out.below hb)
                  clear hb HC hbc hic hbd hid c0 c1 c2 d0 d1 d2 HZ H62
                  obtain ⟨hbc, -, hic⟩ := H63.out.box (w61.heap.size + 1, n20) (by simp)
                  obtain ⟨c0, c1⟩ := hbc.c2
                  obtain ⟨hbd, -, hid⟩ := H63.out.box (w62.heap.size + 1, n23) (by simp)
                  obtain ⟨d0, d1⟩ := hbd.c2
                  have HC := hide (same_any _ _ _ hic hid (HDn20.out.trans HDn23.out.symm))
                  go_wp2_with fail
                  refine HC.out.mono ?_
                  rintro e w64 ⟨rfl, hb⟩
                  have H64 := hide (H63.out.below hb)
                  clear hb HC hbc hic hbd hid c0 c1 d0 d1 H63
                  have HF := hide (show Env wr [(w62.heap.size + 1, n23), (w61.heap.size + 1, n20)] [] w64 from H64.out.sub (by simp) (by simp))
                  clear H64
                  have HSEP := HSEP0
                  cases hx : n.d.lose p with
                  | mk zna kna =>
                    have hbc := HXN.out.below HF.out.bel HXN.out.lt
                    have hic := HF.out.arg HNI.out
                    obtain ⟨c0, c1⟩ := hbc.c2
                    have HC := hide (lose_is hx _ HF.out.okn hic)
                    go_wp2_with fail
                    refine HC.out.mono ?_
                    rintro e w65 ⟨na, rfl, hd, hi, hb⟩
                    have HDna := hide hd
                    have HBA := hide ((HF.out.below hb).box (w61.heap.size + 1, n20) (by simp)).1
                    have H65 := hide ((HF.out.below hb).put2 (n' := na) hi HSEP.out)
                    clear hd hi hb HF
                    clear HC
                    clear hbc hic c0 c1
                    have hbc := HXN.out.below H65.out.bel HXN.out.lt
                    have hic := H65.out.arg HNI.out
                    obtain ⟨c0, c1⟩ := hbc.c2
                    have HC := hide (rlose_is hx _ H65.out.okn hic)
                    go_wp2_with (refine wpList_store_row rfl 25 (.tmp 20) (.tmp 111) rfl _ #[.slice na.q.A na.q.l.length na.q.cap, .slice na.a.A na.a.l.length na.a.cap] rfl rfl 25 _ HBA.out Try.size25 rfl (one25 _ _ _ _ _ _) ?_)
                    refine HC.out.mono ?_
                    rintro e w66 ⟨nb, rfl, hd, hi, hb⟩
                    have HDnb := hide hd
                    have HBB := hide ((H65.out.below hb).box (w62.heap.size + 1, n23) (by simp)).1
                    have H66 := hide ((H65.out.below hb).put3 (n' := nb) hi HSEP.out)
                    clear hd hi hb H65 HBA
                    clear HC
                    clear hbc hic c0 c1
                    obtain ⟨hbc, -, hic⟩ := H66.out.box (w61.heap.size + 1, na) (by simp)
                    obtain ⟨c0, c1⟩ := hbc.c2
                    obtain ⟨hbd, -, hid⟩ := H66.out.box (w62.heap.size + 1, nb) (by simp)
                    obtain ⟨d0, d1⟩ := hbd.c2
                    have HC := hide (same_any _ _ _ hic hid (HDna.out.trans HDnb.out.symm))
                    go_wp2_with (refine wpList_store_row rfl 25 (.tmp 23) (.tmp 117) rfl _ #[.slice nb.q.A nb.q.l.length nb.q.cap, .slice nb.a.A nb.a.l.length nb.a.cap] rfl rfl 25 _ HBB.out Try.size25 rfl (one25 _ _ _ _ _ _) ?_)
                    refine HC.out.mono ?_
                    rintro e w67 ⟨rfl, hb⟩
                    have H67 := hide (H66.out.below hb)
                    clear hb HC hbc hic hbd hid c0 c1 d0 d1 H66
                    clear HBB hx
                    cases hx : n.d.again p with
                    | mk znc knc =>
                      have hbc := HXN.out.below H67.out.bel HXN.out.lt
                      have hic := H67.out.arg HNI.out
                      obtain ⟨c0, c1⟩ := hbc.c2
                      have HC := hide (again_is hx _ H67.out.okn hic)
                      go_wp2_with fail
                      refine HC.out.mono ?_
                      rintro e w68 ⟨nc, rfl, hd, hi, hb⟩
                      have HDnc := hide hd
                      have HBA := hide ((H67.out.below hb).box (w61.heap.size + 1, na) (by simp)).1
                      have H68 := hide ((H67.out.below hb).put2 (n' := nc) hi HSEP.out)
                      clear hd hi hb H67
                      clear HC
                      clear hbc hic c0 c1
                      have hbc := HXN.out.below H68.out.bel HXN.out.lt
                      have hic := H68.out.arg HNI.out
                      obtain ⟨c0, c1⟩ := hbc.c2
                      have HC := hide (ragain_is hx _ H68.out.okn hic)
                      go_wp2_with (refine wpList_store_row rfl 25 (.tmp 20) (.tmp 132) rfl _ #[.slice nc.q.A nc.q.l.length nc.q.cap, .slice nc.a.A nc.a.l.length nc.a.cap] rfl rfl 25 _ HBA.out Try.size25 rfl (one25 _ _ _ _ _ _) ?_)
                      refine HC.out.mono ?_
                      rintro e w69 ⟨nd, rfl, hd, hi, hb⟩
                      have HDnd := hide hd
                      have HBB := hide ((H68.out.below hb).box (w62.heap.size + 1, nb) (by simp)).1
                      have H69 := hide ((H68.out.below hb).put3 (n' := nd) hi HSEP.out)
                      clear hd hi hb H68 HBA
                      clear HC
                      clear hbc hic c0 c1
                      obtain ⟨hbc, -, hic⟩ := H69.out.box (w61.heap.size + 1, nc) (by simp)
                      obtain ⟨c0, c1⟩ := hbc.c2
                      obtain ⟨hbd, -, hid⟩ := H69.out.box (w62.heap.size + 1, nd) (by simp)
                      obtain ⟨d0, d1⟩ := hbd.c2
                      have HC := hide (same_any _ _ _ hic hid (HDnc.out.trans HDnd.out.symm))
                      go_wp2_with (refine wpList_store_row rfl 25 (.tmp 23) (.tmp 138) rfl _ #[.slice nd.q.A nd.q.l.length nd.q.cap, .slice nd.a.A nd.a.l.length nd.a.cap] rfl rfl 25 _ HBB.out Try.size25 rfl (one25 _ _ _ _ _ _) ?_)
                      refine HC.out.mono ?_
                      rintro e w70 ⟨rfl, hb⟩
                      have H70 := hide (H69.out.below hb)
                      clear hb HC hbc hic hbd hid c0 c1 d0 d1 H69
                      clear HBB hx
                      go_wp2_with fail
                      go_roundw
                      case rel => exact ⟨k2 + 1, by omega, by go_num, hide (HB2.out.trans (H70.out.bel.mono HB2.out.size))⟩
                      case measure => simp [intOf]; omega
              · obtain rfl : k2 = k + 1 := by omega
                go_wp2_with fail
                go_ret
                exact ⟨rfl, (HE1.out.below HB2.out).bel⟩
        · have h1' : ¬ ((k : Int) < (n.q.l.length : Int)) := by omega
          have HS := hide (own_in (ok := all) HO.out HL.out (fun _ _ => trivial))
          have HE1 := hide (HE0.out.below HBw.out)
          have hcap := own_caps HO.out
          have HLL := HL
          clear HO HBw HE0
          go_wp2_with fail
          generalize wr = wl at *
          go_loopw [74, 18, 19, 20, 21, 22, 23, 24] (fun i _ _ _ _ _ _ _ wr => ∃ k2 : Nat, k2 ≤ k + 1 ∧ i = .int .i64 k2 ∧ Hid (Below wl.heap.size wl wr)) (fun i _ _ _ _ _ _ _ _ => k + 1 - (intOf i).toNat)
          case atStart => exact ⟨0, by omega, rfl, hide (Below.refl _ _)⟩
          case round =>
            obtain ⟨k2, hk2, rfl, HB2⟩ := hrel
            by_cases hlt2 : k2 < k + 1
            · have hlt2' : (k2 : Int) < ((k + 1 : Nat) : Int) := by omega
              have hkl2 : k2 < l.length := by rw [HLL.out]; exact hlt2
              obtain ⟨b, o, hA, hlt, hcell⟩ := (HS.out.below HB2.out).at (m := 1) (fun _ => rfl) (by decide) (k := k2) hkl2
              have f0 := hcell 0 _ rfl
              simp only [Nat.mul_one, Nat.add_zero] at f0 hA
              clear hcell hlt
              have HXN := hide (((HE1.out.below HB2.out).box (w.heap.size, n) (by simp)).1)
              have HNI := hide (((HE1.out.below HB2.out).box (w.heap.size, n) (by simp)).2.2)
              have HI0 := hide (Env.start wr)
              generalize l[k2] = p at f0
              subst hA
              cases hx : n.d.give p with
              | mk P yk =>
                obtain ⟨z2, k3⟩ := yk
                have hbc := HXN.out.below HI0.out.bel HXN.out.lt
                have hic := HI0.out.arg HNI.out
                obtain ⟨c0, c1⟩ := hbc.c2
                have HC := hide (give_is hx _ HI0.out.okn hic)
                go_wp2_with fail
                refine HC.out.mono ?_
                rintro e w61 ⟨p19, n20, rfl, hd, hd2, hi, hi2, hb⟩
                have HDp19 := hide hd
                have HDn20 := hide hd2
                have HZ := hide (new2_blk w61 #[.int .i64 p19.fr, .int .i64 p19.to, .slice p19.s.A p19.s.l.length p19.s.cap])
                have H61 := hide ((HI0.out.below hb).new2 hi hi2)
                clear hd hd2 hi hi2 hb HI0
                clear HC
                clear hbc hic c0 c1
                have HZA := HZ
                clear HZ
                have hbc := HXN.out.below H61.out.bel HXN.out.lt
                have hic := H61.out.arg HNI.out
                obtain ⟨c0, c1⟩ := hbc.c2
                have HC := hide (rgive_is hx _ H61.out.okn hic)
                go_wp2_with (first | (refine wpList_store_row rfl 28 (.tmp 19) (.tmp 82) rfl w61.heap.size #[.int .i64 p19.fr, .int .i64 p19.to, .slice p19.s.A p19.s.l.length p19.s.cap] rfl rfl 28 _ HZA.out.1 Try.size28 rfl (one28 _ _ _ _ _) ?_) | (refine wpList_store_row rfl 25 (.tmp 20) (.tmp 83) rfl (w61.heap.size + 1) #[.slice n20.q.A n20.q.l.length n20.q.cap, .slice n20.a.A n20.a.l.length n20.a.cap] rfl rfl 25 _ HZA.out.2 Try.size25 rfl (one25 _ _ _ _ _ _) ?_))
                refine HC.out.mono ?_
                rintro e w62 ⟨p22, n23, rfl, hd, hd2, hi, hi2, hb⟩
                have HDp22 := hide hd
                have HDn23 := hide hd2
                have HSEP0 := hide (show w61.heap.size + 1 ≠ w62.heap.size + 1 from fun e => by have h1 := (H61.out.box (w61.heap.size + 1, n20) (by simp)).1.lt; have h2 := hb.size; omega)
                have HZ := hide (new2_blk w62 #[.int .i64 p22.fr, .int .i64 p22.to, .slice p22.s.A p22.s.l.length p22.s.cap])
                have H62 := hide ((H61.out.below hb).new2 hi hi2)
                clear hd hd2 hi hi2 hb H61
                clear HC
                clear hbc hic c0 c1
                clear HZA hx
                skip
                obtain ⟨hbc, -, hic⟩ := H62.out.pks (w61.heap.size, p19) (by simp)
                obtain ⟨hbd, -, hid⟩ := H62.out.pks (w62.heap.size, p22) (by simp)
                obtain ⟨c0, c1, c2⟩ := hbc.c3
                obtain ⟨d0, d1, d2⟩ := hbd.c3
                have HC := hide (samePk_is (b := true) (decide_eq_true (HDp19.out.trans HDp22.out.symm)) _ hic hid)
                go_wp2_with (first | (refine wpList_store_row rfl 28 (.tmp 22) (.tmp 89) rfl w62.heap.size #[.int .i64 p22.fr, .int .i64 p22.to, .slice p22.s.A p22.s.l.length p22.s.cap] rfl rfl 28 _ HZ.out.1 Try.size28 rfl (one28 _ _ _ _ _) ?_) | (refine wpList_store_row rfl 25 (.tmp 23) (.tmp 90) rfl (w62.heap.size + 1) #[.slice n23.q.A n23.q.l.length n23.q.cap, .slice n23.a.A n23.a.l.length n23.a.cap] rfl rfl 25 _ HZ.out.2 Try.size25 rfl (one25 _ _ _ _ _ _) ?_))
                refine HC.out.mono ?_
                rintro e w63 ⟨rfl, hb⟩
                have H63 := hide (H62.out.below hb)
                clear hb HC hbc hic hbd hid c0 c1 c2 d0 d1 d2 HZ H62
                obtain ⟨hbc, -, hic⟩ := H63.out.box (w61.heap.size + 1, n20) (by simp)
                obtain ⟨c0, c1⟩ := hbc.c2
                obtain ⟨hbd, -, hid⟩ := H63.out.box (w62.heap.size + 1, n23) (by simp)
                obtain ⟨d0, d1⟩ := hbd.c2
                have HC := hide (same_any _ _ _ hic hid (HDn20.out.trans HDn23.out.symm))
                go_wp2_with fail
                refine HC.out.mono ?_
                rintro e w64 ⟨rfl, hb⟩
                have H64 := hide (H63.out.below hb)
                clear hb HC hbc hic hbd hid c0 c1 d0 d1 H63
                have HF := hide (show Env wr [(w62.heap.size + 1, n23), (w61.heap.size + 1, n20)] [] w64 from H64.out.sub (by simp) (by simp))
                clear H64
                have HSEP := HSEP0
                cases hx : n.d.lose p with
                | mk zna kna =>
                  have hbc := HXN.out.below HF.out.bel HXN.out.lt
                  have hic := HF.out.arg HNI.out
                  obtain ⟨c0, c1⟩ := hbc.c2
                  have HC := hide (lose_is hx _ HF.out.okn hic)
                  go_wp2_with fail
                  refine HC.out.mono ?_
                  rintro e w65 ⟨na, rfl, hd, hi, hb⟩
                  have HDna := hide hd
                  have HBA := hide ((HF.out.below hb).box (w61.heap.size + 1, n20) (by simp)).1
                  have H65 := hide ((HF.out.below hb).put2 (n' := na) hi HSEP.out)
                  clear hd hi hb HF
                  clear HC
                  clear hbc hic c0 c1
                  have hbc := HXN.out.below H65.out.bel HXN.out.lt
                  have hic := H65.out.arg HNI.out
                  obtain ⟨c0, c1⟩ := hbc.c2
                  have HC := hide (rlose_is hx _ H65.out.okn hic)
                  go_wp2_with (refine wpList_store_row rfl 25 (.tmp 20) (.tmp 111) rfl _ #[.slice na.q.A na.q.l.length na.q.cap, .slice na.a.A na.a.l.length na.a.cap] rfl rfl 25 _ HBA.out Try.size25 rfl (one25 _ _ _ _ _ _) ?_)
                  refine HC.out.mono ?_
                  rintro e w66 ⟨nb, rfl, hd, hi, hb⟩
                  have HDnb := hide hd
                  have HBB := hide ((H65.out.below hb).box (w62.heap.size + 1, n23) (by simp)).1
                  have H66 := hide ((H65.out.below hb).put3 (n' := nb) hi HSEP.out)
                  clear hd hi hb H65 HBA
                  clear HC
                  clear hbc hic c0 c1
                  obtain ⟨hbc, -, hic⟩ := H66.out.box (w61.heap.size + 1, na) (by simp)
                  obtain ⟨c0, c1⟩ := hbc.c2
                  obtain ⟨hbd, -, hid⟩ := H66.out.box (w62.heap.size + 1, nb) (by simp)
                  obtain ⟨d0, d1⟩ := hbd.c2
                  have HC := hide (same_any _ _ _ hic hid (HDna.out.trans HDnb.out.symm))
                  go_wp2_with (refine wpList_store_row rfl 25 (.tmp 23) (.tmp 117) rfl _ #[.slice nb.q.A nb.q.l.length nb.q.cap, .slice nb.a.A nb.a.l.length nb.a.cap] rfl rfl 25 _ HBB.out Try.size25 rfl (one25 _ _ _ _ _ _) ?_)
                  refine HC.out.mono ?_
                  rintro e w67 ⟨rfl, hb⟩
                  have H67 := hide (H66.out.below hb)
                  clear hb HC hbc hic hbd hid c0 c1 d0 d1 H66
                  clear HBB hx
                  cases hx : n.d.again p with
                  | mk znc knc =>
                    have hbc := HXN.out.below H67.out.bel HXN.out.lt
                    have hic := H67.out.arg HNI.out
                    obtain ⟨c0, c1⟩ := hbc.c2
                    have HC := hide (again_is hx _ H67.out.okn hic)
                    go_wp2_with fail
                    refine HC.out.mono ?_
                    rintro e w68 ⟨nc, rfl, hd, hi, hb⟩
                    have HDnc := hide hd
                    have HBA := hide ((H67.out.below hb).box (w61.heap.size + 1, na) (by simp)).1
                    have H68 := hide ((H67.out.below hb).put2 (n' := nc) hi HSEP.out)
                    clear hd hi hb H67
                    clear HC
                    clear hbc hic c0 c1
                    have hbc := HXN.out.below H68.out.bel HXN.out.lt
                    have hic := H68.out.arg HNI.out
                    obtain ⟨c0, c1⟩ := hbc.c2
                    have HC := hide (ragain_is hx _ H68.out.okn hic)
                    go_wp2_with (refine wpList_store_row rfl 25 (.tmp 20) (.tmp 132) rfl _ #[.slice nc.q.A nc.q.l.length nc.q.cap, .slice nc.a.A nc.a.l.length nc.a.cap] rfl rfl 25 _ HBA.out Try.size25 rfl (one25 _ _ _ _ _ _) ?_)
                    refine HC.out.mono ?_
                    rintro e w69 ⟨nd, rfl, hd, hi, hb⟩
                    have HDnd := hide hd
                    have HBB := hide ((H68.out.below hb).box (w62.heap.size + 1, nb) (by simp)).1
                    have H69 := hide ((H68.out.below hb).put3 (n' := nd) hi HSEP.out)
                    clear hd hi hb H68 HBA
                    clear HC
                    clear hbc hic c0 c1
                    obtain ⟨hbc, -, hic⟩ := H69.out.box (w61.heap.size + 1, nc) (by simp)
                    obtain ⟨c0, c1⟩ := hbc.c2
                    obtain ⟨hbd, -, hid⟩ := H69.out.box (w62.heap.size + 1, nd) (by simp)
                    obtain ⟨d0, d1⟩ := hbd.c2
                    have HC := hide (same_any _ _ _ hic hid (HDnc.out.trans HDnd.out.symm))
                    go_wp2_with (refine wpList_store_row rfl 25 (.tmp 23) (.tmp 138) rfl _ #[.slice nd.q.A nd.q.l.length nd.q.cap, .slice nd.a.A nd.a.l.length nd.a.cap] rfl rfl 25 _ HBB.out Try.size25 rfl (one25 _ _ _ _ _ _) ?_)
                    refine HC.out.mono ?_
                    rintro e w70 ⟨rfl, hb⟩
                    have H70 := hide (H69.out.below hb)
                    clear hb HC hbc hic hbd hid c0 c1 d0 d1 H69
                    clear HBB hx
                    go_wp2_with fail
                    go_roundw
                    case rel => exact ⟨k2 + 1, by omega, by go_num, hide (HB2.out.trans (H70.out.bel.mono HB2.out.size))⟩
                    case measure => simp [intOf]; omega
            · obtain rfl : k2 = k + 1 := by omega
              go_wp2_with fail
              go_ret
              exact ⟨rfl, (HE1.out.below HB2.out).bel⟩
end Go.Proofs.Ythmaakiibgdigaa
