/- NetworkLost: the walk. -/
import Derived.Test.YthmaakiibgdigaaSan
import Derived.Test.YthmaakiibgdigaaOpn
import Derived.Test.YthmaakiibgdigaaPul
import Derived.Test.YthmaakiibgdigaaPl4
import Derived.Deep.CutRange
import Derived.Deep.CutBlock
import Derived.Deep.Cut
namespace Go.Proofs.Ythmaakiibgdigaa
open Go.RowKit
theorem wrapi_small (p : Nat) (h : p < 1000) : IntKind.i64.wrap (p : Int) = (p : Int) := by
  simp [IntKind.wrap, IntKind.signed, IntKind.bits]; omega
theorem wrapu2_small (p : Nat) (h : p < 1000) : IntKind.u64.wrap (p : Int) = (p : Int) := by
  simp [IntKind.wrap, IntKind.signed, IntKind.bits]; omega
theorem env_fresh {w W : World} {l : List (Nat × Net)} {q : List (Nat × Pkt)} (h : Env w l q W) : W.heap.size ∉ l.map Prod.fst := fun hm => by
  obtain ⟨p, hp, e⟩ := List.mem_map.1 hm
  have := (h.box p hp).1.lt
  omega
theorem env_ne {X : Nat} {l : List (Nat × Net)} (h : X ∉ l.map Prod.fst) : ∀ p ∈ l, p.1 ≠ X := fun p hp e => h (List.mem_map.2 ⟨p, hp, e⟩)
theorem env_le {a b : World} (h : Below a.heap.size a b) : a.heap.size ≤ b.heap.size := h.size

set_option maxRecDepth 100000 in
set_option maxHeartbeats 12800000 in
theorem lost_walk (n : Net) (which : Int) (w : World) (hn : n.In all w) (hw0 : 0 ≤ which) : Calls Try.prog 8 #[n.v, .int .u64 which] w fun e w' => e = .returned (.bool true) ∧ Below w.heap.size w w' := by
  have hn0 := hn
  go_enter Try.func8, Try.ntmps8
  have H0 := hide ((Env.start w).newn ((Env.start w).arg hn))
  clear hn
  go_wp2_with fail
  refine (sane_any _).mono ?_
  rintro e w1 ⟨rfl, hb⟩
  have H1 := hide (H0.out.below hb)
  clear hb H0
  obtain ⟨hbc, -, hic⟩ := H1.out.box (w.heap.size, n) (by simp)
  obtain ⟨c0, c1⟩ := hbc.c2
  cases hf : (decide (n.q.l.length ≤ 40) && decide (n.a.l.length ≤ 40)) with
  | false =>
    have HC := hide (few_is hf _ hic)
    go_wp2_with fail
    refine HC.out.mono ?_
    rintro e w2 ⟨rfl, hb⟩
    have H2 := hide (H1.out.below hb)
    clear hb HC H1 hbc hic c0 c1
    go_wp2_with fail
    go_ret
    exact ⟨rfl, H2.out.bel⟩
  | true =>
    have HC := hide (few_is hf _ hic)
    go_wp2_with fail
    refine HC.out.mono ?_
    rintro e w2 ⟨rfl, hb⟩
    have H2 := hide (H1.out.below hb)
    clear hb HC H1 hbc hic c0 c1
    have HF40 := hide (show n.q.l.length ≤ 40 ∧ n.a.l.length ≤ 40 by simpa using hf)
    clear hf
    obtain ⟨hbc, -, hic⟩ := H2.out.box (w.heap.size, n) (by simp)
    obtain ⟨c0, c1⟩ := hbc.c2
    cases hck : n.d.chk with
    | false =>
      have HC := hide (chk_is (chkI_no hck) _ hic)
      go_wp2_with fail
      refine HC.out.mono ?_
      rintro e w3 ⟨rfl, hb⟩
      have H3 := hide (H2.out.below hb)
      clear hb HC H2 hbc hic c0 c1
      go_wp2_with fail
      go_ret
      exact ⟨rfl, H3.out.bel⟩
    | true =>
      have HC := hide (chk_is (chkI_ok hck) _ hic)
      go_wp2_with fail
      refine HC.out.mono ?_
      rintro e w3 ⟨rfl, hb⟩
      have H3 := hide (H2.out.below hb)
      clear hb HC H2 hbc hic c0 c1
      have HCK := hide hck
      clear hck
      have hqs := HF40.out.1
      obtain ⟨hbc, -, hic⟩ := H3.out.box (w.heap.size, n) (by simp)
      obtain ⟨c0, c1⟩ := hbc.c2
      by_cases hz : n.q.l.length = 0
      · rw [hz] at c0
        clear hbc hic
        go_wp2_with fail
        go_ret
        exact ⟨rfl, H3.out.bel⟩
      · have hz' : (n.q.l.length : Int) ≠ 0 := by omega
        obtain ⟨i, hi⟩ : ∃ i : Nat, i = which.toNat % n.q.l.length := ⟨_, rfl⟩
        have hil : i < n.q.l.length := by rw [hi]; exact Nat.mod_lt _ (by omega)
        have hild : i < n.d.q.length := by rw [net_len]; exact hil
        have hll : n.d.q.length < 4096 := by rw [net_len]; omega
        have hw1 : IntKind.u64.wrap (n.q.l.length : Int) = (n.q.l.length : Int) := wrapu2_small _ (by omega)
        have hw2 : which.tmod (n.q.l.length : Int) = (i : Int) := by rw [Int.tmod_eq_emod_of_nonneg hw0, hi, Int.natCast_emod, Int.toNat_of_nonneg hw0]
        have hw3 : IntKind.u64.wrap (i : Int) = (i : Int) := wrapu2_small _ (by omega)
        have hw4 : IntKind.i64.wrap (i : Int) = (i : Int) := wrapi_small _ (by omega)
        have HC := hide (give_is (i := (i : Int)) (give_yes HCK.out hild) _ H3.out.okn hic)
        clear hi
        go_wp2_with fail
        refine HC.out.mono ?_
        rintro e w4 ⟨p6, n7, rfl, hd, hd2, hi, hi2, hb⟩
        have HDp6 := hide hd
        have HDn7 := hide hd2
        have HZ := hide (new2_blk w4 #[.int .i64 p6.fr, .int .i64 p6.to, .slice p6.s.A p6.s.l.length p6.s.cap])
        have H4 := hide ((H3.out.below hb).new2 hi hi2)
        clear hd hd2 hi hi2 hb H3
        clear HC
        clear hbc hic c0 c1
        have HZA := HZ
        clear HZ
        clear hw1 hw2 hw3 hw4
        obtain ⟨hbc, -, hic⟩ := H4.out.box (w.heap.size, n) (by simp)
        obtain ⟨c0, c1⟩ := hbc.c2
        have HC := hide (lose_is (lose_yes HCK.out hild) _ H4.out.okn hic)
        go_wp2_with (first | (refine wpList_store_row rfl 28 (.tmp 6) (.tmp 44) rfl w4.heap.size #[.int .i64 p6.fr, .int .i64 p6.to, .slice p6.s.A p6.s.l.length p6.s.cap] rfl rfl 28 _ HZA.out.1 Try.size28 rfl (one28 _ _ _ _ _) ?_) | (refine wpList_store_row rfl 25 (.tmp 7) (.tmp 45) rfl (w4.heap.size + 1) #[.slice n7.q.A n7.q.l.length n7.q.cap, .slice n7.a.A n7.a.l.length n7.a.cap] rfl rfl 25 _ HZA.out.2 Try.size25 rfl (one25 _ _ _ _ _ _) ?_))
        refine HC.out.mono ?_
        rintro e w5 ⟨n9, rfl, hd, hi, hb⟩
        have HDn9 := hide hd
        have H5 := hide ((H4.out.below hb).newn hi)
        clear hd hi hb H4
        clear HC
        clear hbc hic c0 c1
        clear HZA
        obtain ⟨hbc, -, hic⟩ := H5.out.box (w.heap.size, n) (by simp)
        obtain ⟨c0, c1⟩ := hbc.c2
        have HC := hide (again_is (again_yes HCK.out hild hll) _ H5.out.okn hic)
        go_wp2_with fail
        refine HC.out.mono ?_
        rintro e w6 ⟨n11, rfl, hd, hi, hb⟩
        have HDn11 := hide hd
        have H6 := hide ((H5.out.below hb).newn hi)
        clear hd hi hb H5
        clear HC
        clear hbc hic c0 c1
        have HG := hide (get_pk HCK.out hild)
        have HCK11 := hide (chk_more HCK.out HG.out hll)
        have HL11 := hide (show i < (Nt.mk (n.d.q ++ [n.d.get i]) n.d.a).q.length by show i < (n.d.q ++ [n.d.get i]).length; rw [List.length_append]; omega)
        obtain ⟨hbc, -, hic⟩ := H6.out.box (w6.heap.size, n11) (by simp)
        obtain ⟨c0, c1⟩ := hbc.c2
        have HC := hide (lose_is (i := (i : Int)) (x := (Nt.mk (n.d.q ++ [n.d.get i]) n.d.a).drop i) (k := 0) (by rw [HDn11.out]; exact lose_yes HCK11.out HL11.out) _ H6.out.okn hic)
        go_wp2_with fail
        refine HC.out.mono ?_
        rintro e w7 ⟨n13, rfl, hd, hi, hb⟩
        have HDn13 := hide hd
        have H7 := hide ((H6.out.below hb).newn hi)
        clear hd hi hb H6
        clear HC
        clear hbc hic c0 c1
        replace H7 := hide (show Env w _ _ (w7.alloc (.cells #[.slice n13.q.A n13.q.l.length n13.q.cap, .slice n13.a.A n13.a.l.length n13.a.cap] 25)) from H7.out)
        go_upto_region 10 with (fail)
        generalize w7.alloc (.cells #[.slice n13.q.A n13.q.l.length n13.q.cap, .slice n13.a.A n13.a.l.length n13.a.cap] 25) = wB at *
        replace H7 := hide (show Env w [(w7.heap.size, n13), (w6.heap.size, n11), (w5.heap.size, n9), (w4.heap.size + 1, n7), (w.heap.size, n)] [(w4.heap.size, p6)] wB from H7.out)
        obtain ⟨b, o, hA, hlt, f0, f1, f2⟩ := hn0.q.at hil
        have HPI := hide (hn0.q.p _ (List.getElem_mem hil))
        have HPD := hide (show (n.q.l[i]).d = n.d.get i by unfold Nt.get; simp [Net.d, List.getD_eq_getElem?_getD, hil])
        have HPC := hide (show ∀ W, Below wB.heap.size wB W → W.cell? ⟨b, o + i * 3, none⟩ = _ ∧ W.cell? ⟨b, o + i * 3 + 1, none⟩ = _ ∧ W.cell? ⟨b, o + i * 3 + 2, none⟩ = _ from fun W hW => ⟨(((H7.out.below hW).bel).cell (p := ⟨b, o + i * 3, none⟩) hlt).trans f0, (((H7.out.below hW).bel).cell (p := ⟨b, o + i * 3 + 1, none⟩) hlt).trans f1, (((H7.out.below hW).bel).cell (p := ⟨b, o + i * 3 + 2, none⟩) hlt).trans f2⟩)
        clear hlt f0 f1 f2 hn0
        generalize n.q.l[i] = pp at *
        have HQ := hide (fun v (hv : Below wB.heap.size wB v) => And.intro ((H7.out.below hv).box (w.heap.size, n) (by simp)).1.c2 ((H7.out.below hv).box (w5.heap.size, n9) (by simp)).1.c2)
        have hii : (i : Int) < (n.q.l.length : Int) := by omega
        have HSX := hide (show n9.d.send pp.d = (⟨(n.d.drop i).q ++ [n.d.get i], n.d.a⟩, 0) by rw [HDn9.out, HPD.out]; exact send_yes (chk_drop HCK.out i) HG.out (by rw [drop_len n.d hild]; omega))
        rw [hA]
        go_cut [15, 16] from 65 to 74 (fun u v W => ∃ (X : Nat) (n15 : Net), u = .pointer (some ⟨X, 0, none⟩) ∧ v = .int .i64 0 ∧ Hid (n15.d = ⟨(n.d.drop i).q ++ [n.d.get i], n.d.a⟩) ∧ Hid (Env w ((X, n15) :: [(w7.heap.size, n13), (w6.heap.size, n11), (w5.heap.size, n9), (w4.heap.size + 1, n7), (w.heap.size, n)]) [(w4.heap.size, p6)] W) ∧ Hid (X ∉ [w7.heap.size, w6.heap.size, w5.heap.size, w4.heap.size + 1, w.heap.size]))
        case first =>
          refine wp_region_plan4 (fun W => Below wB.heap.size wB W) (.take 0 (.take 1 (.take 2 (.take 3 (.take 4 (.take 5 (.both 6 (.take 7 (.take 8 (.take 9 (.run 10 (.run 11 (.run 12 .done)))))) 10 (.run 6 (.take 7 (.take 8 (.take 9 (.run 11 (.run 12 .done))))))))))))) (by kernel_rfl) (by kernel_rfl) ((Below.refl _ _).drew) ?_
          have HE := hide (Env.drew H7.out)
          have HF0 := hide (show Below wB.heap.size wB wB.drew from (Below.refl _ _).drew)
          generalize wB.drew = wD at HF0 HE ⊢
          (refine plan4_take (o := ?_) (v := ?_) (by simp only [List.getElem?_toArray, List.getElem?_cons_zero]; rfl) (yields_run (by rfl) ?_) ?_; rotate_left; (focus (intro w' hw'; obtain ⟨⟨c0, c1⟩, ⟨d0, d1⟩⟩ := HQ.out w' hw'; obtain ⟨f0, f1, f2⟩ := HPC.out w' hw'; go_simp <;> with_reducible rfl)); (simp only [Act.put, List.setIfInBounds_toArray, List.set_cons_zero, List.set_cons_succ]))
          (refine plan4_take (o := ?_) (v := ?_) (by simp only [List.getElem?_toArray, List.getElem?_cons_succ, List.getElem?_cons_zero]; rfl) (yields_run (by rfl) ?_) ?_; rotate_left; (focus (intro w' hw'; skip; go_simp <;> with_reducible rfl)); (simp only [Act.put, List.setIfInBounds_toArray, List.set_cons_zero, List.set_cons_succ]))
          (refine plan4_take (o := ?_) (v := ?_) (by simp only [List.getElem?_toArray, List.getElem?_cons_succ, List.getElem?_cons_zero]; rfl) (yields_run (by rfl) ?_) ?_; rotate_left; (focus (intro w' hw'; obtain ⟨⟨c0, c1⟩, ⟨d0, d1⟩⟩ := HQ.out w' hw'; obtain ⟨f0, f1, f2⟩ := HPC.out w' hw'; go_simp <;> with_reducible rfl)); (simp only [Act.put, List.setIfInBounds_toArray, List.set_cons_zero, List.set_cons_succ]))
          (refine plan4_take (o := ?_) (v := ?_) (by simp only [List.getElem?_toArray, List.getElem?_cons_succ, List.getElem?_cons_zero]; rfl) (yields_run (by rfl) ?_) ?_; rotate_left; (focus (intro w' hw'; skip; go_simp <;> with_reducible rfl)); (simp only [Act.put, List.setIfInBounds_toArray, List.set_cons_zero, List.set_cons_succ]))
          (refine plan4_take (o := ?_) (v := ?_) (by simp only [List.getElem?_toArray, List.getElem?_cons_succ, List.getElem?_cons_zero]; rfl) (yields_run (by rfl) ?_) ?_; rotate_left; (focus (intro w' hw'; obtain ⟨⟨c0, c1⟩, ⟨d0, d1⟩⟩ := HQ.out w' hw'; obtain ⟨f0, f1, f2⟩ := HPC.out w' hw'; go_simp <;> with_reducible rfl)); (simp only [Act.put, List.setIfInBounds_toArray, List.set_cons_zero, List.set_cons_succ]))
          (refine plan4_take (o := ?_) (v := ?_) (by simp only [List.getElem?_toArray, List.getElem?_cons_succ, List.getElem?_cons_zero]; rfl) (yields_run (by rfl) ?_) ?_; rotate_left; (focus (intro w' hw'; obtain ⟨⟨c0, c1⟩, ⟨d0, d1⟩⟩ := HQ.out w' hw'; obtain ⟨f0, f1, f2⟩ := HPC.out w' hw'; go_simp <;> with_reducible rfl)); (simp only [Act.put, List.setIfInBounds_toArray, List.set_cons_zero, List.set_cons_succ]))
          refine plan4_both (o1 := ?_) (o2 := ?_) (by simp only [List.getElem?_toArray, List.getElem?_cons_succ, List.getElem?_cons_zero]; rfl) (by simp only [List.getElem?_toArray, List.getElem?_cons_succ, List.getElem?_cons_zero]; rfl) ?_ ?_
          · intro R HR
            go_wp2_with fail
            refine (send_is (n := n9) (p := pp) HSX.out _ HE.out.okn (HE.out.box (w5.heap.size, n9) (by simp)).2.2 (HE.out.argp HPI.out)).mono ?_
            rintro e v6 ⟨n15, rfl, hd, hi, hb⟩
            have HDn15 := hide hd
            have HE6 := hide (HE.out.below hb)
            have HF6 := hide (below_one HF0.out hb)
            have HI6 := hide hi
            clear hd hi hb
            go_wp2_with fail
            refine HR.out _ _ HF6.out ?_
            clear HR
            (refine plan4_take (o := ?_) (v := ?_) (by simp only [List.getElem?_toArray, List.getElem?_cons_succ, List.getElem?_cons_zero]; rfl) (yields_run (by rfl) ?_) ?_; rotate_left; (focus (intro w' hw'; skip; go_simp <;> with_reducible rfl)); (simp only [Act.put, List.setIfInBounds_toArray, List.set_cons_zero, List.set_cons_succ]))
            (refine plan4_take (o := ?_) (v := ?_) (by simp only [List.getElem?_toArray, List.getElem?_cons_succ, List.getElem?_cons_zero]; rfl) (yields_run (by rfl) ?_) ?_; rotate_left; (focus (intro w' hw'; skip; go_simp <;> with_reducible rfl)); (simp only [Act.put, List.setIfInBounds_toArray, List.set_cons_zero, List.set_cons_succ]))
            (refine plan4_take (o := ?_) (v := ?_) (by simp only [List.getElem?_toArray, List.getElem?_cons_succ, List.getElem?_cons_zero]; rfl) (yields_run (by rfl) ?_) ?_; rotate_left; (focus (intro w' hw'; skip; go_simp <;> with_reducible rfl)); (simp only [Act.put, List.setIfInBounds_toArray, List.set_cons_zero, List.set_cons_succ]))
            refine plan4_run (o := ?_) (by simp only [List.getElem?_toArray, List.getElem?_cons_succ, List.getElem?_cons_zero]; rfl) ?_
            intro R HR
            have HE10 := hide (show Env w ((v6.heap.size, _) :: [(w7.heap.size, n13), (w6.heap.size, n11), (w5.heap.size, n9), (w4.heap.size + 1, n7), (w.heap.size, n)]) [(w4.heap.size, p6)] (v6.alloc (.cells #[.slice none 0 0, .slice none 0 0] 25)) from HE6.out.newn (n := ⟨⟨none, [], 0⟩, ⟨none, [], 0⟩⟩) ⟨⟨SlIn.none _, fun p hp => by cases hp⟩, ⟨SlIn.none _, fun p hp => by cases hp⟩⟩)
            have HF10 := hide (HF6.out.trans ((below_new v6 (.cells #[.slice none 0 0, .slice none 0 0] 25)).mono HF6.out.size))
            have HNE := hide (show v6.heap.size ∉ [w7.heap.size, w6.heap.size, w5.heap.size, w4.heap.size + 1, w.heap.size] from env_fresh HE6.out)
            have HI10 := hide ((HI6.out.weak (oks_newn (n := ⟨⟨none, [], 0⟩, ⟨none, [], 0⟩⟩))).below (below_new v6 (.cells #[.slice none 0 0, .slice none 0 0] 25)))
            go_wp2_with fail
            refine HR.out _ _ HF10.out ?_
            clear HR
            refine plan4_run (o := ?_) (by simp only [List.getElem?_toArray, List.getElem?_cons_succ, List.getElem?_cons_zero]; rfl) ?_
            intro R HR
            have HB := hide (HE10.out.box (v6.heap.size, _) (List.mem_cons_self ..)).1
            have HE11 := hide (HE10.out.put1 (n' := n15) HI10.out (env_ne HNE.out))
            have HF11 := hide (below_setRow HF10.out (env_le HF6.out) #[.slice n15.q.A n15.q.l.length n15.q.cap, .slice n15.a.A n15.a.l.length n15.a.cap])
            refine wpList_store_row rfl 25 (.tmp 15) (.tmp 73) rfl _ #[.slice n15.q.A n15.q.l.length n15.q.cap, .slice n15.a.A n15.a.l.length n15.a.cap] rfl rfl 25 _ HB.out Try.size25 rfl (one25 _ _ _ _ _ _) ?_
            refine HR.out _ _ HF11.out ?_
            clear HR
            refine plan4_run (o := ?_) (by simp only [List.getElem?_toArray, List.getElem?_cons_succ, List.getElem?_cons_zero]; rfl) ?_
            intro R HR
            go_wp2_with fail
            refine HR.out _ _ HF11.out ?_
            clear HR
            refine plan4_done ?_
            go_wp2_with fail
            go_meet
            case rel => exact ⟨v6.heap.size, n15, rfl, rfl, HDn15, HE11, HNE⟩
          · intro R HR
            have HE10 := hide (show Env w ((wD.heap.size, _) :: [(w7.heap.size, n13), (w6.heap.size, n11), (w5.heap.size, n9), (w4.heap.size + 1, n7), (w.heap.size, n)]) [(w4.heap.size, p6)] (wD.alloc (.cells #[.slice none 0 0, .slice none 0 0] 25)) from HE.out.newn (n := ⟨⟨none, [], 0⟩, ⟨none, [], 0⟩⟩) ⟨⟨SlIn.none _, fun p hp => by cases hp⟩, ⟨SlIn.none _, fun p hp => by cases hp⟩⟩)
            have HF10 := hide (HF0.out.trans ((below_new wD (.cells #[.slice none 0 0, .slice none 0 0] 25)).mono HF0.out.size))
            have HNE := hide (show wD.heap.size ∉ [w7.heap.size, w6.heap.size, w5.heap.size, w4.heap.size + 1, w.heap.size] from env_fresh HE.out)
            go_wp2_with fail
            refine HR.out _ _ HF10.out ?_
            clear HR
            refine plan4_run (o := ?_) (by simp only [List.getElem?_toArray, List.getElem?_cons_succ, List.getElem?_cons_zero]; rfl) ?_
            intro R HR
            go_wp2_with fail
            refine (send_is (n := n9) (p := pp) HSX.out _ HE10.out.okn (HE10.out.box (w5.heap.size, n9) (by simp)).2.2 (HE10.out.argp HPI.out)).mono ?_
            rintro e v6 ⟨n15, rfl, hd, hi, hb⟩
            have HDn15 := hide hd
            have HE6 := hide (HE10.out.below hb)
            have HF6 := hide (below_one HF10.out hb)
            have HI6 := hide hi
            clear hd hi hb
            go_wp2_with fail
            refine HR.out _ _ HF6.out ?_
            clear HR
            (refine plan4_take (o := ?_) (v := ?_) (by simp only [List.getElem?_toArray, List.getElem?_cons_succ, List.getElem?_cons_zero]; rfl) (yields_run (by rfl) ?_) ?_; rotate_left; (focus (intro w' hw'; skip; go_simp <;> with_reducible rfl)); (simp only [Act.put, List.setIfInBounds_toArray, List.set_cons_zero, List.set_cons_succ]))
            (refine plan4_take (o := ?_) (v := ?_) (by simp only [List.getElem?_toArray, List.getElem?_cons_succ, List.getElem?_cons_zero]; rfl) (yields_run (by rfl) ?_) ?_; rotate_left; (focus (intro w' hw'; skip; go_simp <;> with_reducible rfl)); (simp only [Act.put, List.setIfInBounds_toArray, List.set_cons_zero, List.set_cons_succ]))
            (refine plan4_take (o := ?_) (v := ?_) (by simp only [List.getElem?_toArray, List.getElem?_cons_succ, List.getElem?_cons_zero]; rfl) (yields_run (by rfl) ?_) ?_; rotate_left; (focus (intro w' hw'; skip; go_simp <;> with_reducible rfl)); (simp only [Act.put, List.setIfInBounds_toArray, List.set_cons_zero, List.set_cons_succ]))
            refine plan4_run (o := ?_) (by simp only [List.getElem?_toArray, List.getElem?_cons_succ, List.getElem?_cons_zero]; rfl) ?_
            intro R HR
            have HB := hide (HE6.out.box (wD.heap.size, _) (List.mem_cons_self ..)).1
            have HE11 := hide (HE6.out.put1 (n' := n15) HI6.out (env_ne HNE.out))
            have HF11 := hide (below_setRow HF6.out (env_le HF0.out) #[.slice n15.q.A n15.q.l.length n15.q.cap, .slice n15.a.A n15.a.l.length n15.a.cap])
            refine wpList_store_row rfl 25 (.tmp 15) (.tmp 73) rfl _ #[.slice n15.q.A n15.q.l.length n15.q.cap, .slice n15.a.A n15.a.l.length n15.a.cap] rfl rfl 25 _ HB.out Try.size25 rfl (one25 _ _ _ _ _ _) ?_
            refine HR.out _ _ HF11.out ?_
            clear HR
            refine plan4_run (o := ?_) (by simp only [List.getElem?_toArray, List.getElem?_cons_succ, List.getElem?_cons_zero]; rfl) ?_
            intro R HR
            go_wp2_with fail
            refine HR.out _ _ HF11.out ?_
            clear HR
            refine plan4_done ?_
            go_wp2_with fail
            go_meet
            case rel => exact ⟨wD.heap.size, n15, rfl, rfl, HDn15, HE11, HNE⟩
        case rest =>
          obtain ⟨X, n15, rfl, rfl, HD15, HE, HNE⟩ := hcut
          clear H7 HQ HPC HSX HPI HPD hA
          obtain ⟨hbc, -, hic⟩ := HE.out.box (w4.heap.size + 1, n7) (by simp)
          obtain ⟨c0, c1⟩ := hbc.c2
          obtain ⟨hbd, -, hid⟩ := HE.out.box (w5.heap.size, n9) (by simp)
          obtain ⟨d0, d1⟩ := hbd.c2
          have HC := hide (same_any _ _ _ hic hid (HDn7.out.trans HDn9.out.symm))
          go_wp2_with fail
          refine HC.out.mono ?_
          rintro e w51 ⟨rfl, hb⟩
          have H51 := hide (HE.out.below hb)
          clear hb HC hbc hic hbd hid c0 c1 d0 d1 HE
          obtain ⟨hbc, -, hic⟩ := H51.out.box (w7.heap.size, n13) (by simp)
          obtain ⟨c0, c1⟩ := hbc.c2
          obtain ⟨hbd, -, hid⟩ := H51.out.box (X, n15) (by simp)
          obtain ⟨d0, d1⟩ := hbd.c2
          have HC := hide (same_any _ _ _ hic hid (HDn13.out.trans ((drop_more hild _).trans HD15.out.symm)))
          go_wp2_with fail
          refine HC.out.mono ?_
          rintro e w52 ⟨rfl, hb⟩
          have H52 := hide (H51.out.below hb)
          clear hb HC hbc hic hbd hid c0 c1 d0 d1 H51
          obtain ⟨hbc, -, hic⟩ := H52.out.box (w6.heap.size, n11) (by simp)
          obtain ⟨c0, c1⟩ := hbc.c2
          obtain ⟨hbd, -, hid⟩ := H52.out.box (w.heap.size, n) (by simp)
          obtain ⟨d0, d1⟩ := hbd.c2
          have hlen : n11.q.l.length = n.q.l.length + 1 := by
            have h1 := congrArg (fun x : Nt => x.q.length) HDn11.out
            simp only [List.length_append, List.length_cons, List.length_nil, net_len] at h1
            exact h1
          rw [hlen] at c0
          clear hbc hic hbd hid
          go_wp2_with fail
          go_ret
          exact ⟨rfl, H52.out.bel⟩
end Go.Proofs.Ythmaakiibgdigaa
