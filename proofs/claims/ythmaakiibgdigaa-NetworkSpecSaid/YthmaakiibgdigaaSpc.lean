/- NetworkSpec: the walk. -/
import Derived.Test.YthmaakiibgdigaaSan
import Derived.Test.YthmaakiibgdigaaOpn
namespace Go.Proofs.Ythmaakiibgdigaa
open Go.RowKit

set_option maxRecDepth 100000 in
set_option maxHeartbeats 6400000 in
theorem spec_walk (n : Net) (p : Pkt) (w : World) (hn : n.In all w) (hp : p.In all w) : Calls Try.prog 3 #[n.v, p.v] w fun e w' => e = .returned (.bool true) ∧ Below w.heap.size w w' := by
  go_enter Try.func3, Try.ntmps3
  have H0 := hide ((Env.start w).newn ((Env.start w).arg hn))
  have HA := hide (H0.out.newp (H0.out.argp hp))
  simp only [World.size_alloc] at HA
  clear H0 hn hp
  go_wp2_with fail
  refine (sane_any _).mono ?_
  rintro e w1 ⟨rfl, hb⟩
  have H1 := hide (HA.out.below hb)
  clear hb HA
  obtain ⟨hbc, -, hic⟩ := H1.out.box (w.heap.size, n) (by simp)
  obtain ⟨c0, c1⟩ := hbc.c2
  cases hf : (decide (n.q.l.length ≤ 40) && decide (n.a.l.length ≤ 40)) with
  | false =>
    have HC := hide (few_is hf _ hic)
    go_wp2_with fail
    refine HC.out.mono ?_
    rintro e w2 ⟨rfl, hb⟩
    have H2 := hide (H1.out.below hb)
    clear hb HC H1 hbc hic c0 c1
    go_wp2_with fail
    go_ret
    exact ⟨rfl, H2.out.bel⟩
  | true =>
    have HC := hide (few_is hf _ hic)
    go_wp2_with fail
    refine HC.out.mono ?_
    rintro e w2 ⟨rfl, hb⟩
    have H2 := hide (H1.out.below hb)
    clear hb HC H1 hbc hic c0 c1 hf
    cases hx : n.d.send p.d with
    | mk x k =>
      obtain ⟨hbc, -, hic⟩ := H2.out.box (w.heap.size, n) (by simp)
      obtain ⟨c0, c1⟩ := hbc.c2
      obtain ⟨hbd, -, hid⟩ := H2.out.pks (w.heap.size + 1, p) (by simp)
      obtain ⟨d0, d1, d2⟩ := hbd.c3
      have HC := hide (send_is hx _ H2.out.okn hic hid)
      go_wp2_with fail
      refine HC.out.mono ?_
      rintro e w3 ⟨n5, rfl, hd, hi, hb⟩
      have HDn5 := hide hd
      have H3 := hide ((H2.out.below hb).newn hi)
      clear hd hi hb H2
      clear hbc hic c0 c1 hbd hid d0 d1 d2 HC
      obtain ⟨hbc, -, hic⟩ := H3.out.box (w.heap.size, n) (by simp)
      obtain ⟨c0, c1⟩ := hbc.c2
      obtain ⟨hbd, -, hid⟩ := H3.out.pks (w.heap.size + 1, p) (by simp)
      obtain ⟨d0, d1, d2⟩ := hbd.c3
      have HC := hide (rsend_is hx _ H3.out.okn hic hid)
      go_wp2_with fail
      refine HC.out.mono ?_
      rintro e w4 ⟨n7, rfl, hd, hi, hb⟩
      have HDn7 := hide hd
      have H4 := hide ((H3.out.below hb).newn hi)
      clear hd hi hb H3
      clear hbc hic c0 c1 hbd hid d0 d1 d2 HC
      replace H4 := hide (show Env w _ _ (w4.alloc (.cells #[.slice n7.q.A n7.q.l.length n7.q.cap, .slice n7.a.A n7.a.l.length n7.a.cap] 25)) from H4.out)
      go_wp2_with fail
      generalize w4.alloc (.cells #[.slice n7.q.A n7.q.l.length n7.q.cap, .slice n7.a.A n7.a.l.length n7.a.cap] 25) = wB at *
      clear hx
      have HC1 := hide (fun v (hv : Below wB.heap.size wB v) => chk_is (n := n) (k := n.d.chkI) rfl v ((H4.out.below hv).box (w.heap.size, n) (by simp)).2.2)
      have HC3 := hide (fun v (hv : Below wB.heap.size wB v) => rchk_is (n := n) (k := n.d.chkI) rfl v ((H4.out.below hv).box (w.heap.size, n) (by simp)).2.2)
      have HC8 := hide (fun v (hv : Below wB.heap.size wB v) => same_any n5 n7 v ((H4.out.below hv).box (w3.heap.size, n5) (by simp)).2.2 ((H4.out.below hv).box (w4.heap.size, n7) (by simp)).2.2 (HDn5.out.trans HDn7.out.symm))
      have HC18 := hide (fun v => same_any Net.zero Net.zero v (Net.zero_in (ok := all) v) (Net.zero_in (ok := all) v) rfl)
      have HQ := hide (fun v (hv : Below wB.heap.size wB v) => And.intro ((H4.out.below hv).box (w.heap.size, n) (by simp)).1.c2 (And.intro ((H4.out.below hv).box (w3.heap.size, n5) (by simp)).1.c2 ((H4.out.below hv).box (w4.heap.size, n7) (by simp)).1.c2))
      have HBW := hide H4.out.bel
      clear H4
      generalize n.d.chkI = ck at *
      refine wp_region_plan4 (fun W => Below wB.heap.size wB W) (.take 0 (.take 2 (.run 1 (.run 3 (.take 4 (.take 5 (.take 6 (.take 7 (.run 8 (.take 9 (.take 10 (.take 11 (.take 12 (.take 13 (.take 14 (.take 15 (.run 16 (.run 17 (.run 18 (.take 19 (.run 20 .done))))))))))))))))))))) (by kernel_rfl) (by kernel_rfl) ((Below.refl _ _).drew) ?_
      have HF0 := hide (show Below wB.heap.size wB wB.drew from (Below.refl _ _).drew)
      generalize wB.drew = wD at HF0 ⊢
      (refine plan4_take (o := ?_) (v := ?_) (by simp only [List.getElem?_toArray, List.getElem?_cons_zero]; rfl) (yields_run (by rfl) ?_) ?_; rotate_left; (focus (intro w' hw'; obtain ⟨⟨c0, c1⟩, ⟨d0, d1⟩, ⟨e0, e1⟩⟩ := HQ.out w' hw'; go_simp <;> with_reducible rfl)); (simp only [Act.put, List.setIfInBounds_toArray, List.set_cons_zero, List.set_cons_succ]))
      (refine plan4_take (o := ?_) (v := ?_) (by simp only [List.getElem?_toArray, List.getElem?_cons_succ, List.getElem?_cons_zero]; rfl) (yields_run (by rfl) ?_) ?_; rotate_left; (focus (intro w' hw'; obtain ⟨⟨c0, c1⟩, ⟨d0, d1⟩, ⟨e0, e1⟩⟩ := HQ.out w' hw'; go_simp <;> with_reducible rfl)); (simp only [Act.put, List.setIfInBounds_toArray, List.set_cons_zero, List.set_cons_succ]))
      refine plan4_run (o := ?_) (by simp only [List.getElem?_toArray, List.getElem?_cons_succ, List.getElem?_cons_zero]; rfl) ?_
      intro R HR
      go_wp2_with fail
      (with_reducible refine (HC1.out _ HF0.out).mono ?_)
      rintro e v1 ⟨rfl, hb⟩
      have HF1 := hide (below_one HF0.out hb)
      clear hb
      go_wp2_with fail
      refine HR.out _ _ HF1.out ?_
      clear HR
      refine plan4_run (o := ?_) (by simp only [List.getElem?_toArray, List.getElem?_cons_succ, List.getElem?_cons_zero]; rfl) ?_
      intro R HR
      go_wp2_with fail
      (with_reducible refine (HC3.out _ HF1.out).mono ?_)
      rintro e v2 ⟨rfl, hb⟩
      have HF2 := hide (below_one HF1.out hb)
      clear hb
      go_wp2_with fail
      refine HR.out _ _ HF2.out ?_
      clear HR
      (refine plan4_take (o := ?_) (v := ?_) (by simp only [List.getElem?_toArray, List.getElem?_cons_succ, List.getElem?_cons_zero]; rfl) (yields_run (by rfl) ?_) ?_; rotate_left; (focus (intro w' hw'; obtain ⟨⟨c0, c1⟩, ⟨d0, d1⟩, ⟨e0, e1⟩⟩ := HQ.out w' hw'; go_simp <;> with_reducible rfl)); (simp only [Act.put, List.setIfInBounds_toArray, List.set_cons_zero, List.set_cons_succ]))
      (refine plan4_take (o := ?_) (v := ?_) (by simp only [List.getElem?_toArray, List.getElem?_cons_succ, List.getElem?_cons_zero]; rfl) (yields_run (by rfl) ?_) ?_; rotate_left; (focus (intro w' hw'; obtain ⟨⟨c0, c1⟩, ⟨d0, d1⟩, ⟨e0, e1⟩⟩ := HQ.out w' hw'; go_simp <;> with_reducible rfl)); (simp only [Act.put, List.setIfInBounds_toArray, List.set_cons_zero, List.set_cons_succ]))
      (refine plan4_take (o := ?_) (v := ?_) (by simp only [List.getElem?_toArray, List.getElem?_cons_succ, List.getElem?_cons_zero]; rfl) (yields_run (by rfl) ?_) ?_; rotate_left; (focus (intro w' hw'; obtain ⟨⟨c0, c1⟩, ⟨d0, d1⟩, ⟨e0, e1⟩⟩ := HQ.out w' hw'; go_simp <;> with_reducible rfl)); (simp only [Act.put, List.setIfInBounds_toArray, List.set_cons_zero, List.set_cons_succ]))
      (refine plan4_take (o := ?_) (v := ?_) (by simp only [List.getElem?_toArray, List.getElem?_cons_succ, List.getElem?_cons_zero]; rfl) (yields_run (by rfl) ?_) ?_; rotate_left; (focus (intro w' hw'; obtain ⟨⟨c0, c1⟩, ⟨d0, d1⟩, ⟨e0, e1⟩⟩ := HQ.out w' hw'; go_simp <;> with_reducible rfl)); (simp only [Act.put, List.setIfInBounds_toArray, List.set_cons_zero, List.set_cons_succ]))
      refine plan4_run (o := ?_) (by simp only [List.getElem?_toArray, List.getElem?_cons_succ, List.getElem?_cons_zero]; rfl) ?_
      intro R HR
      go_wp2_with fail
      (with_reducible refine (HC8.out _ HF2.out).mono ?_)
      rintro e v3 ⟨rfl, hb⟩
      have HF3 := hide (below_one HF2.out hb)
      clear hb
      go_wp2_with fail
      refine HR.out _ _ HF3.out ?_
      clear HR
      (refine plan4_take (o := ?_) (v := ?_) (by simp only [List.getElem?_toArray, List.getElem?_cons_succ, List.getElem?_cons_zero]; rfl) (yields_run (by rfl) ?_) ?_; rotate_left; (focus (intro w' hw'; obtain ⟨⟨c0, c1⟩, ⟨d0, d1⟩, ⟨e0, e1⟩⟩ := HQ.out w' hw'; go_simp <;> with_reducible rfl)); (simp only [Act.put, List.setIfInBounds_toArray, List.set_cons_zero, List.set_cons_succ]))
      (refine plan4_take (o := ?_) (v := ?_) (by simp only [List.getElem?_toArray, List.getElem?_cons_succ, List.getElem?_cons_zero]; rfl) (yields_run (by rfl) ?_) ?_; rotate_left; (focus (intro w' hw'; obtain ⟨⟨c0, c1⟩, ⟨d0, d1⟩, ⟨e0, e1⟩⟩ := HQ.out w' hw'; go_simp <;> with_reducible rfl)); (simp only [Act.put, List.setIfInBounds_toArray, List.set_cons_zero, List.set_cons_succ]))
      (refine plan4_take (o := ?_) (v := ?_) (by simp only [List.getElem?_toArray, List.getElem?_cons_succ, List.getElem?_cons_zero]; rfl) (yields_run (by rfl) ?_) ?_; rotate_left; (focus (intro w' hw'; obtain ⟨⟨c0, c1⟩, ⟨d0, d1⟩, ⟨e0, e1⟩⟩ := HQ.out w' hw'; go_simp <;> with_reducible rfl)); (simp only [Act.put, List.setIfInBounds_toArray, List.set_cons_zero, List.set_cons_succ]))
      (refine plan4_take (o := ?_) (v := ?_) (by simp only [List.getElem?_toArray, List.getElem?_cons_succ, List.getElem?_cons_zero]; rfl) (yields_run (by rfl) ?_) ?_; rotate_left; (focus (intro w' hw'; obtain ⟨⟨c0, c1⟩, ⟨d0, d1⟩, ⟨e0, e1⟩⟩ := HQ.out w' hw'; go_simp <;> with_reducible rfl)); (simp only [Act.put, List.setIfInBounds_toArray, List.set_cons_zero, List.set_cons_succ]))
      (refine plan4_take (o := ?_) (v := ?_) (by simp only [List.getElem?_toArray, List.getElem?_cons_succ, List.getElem?_cons_zero]; rfl) (yields_run (by rfl) ?_) ?_; rotate_left; (focus (intro w' hw'; obtain ⟨⟨c0, c1⟩, ⟨d0, d1⟩, ⟨e0, e1⟩⟩ := HQ.out w' hw'; go_simp <;> with_reducible rfl)); (simp only [Act.put, List.setIfInBounds_toArray, List.set_cons_zero, List.set_cons_succ]))
      (refine plan4_take (o := ?_) (v := ?_) (by simp only [List.getElem?_toArray, List.getElem?_cons_succ, List.getElem?_cons_zero]; rfl) (yields_run (by rfl) ?_) ?_; rotate_left; (focus (intro w' hw'; obtain ⟨⟨c0, c1⟩, ⟨d0, d1⟩, ⟨e0, e1⟩⟩ := HQ.out w' hw'; go_simp <;> with_reducible rfl)); (simp only [Act.put, List.setIfInBounds_toArray, List.set_cons_zero, List.set_cons_succ]))
      (refine plan4_take (o := ?_) (v := ?_) (by simp only [List.getElem?_toArray, List.getElem?_cons_succ, List.getElem?_cons_zero]; rfl) (yields_run (by rfl) ?_) ?_; rotate_left; (focus (intro w' hw'; obtain ⟨⟨c0, c1⟩, ⟨d0, d1⟩, ⟨e0, e1⟩⟩ := HQ.out w' hw'; go_simp <;> with_reducible rfl)); (simp only [Act.put, List.setIfInBounds_toArray, List.set_cons_zero, List.set_cons_succ]))
      refine plan4_run (o := ?_) (by simp only [List.getElem?_toArray, List.getElem?_cons_succ, List.getElem?_cons_zero]; rfl) ?_
      intro R HR
      go_wp2_with fail
      (with_reducible refine (new_any _).mono ?_)
      rintro e v4 ⟨rfl, hb⟩
      have HF4 := hide (below_one HF3.out hb)
      clear hb
      go_wp2_with fail
      refine HR.out _ _ HF4.out ?_
      clear HR
      refine plan4_run (o := ?_) (by simp only [List.getElem?_toArray, List.getElem?_cons_succ, List.getElem?_cons_zero]; rfl) ?_
      intro R HR
      go_wp2_with fail
      (with_reducible refine (rnew_any _).mono ?_)
      rintro e v5 ⟨rfl, hb⟩
      have HF5 := hide (below_one HF4.out hb)
      clear hb
      go_wp2_with fail
      refine HR.out _ _ HF5.out ?_
      clear HR
      refine plan4_run (o := ?_) (by simp only [List.getElem?_toArray, List.getElem?_cons_succ, List.getElem?_cons_zero]; rfl) ?_
      intro R HR
      go_wp2_with fail
      (with_reducible refine (HC18.out _).mono ?_)
      rintro e v6 ⟨rfl, hb⟩
      have HF6 := hide (below_one HF5.out hb)
      clear hb
      go_wp2_with fail
      refine HR.out _ _ HF6.out ?_
      clear HR
      (refine plan4_take (o := ?_) (v := ?_) (by simp only [List.getElem?_toArray, List.getElem?_cons_succ, List.getElem?_cons_zero]; rfl) (yields_run (by rfl) ?_) ?_; rotate_left; (focus (intro w' hw'; obtain ⟨⟨c0, c1⟩, ⟨d0, d1⟩, ⟨e0, e1⟩⟩ := HQ.out w' hw'; go_simp <;> with_reducible rfl)); (simp only [Act.put, List.setIfInBounds_toArray, List.set_cons_zero, List.set_cons_succ]))
      refine plan4_run (o := ?_) (by simp only [List.getElem?_toArray, List.getElem?_cons_succ, List.getElem?_cons_zero]; rfl) ?_
      intro R HR
      go_wp2_with fail
      refine HR.out _ _ HF6.out ?_
      clear HR
      refine plan4_done ?_
      go_wp2_with fail
      go_ret
      exact ⟨rfl, HBW.out.trans (HF6.out.mono HBW.out.size)⟩
end Go.Proofs.Ythmaakiibgdigaa
