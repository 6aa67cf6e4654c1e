/- JournalSteps: the walk. -/
import Derived.Test.YtgigccgklahddaaSte
import Derived.Test.YtgigccgklahddaaJsm
import Derived.Test.YtgigccgklahddaaOpu
namespace Go.Proofs.Ytgigccgklahddaa
open Go.RowKit

theorem secs_one' (l : List Sec) : ∀ u ∈ secs l, u.oneCell' = true := fun u hu => by
  obtain ⟨s, _, rfl⟩ := List.mem_map.1 hu
  rfl
theorem Env.freshj {n0 : Nat} {w W : World} {l : List (Nat × Dsk)} {q : List (Nat × Jr)} {m : List Sec} (h : Env n0 w l q m W) (hn : n0 ≤ w.heap.size) : Env n0 w l ((W.heap.size, Jr.zero) :: q) m (W.alloc (.cells #[.slice none 0 0, .int .i64 0, .int .i64 0] 29)) := h.newj hn (Jr.zero_in W)
theorem Env.freshd {n0 : Nat} {w W : World} {l : List (Nat × Dsk)} {q : List (Nat × Jr)} {m : List Sec} (h : Env n0 w l q m W) (hn : n0 ≤ w.heap.size) : Env n0 w ((W.heap.size, Dsk.zero) :: l) q m (W.alloc (.cells #[.slice none 0 0, .slice none 0 0, .int .i64 0, .bool false] 25)) := h.newd hn (Dsk.zero_in W)
theorem Env.put1d {n0 : Nat} {w W : World} {l : List (Nat × Dsk)} {q : List (Nat × Jr)} {m : List Sec} {a : Nat} {x y : Dsk} (h : Env n0 w ((a, x) :: l) q m W) (hy : y.In n0 W) (hne : ∀ p ∈ l, p.1 < a) : Env n0 w ((a, y) :: l) q m (W.setRow a #[.slice y.sa y.ss.length y.sc, .slice y.pa y.ps.length y.pc, .int .i64 y.left, .bool y.stp]) :=
  h.putd (d := x) (by simp) hy fun p hp => by
    rcases List.mem_cons.1 hp with rfl | hp
    · exact .inl rfl
    · exact .inr ⟨by simp [hp], Nat.ne_of_lt (hne p hp)⟩
theorem Env.put1j {n0 : Nat} {w W : World} {l : List (Nat × Dsk)} {q : List (Nat × Jr)} {m : List Sec} {a : Nat} {x y : Jr} (h : Env n0 w l ((a, x) :: q) m W) (hy : y.In n0 W) (hne : ∀ p ∈ q, p.1 < a) : Env n0 w l ((a, y) :: q) m (W.setRow a #[.slice y.A y.rs.length y.cap, .int .i64 y.many, .int .i64 y.synced]) :=
  h.putj (d := x) (by simp) hy fun p hp => by
    rcases List.mem_cons.1 hp with rfl | hp
    · exact .inl rfl
    · exact .inr ⟨by simp [hp], Nat.ne_of_lt (hne p hp)⟩
theorem Env.ltd {n0 : Nat} {w W : World} {l : List (Nat × Dsk)} {q : List (Nat × Jr)} {m : List Sec} (h : Env n0 w l q m W) : ∀ p ∈ l, p.1 < W.heap.size := fun p hp => (h.box p hp).1.lt
theorem Env.ltj {n0 : Nat} {w W : World} {l : List (Nat × Dsk)} {q : List (Nat × Jr)} {m : List Sec} (h : Env n0 w l q m W) : ∀ p ∈ q, p.1 < W.heap.size := fun p hp => (h.jou p hp).1.lt
/-- A row of sectors of the call's own: its cells. -/
theorem own_at {w : World} {base n : Nat} {A : Option Addr} {c : Nat} {l : List Sec} (h : w.ownsRow base 35 1 (.slice A n c) n (secs l)) (hn : n = l.length) : ∀ k (hk : k < l.length), ∃ b o, A = some ⟨b, o, none⟩ ∧ b < w.heap.size ∧ w.cell? ⟨b, o + k, none⟩ = some (l[k]).v := fun k hk => by
  subst hn
  obtain ⟨g, c', he, _, _⟩ := h.form (by omega)
  obtain ⟨rfl, rfl⟩ := slice_inj he
  obtain ⟨cs, hcs⟩ := own_blk h
  refine ⟨g, 0, rfl, hcs.lt, ?_⟩
  have := hcs.cell k
  rw [Nat.zero_add, this, List.getElem?_append_left (by simp [secs]; exact hk)]
  simp [secs, hk]
section
variable {P : Program} {w : World} {o : Oper} {a : Act} {Q : Exit → Act → World → Prop}
/-- An append that a guard lets through. -/
theorem wpList_app_w {ops : Array Oper} {rest : List Oper} (hw : Region.wanted o (yielded ops a.tmps) = true) (s x : Operand) (t : TypeId) (ho : o.op = .call { callee := .builtin .append, args := #[s, x], argTypes := #[t, t] })
    (base : Nat) (e : TypeId) (i : TypeInfo) (z : Value) (size bytes : Nat) (ht : P.underlying t = some (.slice e)) (hi : P.info? e = some i ∧ i.zero = some z ∧ i.size = size ∧ i.bytes = bytes) (hzs : z.cells.size = size) (hsz : 0 < size)
    (v : Value) (n : Nat) (xs : List Value) (hs : a.eval s = v) (hown : w.ownsRow base e size v n xs)
    (A : Option Addr) (m c : Nat) (news : List Value) (hx : a.eval x = .slice A m c) (hA : A = none → m = 0 ∧ c = 0) (hl : news.length = m * size) (hnews : ∀ ad, A = some ad → ∀ j u, news[j]? = some u → w.cell? (ad.add j) = some u) (h1 : ∀ u ∈ news, u.oneCell' = true)
    (h63 : n + m ≤ maxLen) (hbytes : (n + m) * bytes ≤ 140737488355328) (hbase : base ≤ w.heap.size)
    (h : ∀ A' cap w', w'.ownsRow base e size (.slice A' (n + m) cap) (n + m) (xs ++ news) → w.grownBy w' v.ownBlock → wpList P ops Q rest (a.put o.dst (.slice A' (n + m) cap)) w') : wpList P ops Q (o :: rest) a w :=
  wpList_step fun _ hK => by
    rw [if_pos hw]
    exact wp_app s x t ho base e i z size bytes ht hi hzs hsz v n xs hs hown A m c news hx hA hl hnews h1 h63 hbytes hbase fun A' cap w' h2 h3 => hK _ _ (h A' cap w' h2 h3)
end
theorem secD_app (a b : List Sec) : secD (a ++ b) = secD a ++ secD b := by simp [secD]

set_option maxRecDepth 100000 in
set_option maxHeartbeats 6400000 in
theorem steps_walk (A0 : Option Addr) (l0 : List Sec) (c0 : Nat) (A1 : Option Addr) (l1 : List Sec) (c1 : Nat) (w : World) (h0 : SecsIn w.heap.size A0 l0 c0 w) (h1 : SecsIn w.heap.size A1 l1 c1 w) (s0 : ∀ s ∈ l0, s.l.length ≤ 140737488355328) (s1 : ∀ s ∈ l1, s.l.length ≤ 140737488355328)
    (b0 : bulkB (secD l0) ≤ 1048576) (b1 : bulkB (secD l1) ≤ 1048576) :
    Calls Try.prog 9 #[.slice A0 l0.length c0, .slice A1 l1.length c1] w fun e w' => e = .returned (.bool true) ∧ Below w.heap.size w w' := by
  have HA := hide h0
  have HB := hide h1
  have HSA := hide s0
  have HSB := hide s1
  have HBA := hide b0
  have HBB := hide b1
  have HLA := hide (show l0.length ≤ 1048576 by have := bulkB_len (secD l0); rw [secD_len] at this; omega)
  have HLB := hide (show l1.length ≤ 1048576 by have := bulkB_len (secD l1); rw [secD_len] at this; omega)
  clear h0 h1 s0 s1 b0 b1
  obtain ⟨V, O, c, x, y, P1, P2, P3, P4, P5, P6, P7⟩ := steps_pure (secD l0) (secD l1)
  replace P1 := hide P1; replace P2 := hide P2; replace P3 := hide P3; replace P4 := hide P4; replace P5 := hide P5; replace P6 := hide P6; replace P7 := hide P7
  go_enter Try.func9, Try.ntmps9
  go_wp2_with fail
  refine (sane_any _).mono ?_
  rintro e w0 ⟨rfl, hb⟩
  have HF0 := hide hb
  clear hb
  have HNW := hide (new_ok (n0 := w.heap.size) 40 w0 (by decide) (by decide))
  go_wp2_with fail
  refine HNW.out.mono ?_
  rintro e w1 ⟨z0, rfl, hz0, hi0, hb1⟩
  have HZ0 := hide (show z0.d = D40 from hz0)
  have H1 := hide ((((Env.start (n0 := w.heap.size) w).below HF0.out).below hb1).newd (Nat.le_refl _) hi0)
  clear HNW hz0 hi0 hb1 HF0
  have HB3 := hide (H1.out.box (w1.heap.size, z0) (by simp)).1
  go_upto_region 4 with (fail)
  have HFA := hide (show ∀ W, Below (w1.alloc (.cells z0.cs.toArray 25)).heap.size (w1.alloc (.cells z0.cs.toArray 25)) W → Below w.heap.size w W from fun W hW => below_one H1.out.bel hW)
  generalize hw3 : w1.alloc (.cells z0.cs.toArray 25) = w3 at *
  obtain ⟨i35, hi35⟩ := hinfo35
  have HI35 := hide hi35
  clear hi35
  have HNL0 := hide (show A0 = none → l0.length = 0 ∧ c0 = 0 from fun e => by have h1 := HA.out.nil e; have h2 := HA.out.le; omega)
  have HNL1 := hide (show A1 = none → l1.length = 0 ∧ c1 = 0 from fun e => by have h1 := HB.out.nil e; have h2 := HB.out.le; omega)
  have HLN0 := hide (show (secs l0).length = l0.length * 1 by simp [secs])
  have HLN1 := hide (show (secs l1).length = l1.length * 1 by simp [secs])
  have HCS0 := hide (show ∀ W, Below w3.heap.size w3 W → ∀ ad, A0 = some ad → ∀ j u, (secs l0)[j]? = some u → W.cell? (ad.add j) = some u from fun W hW => (HA.out.cels.below (HFA.out W hW)).opt)
  have HCS1 := hide (show ∀ W, Below w3.heap.size w3 W → ∀ ad, A1 = some ad → ∀ j u, (secs l1)[j]? = some u → W.cell? (ad.add j) = some u from fun W hW => (HB.out.cels.below (HFA.out W hW)).opt)
  have HMX0 := hide (show 0 + l0.length ≤ maxLen by have := HLA.out; unfold maxLen; omega)
  have HMX1 := hide (show l0.length + l1.length ≤ maxLen by have := HLA.out; have := HLB.out; unfold maxLen; omega)
  have HMB0 := hide (show (0 + l0.length) * 24 ≤ 140737488355328 by have := HLA.out; omega)
  have HMB1 := hide (show (l0.length + l1.length) * 24 ≤ 140737488355328 by have := HLA.out; have := HLB.out; omega)
  generalize hf : fewB z0.d (secD (l0 ++ l1)) = f at *
  refine wp_region_plan3 (fun W => Blk W w1.heap.size 25 z0.cs ∧ Below w3.heap.size w3 W) (.take 0 (.take 1 (.take 2 (.take 3 (.take 5 (.take 7 (.run 4 (.run 6 (.run 8 (.run 9 (.take 10 (.take 11 .done)))))))))))) (by kernel_rfl) (by kernel_rfl) ⟨HB3.out.below ((Below.refl _ _).drew) HB3.out.lt, (Below.refl _ _).drew⟩ ?_
  have HF0 := hide (show Below w3.heap.size w3 w3.drew from (Below.refl _ _).drew)
  have HD0 := hide (HB3.out.below HF0.out HB3.out.lt)
  generalize w3.drew = wD at HF0 HD0 ⊢
  have HFW := hide (show ∀ W A c, Below w3.heap.size w3 W → W.ownsRow wD.heap.size 35 1 (.slice A (l0.length + l1.length) c) (l0.length + l1.length) (secs l0 ++ secs l1) → Calls Try.prog 11 #[z0.v, .slice A (l0.length + l1.length) c] W fun e w' => e = .returned (.bool f) ∧ Below W.heap.size W w' from fun W A c hW hO => by
    have := few_any (n0 := w.heap.size) z0 A (l0 ++ l1) c W ((H1.out.box (w1.heap.size, z0) (by simp)).2.2.2.below hW) (own_at (by rw [secs_app]; exact hO) (by rw [List.length_append])) (by rw [secD_app, bulkB_app]; have := HBA.out; have := HBB.out; omega)
    rw [List.length_append, hf] at this
    exact this)
  (refine plan3_take (o := ?_) (v := ?_) (by simp only [List.getElem?_toArray, List.getElem?_cons_zero]; rfl) (yields_run (by rfl) ?_) ?_; rotate_left; (focus (intro w' hw'; obtain ⟨c0, c1, c2, c3⟩ := hw'.1.c4; go_simp <;> with_reducible rfl)); (simp only [Act.put, List.setIfInBounds_toArray, List.set_cons_zero, List.set_cons_succ]))
  (refine plan3_take (o := ?_) (v := ?_) (by simp only [List.getElem?_toArray, List.getElem?_cons_succ, List.getElem?_cons_zero]; rfl) (yields_run (by rfl) ?_) ?_; rotate_left; (focus (intro w' hw'; obtain ⟨c0, c1, c2, c3⟩ := hw'.1.c4; go_simp <;> with_reducible rfl)); (simp only [Act.put, List.setIfInBounds_toArray, List.set_cons_zero, List.set_cons_succ]))
  (refine plan3_take (o := ?_) (v := ?_) (by simp only [List.getElem?_toArray, List.getElem?_cons_succ, List.getElem?_cons_zero]; rfl) (yields_run (by rfl) ?_) ?_; rotate_left; (focus (intro w' hw'; obtain ⟨c0, c1, c2, c3⟩ := hw'.1.c4; go_simp <;> with_reducible rfl)); (simp only [Act.put, List.setIfInBounds_toArray, List.set_cons_zero, List.set_cons_succ]))
  (refine plan3_take (o := ?_) (v := ?_) (by simp only [List.getElem?_toArray, List.getElem?_cons_succ, List.getElem?_cons_zero]; rfl) (yields_run (by rfl) ?_) ?_; rotate_left; (focus (intro w' hw'; obtain ⟨c0, c1, c2, c3⟩ := hw'.1.c4; go_simp <;> with_reducible rfl)); (simp only [Act.put, List.setIfInBounds_toArray, List.set_cons_zero, List.set_cons_succ]))
  (refine plan3_take (o := ?_) (v := ?_) (by simp only [List.getElem?_toArray, List.getElem?_cons_succ, List.getElem?_cons_zero]; rfl) (yields_run (by rfl) ?_) ?_; rotate_left; (focus (intro w' hw'; obtain ⟨c0, c1, c2, c3⟩ := hw'.1.c4; go_simp <;> with_reducible rfl)); (simp only [Act.put, List.setIfInBounds_toArray, List.set_cons_zero, List.set_cons_succ]))
  (refine plan3_take (o := ?_) (v := ?_) (by simp only [List.getElem?_toArray, List.getElem?_cons_succ, List.getElem?_cons_zero]; rfl) (yields_run (by rfl) ?_) ?_; rotate_left; (focus (intro w' hw'; obtain ⟨c0, c1, c2, c3⟩ := hw'.1.c4; go_simp <;> with_reducible rfl)); (simp only [Act.put, List.setIfInBounds_toArray, List.set_cons_zero, List.set_cons_succ]))
  refine plan3_run (o := ?_) (by simp only [List.getElem?_toArray, List.getElem?_cons_succ, List.getElem?_cons_zero]; rfl) ?_
  intro R HR
  go_wp2_with fail
  have HF1 := hide (HF0.out.alloc HF0.out.size (.cells #[] 35))
  have HD1 := hide (HD0.out.alloc (.cells #[] 35))
  have HO1 := hide (own_empty wD wD.heap.size 35 1 (Nat.le_refl _))
  have HZ1 := hide (show wD.heap.size ≤ (wD.alloc (.cells #[] 35)).heap.size by simp)
  refine HR.out _ _ ⟨HD1.out, HF1.out⟩ ?_
  clear HR
  refine plan3_run (o := ?_) (by simp only [List.getElem?_toArray, List.getElem?_cons_succ, List.getElem?_cons_zero]; rfl) ?_
  intro R HR
  (refine wpList_app_w (by rfl) (.tmp 36) (.tmp 37) 22 rfl wD.heap.size 35 i35 _ 1 24 Try.underlying22 HI35.out rfl (by omega) _ 0 [] rfl HO1.out A0 l0.length c0 (secs l0) rfl HNL0.out HLN0.out (HCS0.out _ HF1.out) (secs_one' l0) HMX0.out HMB0.out HZ1.out ?_; intro A6 c6 v6 hown hg; rw [Nat.zero_add, List.nil_append] at hown; have HO2 := hide hown; have HF2 := hide (below_app HF1.out HO1.out hg HF0.out.size HF1.out.size); have HD2 := hide (HD1.out.app HO1.out hg (by decide)); have HZ2 := hide (Nat.le_trans HZ1.out hg.size); clear hown hg)
  refine HR.out _ _ ⟨HD2.out, HF2.out⟩ ?_
  clear HR
  (simp only [Nat.zero_add, Act.put, List.setIfInBounds_toArray, List.set_cons_zero, List.set_cons_succ])
  refine plan3_run (o := ?_) (by simp only [List.getElem?_toArray, List.getElem?_cons_succ, List.getElem?_cons_zero]; rfl) ?_
  intro R HR
  (refine wpList_app_w (by rfl) (.tmp 38) (.tmp 39) 22 rfl wD.heap.size 35 i35 _ 1 24 Try.underlying22 HI35.out rfl (by omega) _ l0.length (secs l0) rfl HO2.out A1 l1.length c1 (secs l1) rfl HNL1.out HLN1.out (HCS1.out _ HF2.out) (secs_one' l1) HMX1.out HMB1.out HZ2.out ?_; intro A8 c8 v8 hown hg; have HO3 := hide hown; have HF3 := hide (below_app HF2.out HO2.out hg HF0.out.size HF2.out.size); have HD3 := hide (HD2.out.app HO2.out hg (by decide)); have HZ3 := hide (Nat.le_trans HZ2.out hg.size); clear hown hg)
  refine HR.out _ _ ⟨HD3.out, HF3.out⟩ ?_
  clear HR
  (simp only [Act.put, List.setIfInBounds_toArray, List.set_cons_zero, List.set_cons_succ])
  refine plan3_run (o := ?_) (by simp only [List.getElem?_toArray, List.getElem?_cons_succ, List.getElem?_cons_zero]; rfl) ?_
  intro R HR
  go_wp2_with fail
  (with_reducible refine (HFW.out _ _ _ HF3.out HO3.out).mono ?_)
  rintro e v9 ⟨rfl, hb⟩
  have HF4 := hide (below_one HF3.out hb)
  have HD4 := hide (HD3.out.below hb HD3.out.lt)
  clear hb
  go_wp2_with fail
  refine HR.out _ _ ⟨HD4.out, HF4.out⟩ ?_
  clear HR
  (refine plan3_take (o := ?_) (v := ?_) (by simp only [List.getElem?_toArray, List.getElem?_cons_succ, List.getElem?_cons_zero]; rfl) (yields_run (by rfl) ?_) ?_; rotate_left; (focus (intro w' hw'; obtain ⟨c0, c1, c2, c3⟩ := hw'.1.c4; go_simp <;> with_reducible rfl)); (simp only [Act.put, List.setIfInBounds_toArray, List.set_cons_zero, List.set_cons_succ]))
  (refine plan3_take (o := ?_) (v := ?_) (by simp only [List.getElem?_toArray, List.getElem?_cons_succ, List.getElem?_cons_zero]; rfl) (yields_run (by rfl) ?_) ?_; rotate_left; (focus (intro w' hw'; obtain ⟨c0, c1, c2, c3⟩ := hw'.1.c4; go_simp <;> with_reducible rfl)); (simp only [Act.put, List.setIfInBounds_toArray, List.set_cons_zero, List.set_cons_succ]))
  refine plan3_done ?_
  cases f with
  | false =>
    go_wp2_with fail
    go_ret
    exact ⟨rfl, HFA.out _ HF4.out⟩
  | true =>
    have H2 := hide (H1.out.below HF4.out)
    clear HFW HF0 HD0 HF1 HD1 HO1 HZ1 HF2 HD2 HO2 HZ2 HF3 HD3 HO3 HZ3 HF4 HD4 H1 HFA HNL0 HNL1 HLN0 HLN1 HCS0 HCS1 HMX0 HMX1 HMB0 HMB1 HB3 HI35 HBA HBB HLA HLB hw3 hf
    generalize v9 = w4 at *
    obtain ⟨hbx, -, -, hix⟩ := H2.out.box (w1.heap.size, z0) (by simp)
    obtain ⟨q0, q1, q2, q3⟩ := hbx.c4
    have HOP := hide (open_is w4 HZ0.out P1.out hix)
    clear hbx hix
    go_wp2_with fail
    refine HOP.out.mono ?_
    rintro e w5 ⟨j0, rfl, hj, hi, hb⟩
    have HK0 := hide hj
    have H3 := hide ((H2.out.below hb).newj (Nat.le_refl _) hi)
    clear hj hi hb q0 q1 q2 q3 HOP H2
    go_upto_region 10 with (fail)
    generalize hX5 : w1.heap.size = X5 at *
    generalize hX8 : w5.heap.size = X8 at *
    clear hX5
    generalize hw6 : w5.alloc (.cells #[.slice j0.A j0.rs.length j0.cap, .int .i64 j0.many, .int .i64 j0.synced] 29) = w6 at *
    clear hw6 hX8
    go_cut [10, 11, 12] from 53 to 65 (fun p q r W => ∃ (g h : Nat) (j' : Jr) (z' : Dsk), p = .pointer (some ⟨g, 0, none⟩) ∧ q = .pointer (some ⟨h, 0, none⟩) ∧ r = .int .i64 0 ∧ Hid (j'.k = V) ∧ Hid (z'.d = c) ∧ Hid (Env w.heap.size w ((h, z') :: [(X5, z0)]) ((g, j') :: [(X8, j0)]) [] W))
    case first =>
      have HE1 := hide H3.out.drew
      refine wp_region_plan3 (fun W => (Blk W X8 29 j0.cs ∧ Blk W X5 25 z0.cs) ∧ Below w.heap.size w W) (.take 0 (.take 1 (.take 2 (.take 3 (.take 5 (.take 7 (.three 4 (.three 6 (.three 8 (.take 9 (.take 10 (.take 11 (.take 12 (.both 13 (.run 14 (.run 15 (.run 16 (.run 17 .done)))) 14 (.run 13 (.run 15 (.run 16 (.run 17 .done))))))))) 13 (.both 8 (.take 9 (.take 10 (.take 11 (.take 12 (.run 14 (.run 15 (.run 16 (.run 17 .done)))))))) 14 (.run 8 (.take 9 (.take 10 (.take 11 (.take 12 (.run 15 (.run 16 (.run 17 .done))))))))) 14 (.both 8 (.take 9 (.take 10 (.take 11 (.take 12 (.run 13 (.run 15 (.run 16 (.run 17 .done)))))))) 13 (.run 8 (.take 9 (.take 10 (.take 11 (.take 12 (.run 15 (.run 16 (.run 17 .done)))))))))) 13 (.both 6 (.both 8 (.take 9 (.take 10 (.take 11 (.take 12 (.run 14 (.run 15 (.run 16 (.run 17 .done)))))))) 14 (.run 8 (.take 9 (.take 10 (.take 11 (.take 12 (.run 15 (.run 16 (.run 17 .done))))))))) 14 (.run 6 (.run 8 (.take 9 (.take 10 (.take 11 (.take 12 (.run 15 (.run 16 (.run 17 .done)))))))))) 14 (.both 6 (.both 8 (.take 9 (.take 10 (.take 11 (.take 12 (.run 13 (.run 15 (.run 16 (.run 17 .done)))))))) 13 (.run 8 (.take 9 (.take 10 (.take 11 (.take 12 (.run 15 (.run 16 (.run 17 .done))))))))) 13 (.run 6 (.run 8 (.take 9 (.take 10 (.take 11 (.take 12 (.run 15 (.run 16 (.run 17 .done))))))))))) 13 (.both 4 (.both 6 (.both 8 (.take 9 (.take 10 (.take 11 (.take 12 (.run 14 (.run 15 (.run 16 (.run 17 .done)))))))) 14 (.run 8 (.take 9 (.take 10 (.take 11 (.take 12 (.run 15 (.run 16 (.run 17 .done))))))))) 14 (.run 6 (.run 8 (.take 9 (.take 10 (.take 11 (.take 12 (.run 15 (.run 16 (.run 17 .done)))))))))) 14 (.run 4 (.run 6 (.run 8 (.take 9 (.take 10 (.take 11 (.take 12 (.run 15 (.run 16 (.run 17 .done))))))))))) 14 (.both 4 (.both 6 (.both 8 (.take 9 (.take 10 (.take 11 (.take 12 (.run 13 (.run 15 (.run 16 (.run 17 .done)))))))) 13 (.run 8 (.take 9 (.take 10 (.take 11 (.take 12 (.run 15 (.run 16 (.run 17 .done))))))))) 13 (.run 6 (.run 8 (.take 9 (.take 10 (.take 11 (.take 12 (.run 15 (.run 16 (.run 17 .done)))))))))) 13 (.run 4 (.run 6 (.run 8 (.take 9 (.take 10 (.take 11 (.take 12 (.run 15 (.run 16 (.run 17 .done)))))))))))))))))) (by kernel_rfl) (by kernel_rfl) ⟨⟨(HE1.out.jou (X8, j0) (by simp)).1, (HE1.out.box (X5, z0) (by simp)).1⟩, HE1.out.bel⟩ ?_
      generalize w6.drew = wD at HE1 ⊢
      (refine plan3_take (o := ?_) (v := ?_) (by simp only [List.getElem?_toArray, List.getElem?_cons_zero]; rfl) (yields_run (by rfl) ?_) ?_; rotate_left; (focus (intro w' hw'; skip; go_simp <;> with_reducible rfl)); (simp only [Act.put, List.setIfInBounds_toArray, List.set_cons_zero, List.set_cons_succ]))
      (refine plan3_take (o := ?_) (v := ?_) (by simp only [List.getElem?_toArray, List.getElem?_cons_succ, List.getElem?_cons_zero]; rfl) (yields_run (by rfl) ?_) ?_; rotate_left; (focus (intro w' hw'; skip; go_simp <;> with_reducible rfl)); (simp only [Act.put, List.setIfInBounds_toArray, List.set_cons_zero, List.set_cons_succ]))
      (refine plan3_take (o := ?_) (v := ?_) (by simp only [List.getElem?_toArray, List.getElem?_cons_succ, List.getElem?_cons_zero]; rfl) (yields_run (by rfl) ?_) ?_; rotate_left; (focus (intro w' hw'; obtain ⟨q0, q1, q2⟩ := hw'.1.1.c3; go_simp <;> with_reducible rfl)); (simp only [Act.put, List.setIfInBounds_toArray, List.set_cons_zero, List.set_cons_succ]))
      (refine plan3_take (o := ?_) (v := ?_) (by simp only [List.getElem?_toArray, List.getElem?_cons_succ, List.getElem?_cons_zero]; rfl) (yields_run (by rfl) ?_) ?_; rotate_left; (focus (intro w' hw'; skip; go_simp <;> with_reducible rfl)); (simp only [Act.put, List.setIfInBounds_toArray, List.set_cons_zero, List.set_cons_succ]))
      (refine plan3_take (o := ?_) (v := ?_) (by simp only [List.getElem?_toArray, List.getElem?_cons_succ, List.getElem?_cons_zero]; rfl) (yields_run (by rfl) ?_) ?_; rotate_left; (focus (intro w' hw'; skip; go_simp <;> with_reducible rfl)); (simp only [Act.put, List.setIfInBounds_toArray, List.set_cons_zero, List.set_cons_succ]))
      (refine plan3_take (o := ?_) (v := ?_) (by simp only [List.getElem?_toArray, List.getElem?_cons_succ, List.getElem?_cons_zero]; rfl) (yields_run (by rfl) ?_) ?_; rotate_left; (focus (intro w' hw'; obtain ⟨q0, q1, q2, q3⟩ := hw'.1.2.c4; go_simp <;> with_reducible rfl)); (simp only [Act.put, List.setIfInBounds_toArray, List.set_cons_zero, List.set_cons_succ]))
      refine plan3_three (o1 := ?_) (o2 := ?_) (o3 := ?_) (by simp only [List.getElem?_toArray, List.getElem?_cons_succ, List.getElem?_cons_zero]; rfl) (by simp only [List.getElem?_toArray, List.getElem?_cons_succ, List.getElem?_cons_zero]; rfl) (by simp only [List.getElem?_toArray, List.getElem?_cons_succ, List.getElem?_cons_zero]; rfl) ?_ ?_ ?_
      · intro R HR
        go_wp2_with fail
        (with_reducible refine (jadd_any j0 A0 l0 c0 _ HE1.out.bel.size (HE1.out.jou (X8, j0) (by simp)).2.2.2 (HA.out.below HE1.out.bel) HSA.out).mono ?_)
        rintro e v2 ⟨x2, rfl, hk, hi, hb⟩
        have HE2 := hide (HE1.out.below hb)
        have HK2 := hide (hk.trans (congrArg (fun q => Jk.addAll q (secD l0)) HK0.out))
        have HI2 := hide hi
        clear hk hi hb
        go_wp2_with fail
        refine HR.out _ _ ⟨⟨(HE2.out.jou (X8, j0) (by simp)).1, (HE2.out.box (X5, z0) (by simp)).1⟩, HE2.out.bel⟩ ?_
        clear HR
        refine plan3_three (o1 := ?_) (o2 := ?_) (o3 := ?_) (by simp only [List.getElem?_toArray, List.getElem?_cons_succ, List.getElem?_cons_zero]; rfl) (by simp only [List.getElem?_toArray, List.getElem?_cons_succ, List.getElem?_cons_zero]; rfl) (by simp only [List.getElem?_toArray, List.getElem?_cons_succ, List.getElem?_cons_zero]; rfl) ?_ ?_ ?_
        · intro R HR
          go_wp2_with fail
          (with_reducible refine (jadd_any x2 A1 l1 c1 _ HE2.out.bel.size HI2.out (HB.out.below HE2.out.bel) HSB.out).mono ?_)
          rintro e v3 ⟨x3, rfl, hk, hi, hb⟩
          have HE3 := hide (HE2.out.below hb)
          have HK3 := hide (hk.trans (congrArg (fun q => Jk.addAll q (secD l1)) HK2.out))
          have HI3 := hide hi
          clear hk hi hb
          go_wp2_with fail
          refine HR.out _ _ ⟨⟨(HE3.out.jou (X8, j0) (by simp)).1, (HE3.out.box (X5, z0) (by simp)).1⟩, HE3.out.bel⟩ ?_
          clear HR
          refine plan3_three (o1 := ?_) (o2 := ?_) (o3 := ?_) (by simp only [List.getElem?_toArray, List.getElem?_cons_succ, List.getElem?_cons_zero]; rfl) (by simp only [List.getElem?_toArray, List.getElem?_cons_succ, List.getElem?_cons_zero]; rfl) (by simp only [List.getElem?_toArray, List.getElem?_cons_succ, List.getElem?_cons_zero]; rfl) ?_ ?_ ?_
          · intro R HR
            go_wp2_with fail
            (with_reducible refine (jsync_is (n0 := w.heap.size) _ HE3.out.bel.size HK3.out HZ0.out P2.out HI3.out (HE3.out.box (X5, z0) (by simp)).2.2.2).mono ?_)
            rintro e v4 ⟨x4, z4, rfl, hk, hz, hi, hi2, hb⟩
            have HE4 := hide (HE3.out.below hb)
            have HK4 := hide hk
            have HZ4 := hide hz
            have HI4 := hide hi
            have HG4 := hide hi2
            clear hk hz hi hi2 hb
            go_wp2_with fail
            refine HR.out _ _ ⟨⟨(HE4.out.jou (X8, j0) (by simp)).1, (HE4.out.box (X5, z0) (by simp)).1⟩, HE4.out.bel⟩ ?_
            clear HR
            (refine plan3_take (o := ?_) (v := ?_) (by simp only [List.getElem?_toArray, List.getElem?_cons_succ, List.getElem?_cons_zero]; rfl) (yields_run (by rfl) ?_) ?_; rotate_left; (focus (intro w' hw'; skip; go_simp <;> with_reducible rfl)); (simp only [Act.put, List.setIfInBounds_toArray, List.set_cons_zero, List.set_cons_succ]))
            (refine plan3_take (o := ?_) (v := ?_) (by simp only [List.getElem?_toArray, List.getElem?_cons_succ, List.getElem?_cons_zero]; rfl) (yields_run (by rfl) ?_) ?_; rotate_left; (focus (intro w' hw'; skip; go_simp <;> with_reducible rfl)); (simp only [Act.put, List.setIfInBounds_toArray, List.set_cons_zero, List.set_cons_succ]))
            (refine plan3_take (o := ?_) (v := ?_) (by simp only [List.getElem?_toArray, List.getElem?_cons_succ, List.getElem?_cons_zero]; rfl) (yields_run (by rfl) ?_) ?_; rotate_left; (focus (intro w' hw'; skip; go_simp <;> with_reducible rfl)); (simp only [Act.put, List.setIfInBounds_toArray, List.set_cons_zero, List.set_cons_succ]))
            (refine plan3_take (o := ?_) (v := ?_) (by simp only [List.getElem?_toArray, List.getElem?_cons_succ, List.getElem?_cons_zero]; rfl) (yields_run (by rfl) ?_) ?_; rotate_left; (focus (intro w' hw'; skip; go_simp <;> with_reducible rfl)); (simp only [Act.put, List.setIfInBounds_toArray, List.set_cons_zero, List.set_cons_succ]))
            refine plan3_both (o1 := ?_) (o2 := ?_) (by simp only [List.getElem?_toArray, List.getElem?_cons_succ, List.getElem?_cons_zero]; rfl) (by simp only [List.getElem?_toArray, List.getElem?_cons_succ, List.getElem?_cons_zero]; rfl) ?_ ?_
            · intro R HR
              have HE5 := hide (HE4.out.freshj (Nat.le_refl _))
              try simp only [World.size_alloc] at HE5
              have HL5 := hide HE4.out.ltj
              try simp only [World.size_alloc] at HL5
              have HI5 := hide (HI4.out.below (below_new _ (.cells #[.slice none 0 0, .int .i64 0, .int .i64 0] 29)))
              have HG5 := hide (HG4.out.below (below_new _ (.cells #[.slice none 0 0, .int .i64 0, .int .i64 0] 29)))
              go_wp2_with fail
              refine HR.out _ _ ⟨⟨(HE5.out.jou (X8, j0) (by simp)).1, (HE5.out.box (X5, z0) (by simp)).1⟩, HE5.out.bel⟩ ?_
              clear HR
              refine plan3_run (o := ?_) (by simp only [List.getElem?_toArray, List.getElem?_cons_succ, List.getElem?_cons_zero]; rfl) ?_
              intro R HR
              have HE6 := hide (HE5.out.freshd (Nat.le_refl _))
              try simp only [World.size_alloc] at HE6
              have HL6 := hide HE5.out.ltd
              try simp only [World.size_alloc] at HL6
              have HI6 := hide (HI5.out.below (below_new _ (.cells #[.slice none 0 0, .slice none 0 0, .int .i64 0, .bool false] 25)))
              have HG6 := hide (HG5.out.below (below_new _ (.cells #[.slice none 0 0, .slice none 0 0, .int .i64 0, .bool false] 25)))
              go_wp2_with fail
              refine HR.out _ _ ⟨⟨(HE6.out.jou (X8, j0) (by simp)).1, (HE6.out.box (X5, z0) (by simp)).1⟩, HE6.out.bel⟩ ?_
              clear HR
              refine plan3_run (o := ?_) (by simp only [List.getElem?_toArray, List.getElem?_cons_succ, List.getElem?_cons_zero]; rfl) ?_
              intro R HR
              have HX7 := hide (show Blk _ v4.heap.size 29 _ from (HE6.out.jou (v4.heap.size, Jr.zero) (by simp)).1)
              have HE7 := hide (HE6.out.put1j (y := x4) HI6.out HL5.out)
              have HG7 := hide (HG6.out.keepT HX7.out (by decide) (HE6.out.jou (v4.heap.size, Jr.zero) (by simp)).2.2.1 (only_setRow (only_refl _ _) (.inl rfl) #[.slice x4.A x4.rs.length x4.cap, .int .i64 x4.many, .int .i64 x4.synced]))
              refine wpList_store_row rfl 29 (.tmp 10) (.tmp 63) rfl _ #[.slice x4.A x4.rs.length x4.cap, .int .i64 x4.many, .int .i64 x4.synced] rfl rfl 29 _ HX7.out Try.size29 rfl (one29 _ _ _ _ _) ?_
              refine HR.out _ _ ⟨⟨(HE7.out.jou (X8, j0) (by simp)).1, (HE7.out.box (X5, z0) (by simp)).1⟩, HE7.out.bel⟩ ?_
              clear HR
              refine plan3_run (o := ?_) (by simp only [List.getElem?_toArray, List.getElem?_cons_succ, List.getElem?_cons_zero]; rfl) ?_
              intro R HR
              have HX8 := hide (show Blk _ (v4.heap.size + 1) 25 _ from (HE7.out.box ((v4.heap.size + 1), Dsk.zero) (by simp)).1)
              have HE8 := hide (HE7.out.put1d (y := z4) HG7.out HL6.out)
              refine wpList_store_row rfl 25 (.tmp 11) (.tmp 64) rfl _ #[.slice z4.sa z4.ss.length z4.sc, .slice z4.pa z4.ps.length z4.pc, .int .i64 z4.left, .bool z4.stp] rfl rfl 25 _ HX8.out Try.size25 rfl (one25 _ _ _ _ _ _ _ _) ?_
              refine HR.out _ _ ⟨⟨(HE8.out.jou (X8, j0) (by simp)).1, (HE8.out.box (X5, z0) (by simp)).1⟩, HE8.out.bel⟩ ?_
              clear HR
              refine plan3_run (o := ?_) (by simp only [List.getElem?_toArray, List.getElem?_cons_succ, List.getElem?_cons_zero]; rfl) ?_
              intro R HR
              go_wp2_with fail
              refine HR.out _ _ ⟨⟨(HE8.out.jou (X8, j0) (by simp)).1, (HE8.out.box (X5, z0) (by simp)).1⟩, HE8.out.bel⟩ ?_
              clear HR
              refine plan3_done ?_
              go_wp2_with fail
              go_meet
              case rel => exact ⟨_, _, _, _, rfl, rfl, rfl, HK4, HZ4, HE8⟩
            · intro R HR
              have HE5 := hide (HE4.out.freshd (Nat.le_refl _))
              try simp only [World.size_alloc] at HE5
              have HL5 := hide HE4.out.ltd
              try simp only [World.size_alloc] at HL5
              have HI5 := hide (HI4.out.below (below_new _ (.cells #[.slice none 0 0, .slice none 0 0, .int .i64 0, .bool false] 25)))
              have HG5 := hide (HG4.out.below (below_new _ (.cells #[.slice none 0 0, .slice none 0 0, .int .i64 0, .bool false] 25)))
              go_wp2_with fail
              refine HR.out _ _ ⟨⟨(HE5.out.jou (X8, j0) (by simp)).1, (HE5.out.box (X5, z0) (by simp)).1⟩, HE5.out.bel⟩ ?_
              clear HR
              refine plan3_run (o := ?_) (by simp only [List.getElem?_toArray, List.getElem?_cons_succ, List.getElem?_cons_zero]; rfl) ?_
              intro R HR
              have HE6 := hide (HE5.out.freshj (Nat.le_refl _))
              try simp only [World.size_alloc] at HE6
              have HL6 := hide HE5.out.ltj
              try simp only [World.size_alloc] at HL6
              have HI6 := hide (HI5.out.below (below_new _ (.cells #[.slice none 0 0, .int .i64 0, .int .i64 0] 29)))
              have HG6 := hide (HG5.out.below (below_new _ (.cells #[.slice none 0 0, .int .i64 0, .int .i64 0] 29)))
              go_wp2_with fail
              refine HR.out _ _ ⟨⟨(HE6.out.jou (X8, j0) (by simp)).1, (HE6.out.box (X5, z0) (by simp)).1⟩, HE6.out.bel⟩ ?_
              clear HR
              refine plan3_run (o := ?_) (by simp only [List.getElem?_toArray, List.getElem?_cons_succ, List.getElem?_cons_zero]; rfl) ?_
              intro R HR
              have HX7 := hide (show Blk _ (v4.heap.size + 1) 29 _ from (HE6.out.jou ((v4.heap.size + 1), Jr.zero) (by simp)).1)
              have HE7 := hide (HE6.out.put1j (y := x4) HI6.out HL6.out)
              have HG7 := hide (HG6.out.keepT HX7.out (by decide) (HE6.out.jou ((v4.heap.size + 1), Jr.zero) (by simp)).2.2.1 (only_setRow (only_refl _ _) (.inl rfl) #[.slice x4.A x4.rs.length x4.cap, .int .i64 x4.many, .int .i64 x4.synced]))
              refine wpList_store_row rfl 29 (.tmp 10) (.tmp 63) rfl _ #[.slice x4.A x4.rs.length x4.cap, .int .i64 x4.many, .int .i64 x4.synced] rfl rfl 29 _ HX7.out Try.size29 rfl (one29 _ _ _ _ _) ?_
              refine HR.out _ _ ⟨⟨(HE7.out.jou (X8, j0) (by simp)).1, (HE7.out.box (X5, z0) (by simp)).1⟩, HE7.out.bel⟩ ?_
              clear HR
              refine plan3_run (o := ?_) (by simp only [List.getElem?_toArray, List.getElem?_cons_succ, List.getElem?_cons_zero]; rfl) ?_
              intro R HR
              have HX8 := hide (show Blk _ v4.heap.size 25 _ from (HE7.out.box (v4.heap.size, Dsk.zero) (by simp)).1)
              have HE8 := hide (HE7.out.put1d (y := z4) HG7.out HL5.out)
              refine wpList_store_row rfl 25 (.tmp 11) (.tmp 64) rfl _ #[.slice z4.sa z4.ss.length z4.sc, .slice z4.pa z4.ps.length z4.pc, .int .i64 z4.left, .bool z4.stp] rfl rfl 25 _ HX8.out Try.size25 rfl (one25 _ _ _ _ _ _ _ _) ?_
              refine HR.out _ _ ⟨⟨(HE8.out.jou (X8, j0) (by simp)).1, (HE8.out.box (X5, z0) (by simp)).1⟩, HE8.out.bel⟩ ?_
              clear HR
              refine plan3_run (o := ?_) (by simp only [List.getElem?_toArray, List.getElem?_cons_succ, List.getElem?_cons_zero]; rfl) ?_
              intro R HR
              go_wp2_with fail
              refine HR.out _ _ ⟨⟨(HE8.out.jou (X8, j0) (by simp)).1, (HE8.out.box (X5, z0) (by simp)).1⟩, HE8.out.bel⟩ ?_
              clear HR
              refine plan3_done ?_
              go_wp2_with fail
              go_meet
              case rel => exact ⟨_, _, _, _, rfl, rfl, rfl, HK4, HZ4, HE8⟩
          · intro R HR
            have HE4 := hide (HE3.out.freshj (Nat.le_refl _))
            try simp only [World.size_alloc] at HE4
            have HL4 := hide HE3.out.ltj
            try simp only [World.size_alloc] at HL4
            have HI4 := hide (HI3.out.below (below_new _ (.cells #[.slice none 0 0, .int .i64 0, .int .i64 0] 29)))
            go_wp2_with fail
            refine HR.out _ _ ⟨⟨(HE4.out.jou (X8, j0) (by simp)).1, (HE4.out.box (X5, z0) (by simp)).1⟩, HE4.out.bel⟩ ?_
            clear HR
            refine plan3_both (o1 := ?_) (o2 := ?_) (by simp only [List.getElem?_toArray, List.getElem?_cons_succ, List.getElem?_cons_zero]; rfl) (by simp only [List.getElem?_toArray, List.getElem?_cons_succ, List.getElem?_cons_zero]; rfl) ?_ ?_
            · intro R HR
              go_wp2_with fail
              (with_reducible refine (jsync_is (n0 := w.heap.size) _ HE4.out.bel.size HK3.out HZ0.out P2.out HI4.out (HE4.out.box (X5, z0) (by simp)).2.2.2).mono ?_)
              rintro e v5 ⟨x5, z5, rfl, hk, hz, hi, hi2, hb⟩
              have HE5 := hide (HE4.out.below hb)
              have HK5 := hide hk
              have HZ5 := hide hz
              have HI5 := hide hi
              have HG5 := hide hi2
              clear hk hz hi hi2 hb
              go_wp2_with fail
              refine HR.out _ _ ⟨⟨(HE5.out.jou (X8, j0) (by simp)).1, (HE5.out.box (X5, z0) (by simp)).1⟩, HE5.out.bel⟩ ?_
              clear HR
              (refine plan3_take (o := ?_) (v := ?_) (by simp only [List.getElem?_toArray, List.getElem?_cons_succ, List.getElem?_cons_zero]; rfl) (yields_run (by rfl) ?_) ?_; rotate_left; (focus (intro w' hw'; skip; go_simp <;> with_reducible rfl)); (simp only [Act.put, List.setIfInBounds_toArray, List.set_cons_zero, List.set_cons_succ]))
              (refine plan3_take (o := ?_) (v := ?_) (by simp only [List.getElem?_toArray, List.getElem?_cons_succ, List.getElem?_cons_zero]; rfl) (yields_run (by rfl) ?_) ?_; rotate_left; (focus (intro w' hw'; skip; go_simp <;> with_reducible rfl)); (simp only [Act.put, List.setIfInBounds_toArray, List.set_cons_zero, List.set_cons_succ]))
              (refine plan3_take (o := ?_) (v := ?_) (by simp only [List.getElem?_toArray, List.getElem?_cons_succ, List.getElem?_cons_zero]; rfl) (yields_run (by rfl) ?_) ?_; rotate_left; (focus (intro w' hw'; skip; go_simp <;> with_reducible rfl)); (simp only [Act.put, List.setIfInBounds_toArray, List.set_cons_zero, List.set_cons_succ]))
              (refine plan3_take (o := ?_) (v := ?_) (by simp only [List.getElem?_toArray, List.getElem?_cons_succ, List.getElem?_cons_zero]; rfl) (yields_run (by rfl) ?_) ?_; rotate_left; (focus (intro w' hw'; skip; go_simp <;> with_reducible rfl)); (simp only [Act.put, List.setIfInBounds_toArray, List.set_cons_zero, List.set_cons_succ]))
              refine plan3_run (o := ?_) (by simp only [List.getElem?_toArray, List.getElem?_cons_succ, List.getElem?_cons_zero]; rfl) ?_
              intro R HR
              have HE6 := hide (HE5.out.freshd (Nat.le_refl _))
              try simp only [World.size_alloc] at HE6
              have HL6 := hide HE5.out.ltd
              try simp only [World.size_alloc] at HL6
              have HI6 := hide (HI5.out.below (below_new _ (.cells #[.slice none 0 0, .slice none 0 0, .int .i64 0, .bool false] 25)))
              have HG6 := hide (HG5.out.below (below_new _ (.cells #[.slice none 0 0, .slice none 0 0, .int .i64 0, .bool false] 25)))
              go_wp2_with fail
              refine HR.out _ _ ⟨⟨(HE6.out.jou (X8, j0) (by simp)).1, (HE6.out.box (X5, z0) (by simp)).1⟩, HE6.out.bel⟩ ?_
              clear HR
              refine plan3_run (o := ?_) (by simp only [List.getElem?_toArray, List.getElem?_cons_succ, List.getElem?_cons_zero]; rfl) ?_
              intro R HR
              have HX7 := hide (show Blk _ v3.heap.size 29 _ from (HE6.out.jou (v3.heap.size, Jr.zero) (by simp)).1)
              have HE7 := hide (HE6.out.put1j (y := x5) HI6.out HL4.out)
              have HG7 := hide (HG6.out.keepT HX7.out (by decide) (HE6.out.jou (v3.heap.size, Jr.zero) (by simp)).2.2.1 (only_setRow (only_refl _ _) (.inl rfl) #[.slice x5.A x5.rs.length x5.cap, .int .i64 x5.many, .int .i64 x5.synced]))
              refine wpList_store_row rfl 29 (.tmp 10) (.tmp 63) rfl _ #[.slice x5.A x5.rs.length x5.cap, .int .i64 x5.many, .int .i64 x5.synced] rfl rfl 29 _ HX7.out Try.size29 rfl (one29 _ _ _ _ _) ?_
              refine HR.out _ _ ⟨⟨(HE7.out.jou (X8, j0) (by simp)).1, (HE7.out.box (X5, z0) (by simp)).1⟩, HE7.out.bel⟩ ?_
              clear HR
              refine plan3_run (o := ?_) (by simp only [List.getElem?_toArray, List.getElem?_cons_succ, List.getElem?_cons_zero]; rfl) ?_
              intro R HR
              have HX8 := hide (show Blk _ v5.heap.size 25 _ from (HE7.out.box (v5.heap.size, Dsk.zero) (by simp)).1)
              have HE8 := hide (HE7.out.put1d (y := z5) HG7.out HL6.out)
              refine wpList_store_row rfl 25 (.tmp 11) (.tmp 64) rfl _ #[.slice z5.sa z5.ss.length z5.sc, .slice z5.pa z5.ps.length z5.pc, .int .i64 z5.left, .bool z5.stp] rfl rfl 25 _ HX8.out Try.size25 rfl (one25 _ _ _ _ _ _ _ _) ?_
              refine HR.out _ _ ⟨⟨(HE8.out.jou (X8, j0) (by simp)).1, (HE8.out.box (X5, z0) (by simp)).1⟩, HE8.out.bel⟩ ?_
              clear HR
              refine plan3_run (o := ?_) (by simp only [List.getElem?_toArray, List.getElem?_cons_succ, List.getElem?_cons_zero]; rfl) ?_
              intro R HR
              go_wp2_with fail
              refine HR.out _ _ ⟨⟨(HE8.out.jou (X8, j0) (by simp)).1, (HE8.out.box (X5, z0) (by simp)).1⟩, HE8.out.bel⟩ ?_
              clear HR
              refine plan3_done ?_
              go_wp2_with fail
              go_meet
              case rel => exact ⟨_, _, _, _, rfl, rfl, rfl, HK5, HZ5, HE8⟩
            · intro R HR
              have HE5 := hide (HE4.out.freshd (Nat.le_refl _))
              try simp only [World.size_alloc] at HE5
              have HL5 := hide HE4.out.ltd
              try simp only [World.size_alloc] at HL5
              have HI5 := hide (HI4.out.below (below_new _ (.cells #[.slice none 0 0, .slice none 0 0, .int .i64 0, .bool false] 25)))
              go_wp2_with fail
              refine HR.out _ _ ⟨⟨(HE5.out.jou (X8, j0) (by simp)).1, (HE5.out.box (X5, z0) (by simp)).1⟩, HE5.out.bel⟩ ?_
              clear HR
              refine plan3_run (o := ?_) (by simp only [List.getElem?_toArray, List.getElem?_cons_succ, List.getElem?_cons_zero]; rfl) ?_
              intro R HR
              go_wp2_with fail
              (with_reducible refine (jsync_is (n0 := w.heap.size) _ HE5.out.bel.size HK3.out HZ0.out P2.out HI5.out (HE5.out.box (X5, z0) (by simp)).2.2.2).mono ?_)
              rintro e v6 ⟨x6, z6, rfl, hk, hz, hi, hi2, hb⟩
              have HE6 := hide (HE5.out.below hb)
              have HK6 := hide hk
              have HZ6 := hide hz
              have HI6 := hide hi
              have HG6 := hide hi2
              clear hk hz hi hi2 hb
              go_wp2_with fail
              refine HR.out _ _ ⟨⟨(HE6.out.jou (X8, j0) (by simp)).1, (HE6.out.box (X5, z0) (by simp)).1⟩, HE6.out.bel⟩ ?_
              clear HR
              (refine plan3_take (o := ?_) (v := ?_) (by simp only [List.getElem?_toArray, List.getElem?_cons_succ, List.getElem?_cons_zero]; rfl) (yields_run (by rfl) ?_) ?_; rotate_left; (focus (intro w' hw'; skip; go_simp <;> with_reducible rfl)); (simp only [Act.put, List.setIfInBounds_toArray, List.set_cons_zero, List.set_cons_succ]))
              (refine plan3_take (o := ?_) (v := ?_) (by simp only [List.getElem?_toArray, List.getElem?_cons_succ, List.getElem?_cons_zero]; rfl) (yields_run (by rfl) ?_) ?_; rotate_left; (focus (intro w' hw'; skip; go_simp <;> with_reducible rfl)); (simp only [Act.put, List.setIfInBounds_toArray, List.set_cons_zero, List.set_cons_succ]))
              (refine plan3_take (o := ?_) (v := ?_) (by simp only [List.getElem?_toArray, List.getElem?_cons_succ, List.getElem?_cons_zero]; rfl) (yields_run (by rfl) ?_) ?_; rotate_left; (focus (intro w' hw'; skip; go_simp <;> with_reducible rfl)); (simp only [Act.put, List.setIfInBounds_toArray, List.set_cons_zero, List.set_cons_succ]))
              (refine plan3_take (o := ?_) (v := ?_) (by simp only [List.getElem?_toArray, List.getElem?_cons_succ, List.getElem?_cons_zero]; rfl) (yields_run (by rfl) ?_) ?_; rotate_left; (focus (intro w' hw'; skip; go_simp <;> with_reducible rfl)); (simp only [Act.put, List.setIfInBounds_toArray, List.set_cons_zero, List.set_cons_succ]))
              refine plan3_run (o := ?_) (by simp only [List.getElem?_toArray, List.getElem?_cons_succ, List.getElem?_cons_zero]; rfl) ?_
              intro R HR
              have HX7 := hide (show Blk _ v3.heap.size 29 _ from (HE6.out.jou (v3.heap.size, Jr.zero) (by simp)).1)
              have HE7 := hide (HE6.out.put1j (y := x6) HI6.out HL4.out)
              have HG7 := hide (HG6.out.keepT HX7.out (by decide) (HE6.out.jou (v3.heap.size, Jr.zero) (by simp)).2.2.1 (only_setRow (only_refl _ _) (.inl rfl) #[.slice x6.A x6.rs.length x6.cap, .int .i64 x6.many, .int .i64 x6.synced]))
              refine wpList_store_row rfl 29 (.tmp 10) (.tmp 63) rfl _ #[.slice x6.A x6.rs.length x6.cap, .int .i64 x6.many, .int .i64 x6.synced] rfl rfl 29 _ HX7.out Try.size29 rfl (one29 _ _ _ _ _) ?_
              refine HR.out _ _ ⟨⟨(HE7.out.jou (X8, j0) (by simp)).1, (HE7.out.box (X5, z0) (by simp)).1⟩, HE7.out.bel⟩ ?_
              clear HR
              refine plan3_run (o := ?_) (by simp only [List.getElem?_toArray, List.getElem?_cons_succ, List.getElem?_cons_zero]; rfl) ?_
              intro R HR
              have HX8 := hide (show Blk _ (v3.heap.size + 1) 25 _ from (HE7.out.box ((v3.heap.size + 1), Dsk.zero) (by simp)).1)
              have HE8 := hide (HE7.out.put1d (y := z6) HG7.out HL5.out)
              refine wpList_store_row rfl 25 (.tmp 11) (.tmp 64) rfl _ #[.slice z6.sa z6.ss.length z6.sc, .slice z6.pa z6.ps.length z6.pc, .int .i64 z6.left, .bool z6.stp] rfl rfl 25 _ HX8.out Try.size25 rfl (one25 _ _ _ _ _ _ _ _) ?_
              refine HR.out _ _ ⟨⟨(HE8.out.jou (X8, j0) (by simp)).1, (HE8.out.box (X5, z0) (by simp)).1⟩, HE8.out.bel⟩ ?_
              clear HR
              refine plan3_run (o := ?_) (by simp only [List.getElem?_toArray, List.getElem?_cons_succ, List.getElem?_cons_zero]; rfl) ?_
              intro R HR
              go_wp2_with fail
              refine HR.out _ _ ⟨⟨(HE8.out.jou (X8, j0) (by simp)).1, (HE8.out.box (X5, z0) (by simp)).1⟩, HE8.out.bel⟩ ?_
              clear HR
              refine plan3_done ?_
              go_wp2_with fail
              go_meet
              case rel => exact ⟨_, _, _, _, rfl, rfl, rfl, HK6, HZ6, HE8⟩
          · intro R HR
            have HE4 := hide (HE3.out.freshd (Nat.le_refl _))
            try simp only [World.size_alloc] at HE4
            have HL4 := hide HE3.out.ltd
            try simp only [World.size_alloc] at HL4
            have HI4 := hide (HI3.out.below (below_new _ (.cells #[.slice none 0 0, .slice none 0 0, .int .i64 0, .bool false] 25)))
            go_wp2_with fail
            refine HR.out _ _ ⟨⟨(HE4.out.jou (X8, j0) (by simp)).1, (HE4.out.box (X5, z0) (by simp)).1⟩, HE4.out.bel⟩ ?_
            clear HR
            refine plan3_both (o1 := ?_) (o2 := ?_) (by simp only [List.getElem?_toArray, List.getElem?_cons_succ, List.getElem?_cons_zero]; rfl) (by simp only [List.getElem?_toArray, List.getElem?_cons_succ, List.getElem?_cons_zero]; rfl) ?_ ?_
            · intro R HR
              go_wp2_with fail
              (with_reducible refine (jsync_is (n0 := w.heap.size) _ HE4.out.bel.size HK3.out HZ0.out P2.out HI4.out (HE4.out.box (X5, z0) (by simp)).2.2.2).mono ?_)
              rintro e v5 ⟨x5, z5, rfl, hk, hz, hi, hi2, hb⟩
              have HE5 := hide (HE4.out.below hb)
              have HK5 := hide hk
              have HZ5 := hide hz
              have HI5 := hide hi
              have HG5 := hide hi2
              clear hk hz hi hi2 hb
              go_wp2_with fail
              refine HR.out _ _ ⟨⟨(HE5.out.jou (X8, j0) (by simp)).1, (HE5.out.box (X5, z0) (by simp)).1⟩, HE5.out.bel⟩ ?_
              clear HR
              (refine plan3_take (o := ?_) (v := ?_) (by simp only [List.getElem?_toArray, List.getElem?_cons_succ, List.getElem?_cons_zero]; rfl) (yields_run (by rfl) ?_) ?_; rotate_left; (focus (intro w' hw'; skip; go_simp <;> with_reducible rfl)); (simp only [Act.put, List.setIfInBounds_toArray, List.set_cons_zero, List.set_cons_succ]))
              (refine plan3_take (o := ?_) (v := ?_) (by simp only [List.getElem?_toArray, List.getElem?_cons_succ, List.getElem?_cons_zero]; rfl) (yields_run (by rfl) ?_) ?_; rotate_left; (focus (intro w' hw'; skip; go_simp <;> with_reducible rfl)); (simp only [Act.put, List.setIfInBounds_toArray, List.set_cons_zero, List.set_cons_succ]))
              (refine plan3_take (o := ?_) (v := ?_) (by simp only [List.getElem?_toArray, List.getElem?_cons_succ, List.getElem?_cons_zero]; rfl) (yields_run (by rfl) ?_) ?_; rotate_left; (focus (intro w' hw'; skip; go_simp <;> with_reducible rfl)); (simp only [Act.put, List.setIfInBounds_toArray, List.set_cons_zero, List.set_cons_succ]))
              (refine plan3_take (o := ?_) (v := ?_) (by simp only [List.getElem?_toArray, List.getElem?_cons_succ, List.getElem?_cons_zero]; rfl) (yields_run (by rfl) ?_) ?_; rotate_left; (focus (intro w' hw'; skip; go_simp <;> with_reducible rfl)); (simp only [Act.put, List.setIfInBounds_toArray, List.set_cons_zero, List.set_cons_succ]))
              refine plan3_run (o := ?_) (by simp only [List.getElem?_toArray, List.getElem?_cons_succ, List.getElem?_cons_zero]; rfl) ?_
              intro R HR
              have HE6 := hide (HE5.out.freshj (Nat.le_refl _))
              try simp only [World.size_alloc] at HE6
              have HL6 := hide HE5.out.ltj
              try simp only [World.size_alloc] at HL6
              have HI6 := hide (HI5.out.below (below_new _ (.cells #[.slice none 0 0, .int .i64 0, .int .i64 0] 29)))
              have HG6 := hide (HG5.out.below (below_new _ (.cells #[.slice none 0 0, .int .i64 0, .int .i64 0] 29)))
              go_wp2_with fail
              refine HR.out _ _ ⟨⟨(HE6.out.jou (X8, j0) (by simp)).1, (HE6.out.box (X5, z0) (by simp)).1⟩, HE6.out.bel⟩ ?_
              clear HR
              refine plan3_run (o := ?_) (by simp only [List.getElem?_toArray, List.getElem?_cons_succ, List.getElem?_cons_zero]; rfl) ?_
              intro R HR
              have HX7 := hide (show Blk _ v5.heap.size 29 _ from (HE6.out.jou (v5.heap.size, Jr.zero) (by simp)).1)
              have HE7 := hide (HE6.out.put1j (y := x5) HI6.out HL6.out)
              have HG7 := hide (HG6.out.keepT HX7.out (by decide) (HE6.out.jou (v5.heap.size, Jr.zero) (by simp)).2.2.1 (only_setRow (only_refl _ _) (.inl rfl) #[.slice x5.A x5.rs.length x5.cap, .int .i64 x5.many, .int .i64 x5.synced]))
              refine wpList_store_row rfl 29 (.tmp 10) (.tmp 63) rfl _ #[.slice x5.A x5.rs.length x5.cap, .int .i64 x5.many, .int .i64 x5.synced] rfl rfl 29 _ HX7.out Try.size29 rfl (one29 _ _ _ _ _) ?_
              refine HR.out _ _ ⟨⟨(HE7.out.jou (X8, j0) (by simp)).1, (HE7.out.box (X5, z0) (by simp)).1⟩, HE7.out.bel⟩ ?_
              clear HR
              refine plan3_run (o := ?_) (by simp only [List.getElem?_toArray, List.getElem?_cons_succ, List.getElem?_cons_zero]; rfl) ?_
              intro R HR
              have HX8 := hide (show Blk _ v3.heap.size 25 _ from (HE7.out.box (v3.heap.size, Dsk.zero) (by simp)).1)
              have HE8 := hide (HE7.out.put1d (y := z5) HG7.out HL4.out)
              refine wpList_store_row rfl 25 (.tmp 11) (.tmp 64) rfl _ #[.slice z5.sa z5.ss.length z5.sc, .slice z5.pa z5.ps.length z5.pc, .int .i64 z5.left, .bool z5.stp] rfl rfl 25 _ HX8.out Try.size25 rfl (one25 _ _ _ _ _ _ _ _) ?_
              refine HR.out _ _ ⟨⟨(HE8.out.jou (X8, j0) (by simp)).1, (HE8.out.box (X5, z0) (by simp)).1⟩, HE8.out.bel⟩ ?_
              clear HR
              refine plan3_run (o := ?_) (by simp only [List.getElem?_toArray, List.getElem?_cons_succ, List.getElem?_cons_zero]; rfl) ?_
              intro R HR
              go_wp2_with fail
              refine HR.out _ _ ⟨⟨(HE8.out.jou (X8, j0) (by simp)).1, (HE8.out.box (X5, z0) (by simp)).1⟩, HE8.out.bel⟩ ?_
              clear HR
              refine plan3_done ?_
              go_wp2_with fail
              go_meet
              case rel => exact ⟨_, _, _, _, rfl, rfl, rfl, HK5, HZ5, HE8⟩
            · intro R HR
              have HE5 := hide (HE4.out.freshj (Nat.le_refl _))
              try simp only [World.size_alloc] at HE5
              have HL5 := hide HE4.out.ltj
              try simp only [World.size_alloc] at HL5
              have HI5 := hide (HI4.out.below (below_new _ (.cells #[.slice none 0 0, .int .i64 0, .int .i64 0] 29)))
              go_wp2_with fail
              refine HR.out _ _ ⟨⟨(HE5.out.jou (X8, j0) (by simp)).1, (HE5.out.box (X5, z0) (by simp)).1⟩, HE5.out.bel⟩ ?_
              clear HR
              refine plan3_run (o := ?_) (by simp only [List.getElem?_toArray, List.getElem?_cons_succ, List.getElem?_cons_zero]; rfl) ?_
              intro R HR
              go_wp2_with fail
              (with_reducible refine (jsync_is (n0 := w.heap.size) _ HE5.out.bel.size HK3.out HZ0.out P2.out HI5.out (HE5.out.box (X5, z0) (by simp)).2.2.2).mono ?_)
              rintro e v6 ⟨x6, z6, rfl, hk, hz, hi, hi2, hb⟩
              have HE6 := hide (HE5.out.below hb)
              have HK6 := hide hk
              have HZ6 := hide hz
              have HI6 := hide hi
              have HG6 := hide hi2
              clear hk hz hi hi2 hb
              go_wp2_with fail
              refine HR.out _ _ ⟨⟨(HE6.out.jou (X8, j0) (by simp)).1, (HE6.out.box (X5, z0) (by simp)).1⟩, HE6.out.bel⟩ ?_
              clear HR
              (refine plan3_take (o := ?_) (v := ?_) (by simp only [List.getElem?_toArray, List.getElem?_cons_succ, List.getElem?_cons_zero]; rfl) (yields_run (by rfl) ?_) ?_; rotate_left; (focus (intro w' hw'; skip; go_simp <;> with_reducible rfl)); (simp only [Act.put, List.setIfInBounds_toArray, List.set_cons_zero, List.set_cons_succ]))
              (refine plan3_take (o := ?_) (v := ?_) (by simp only [List.getElem?_toArray, List.getElem?_cons_succ, List.getElem?_cons_zero]; rfl) (yields_run (by rfl) ?_) ?_; rotate_left; (focus (intro w' hw'; skip; go_simp <;> with_reducible rfl)); (simp only [Act.put, List.setIfInBounds_toArray, List.set_cons_zero, List.set_cons_succ]))
              (refine plan3_take (o := ?_) (v := ?_) (by simp only [List.getElem?_toArray, List.getElem?_cons_succ, List.getElem?_cons_zero]; rfl) (yields_run (by rfl) ?_) ?_; rotate_left; (focus (intro w' hw'; skip; go_simp <;> with_reducible rfl)); (simp only [Act.put, List.setIfInBounds_toArray, List.set_cons_zero, List.set_cons_succ]))
              (refine plan3_take (o := ?_) (v := ?_) (by simp only [List.getElem?_toArray, List.getElem?_cons_succ, List.getElem?_cons_zero]; rfl) (yields_run (by rfl) ?_) ?_; rotate_left; (focus (intro w' hw'; skip; go_simp <;> with_reducible rfl)); (simp only [Act.put, List.setIfInBounds_toArray, List.set_cons_zero, List.set_cons_succ]))
              refine plan3_run (o := ?_) (by simp only [List.getElem?_toArray, List.getElem?_cons_succ, List.getElem?_cons_zero]; rfl) ?_
              intro R HR
              have HX7 := hide (show Blk _ (v3.heap.size + 1) 29 _ from (HE6.out.jou ((v3.heap.size + 1), Jr.zero) (by simp)).1)
              have HE7 := hide (HE6.out.put1j (y := x6) HI6.out HL5.out)
              have HG7 := hide (HG6.out.keepT HX7.out (by decide) (HE6.out.jou ((v3.heap.size + 1), Jr.zero) (by simp)).2.2.1 (only_setRow (only_refl _ _) (.inl rfl) #[.slice x6.A x6.rs.length x6.cap, .int .i64 x6.many, .int .i64 x6.synced]))
              refine wpList_store_row rfl 29 (.tmp 10) (.tmp 63) rfl _ #[.slice x6.A x6.rs.length x6.cap, .int .i64 x6.many, .int .i64 x6.synced] rfl rfl 29 _ HX7.out Try.size29 rfl (one29 _ _ _ _ _) ?_
              refine HR.out _ _ ⟨⟨(HE7.out.jou (X8, j0) (by simp)).1, (HE7.out.box (X5, z0) (by simp)).1⟩, HE7.out.bel⟩ ?_
              clear HR
              refine plan3_run (o := ?_) (by simp only [List.getElem?_toArray, List.getElem?_cons_succ, List.getElem?_cons_zero]; rfl) ?_
              intro R HR
              have HX8 := hide (show Blk _ v3.heap.size 25 _ from (HE7.out.box (v3.heap.size, Dsk.zero) (by simp)).1)
              have HE8 := hide (HE7.out.put1d (y := z6) HG7.out HL4.out)
              refine wpList_store_row rfl 25 (.tmp 11) (.tmp 64) rfl _ #[.slice z6.sa z6.ss.length z6.sc, .slice z6.pa z6.ps.length z6.pc, .int .i64 z6.left, .bool z6.stp] rfl rfl 25 _ HX8.out Try.size25 rfl (one25 _ _ _ _ _ _ _ _) ?_
              refine HR.out _ _ ⟨⟨(HE8.out.jou (X8, j0) (by simp)).1, (HE8.out.box (X5, z0) (by simp)).1⟩, HE8.out.bel⟩ ?_
              clear HR
              refine plan3_run (o := ?_) (by simp only [List.getElem?_toArray, List.getElem?_cons_succ, List.getElem?_cons_zero]; rfl) ?_
              intro R HR
              go_wp2_with fail
              refine HR.out _ _ ⟨⟨(HE8.out.jou (X8, j0) (by simp)).1, (HE8.out.box (X5, z0) (by simp)).1⟩, HE8.out.bel⟩ ?_
              clear HR
              refine plan3_done ?_
              go_wp2_with fail
              go_meet
              case rel => exact ⟨_, _, _, _, rfl, rfl, rfl, HK6, HZ6, HE8⟩
        · intro R HR
          have HE3 := hide (HE2.out.freshj (Nat.le_refl _))
          try simp only [World.size_alloc] at HE3
          have HL3 := hide HE2.out.ltj
          try simp only [World.size_alloc] at HL3
          have HI3 := hide (HI2.out.below (below_new _ (.cells #[.slice none 0 0, .int .i64 0, .int .i64 0] 29)))
          go_wp2_with fail
          refine HR.out _ _ ⟨⟨(HE3.out.jou (X8, j0) (by simp)).1, (HE3.out.box (X5, z0) (by simp)).1⟩, HE3.out.bel⟩ ?_
          clear HR
          refine plan3_both (o1 := ?_) (o2 := ?_) (by simp only [List.getElem?_toArray, List.getElem?_cons_succ, List.getElem?_cons_zero]; rfl) (by simp only [List.getElem?_toArray, List.getElem?_cons_succ, List.getElem?_cons_zero]; rfl) ?_ ?_
          · intro R HR
            go_wp2_with fail
            (with_reducible refine (jadd_any x2 A1 l1 c1 _ HE3.out.bel.size HI3.out (HB.out.below HE3.out.bel) HSB.out).mono ?_)
            rintro e v4 ⟨x4, rfl, hk, hi, hb⟩
            have HE4 := hide (HE3.out.below hb)
            have HK4 := hide (hk.trans (congrArg (fun q => Jk.addAll q (secD l1)) HK2.out))
            have HI4 := hide hi
            clear hk hi hb
            go_wp2_with fail
            refine HR.out _ _ ⟨⟨(HE4.out.jou (X8, j0) (by simp)).1, (HE4.out.box (X5, z0) (by simp)).1⟩, HE4.out.bel⟩ ?_
            clear HR
            refine plan3_both (o1 := ?_) (o2 := ?_) (by simp only [List.getElem?_toArray, List.getElem?_cons_succ, List.getElem?_cons_zero]; rfl) (by simp only [List.getElem?_toArray, List.getElem?_cons_succ, List.getElem?_cons_zero]; rfl) ?_ ?_
            · intro R HR
              go_wp2_with fail
              (with_reducible refine (jsync_is (n0 := w.heap.size) _ HE4.out.bel.size HK4.out HZ0.out P2.out HI4.out (HE4.out.box (X5, z0) (by simp)).2.2.2).mono ?_)
              rintro e v5 ⟨x5, z5, rfl, hk, hz, hi, hi2, hb⟩
              have HE5 := hide (HE4.out.below hb)
              have HK5 := hide hk
              have HZ5 := hide hz
              have HI5 := hide hi
              have HG5 := hide hi2
              clear hk hz hi hi2 hb
              go_wp2_with fail
              refine HR.out _ _ ⟨⟨(HE5.out.jou (X8, j0) (by simp)).1, (HE5.out.box (X5, z0) (by simp)).1⟩, HE5.out.bel⟩ ?_
              clear HR
              (refine plan3_take (o := ?_) (v := ?_) (by simp only [List.getElem?_toArray, List.getElem?_cons_succ, List.getElem?_cons_zero]; rfl) (yields_run (by rfl) ?_) ?_; rotate_left; (focus (intro w' hw'; skip; go_simp <;> with_reducible rfl)); (simp only [Act.put, List.setIfInBounds_toArray, List.set_cons_zero, List.set_cons_succ]))
              (refine plan3_take (o := ?_) (v := ?_) (by simp only [List.getElem?_toArray, List.getElem?_cons_succ, List.getElem?_cons_zero]; rfl) (yields_run (by rfl) ?_) ?_; rotate_left; (focus (intro w' hw'; skip; go_simp <;> with_reducible rfl)); (simp only [Act.put, List.setIfInBounds_toArray, List.set_cons_zero, List.set_cons_succ]))
              (refine plan3_take (o := ?_) (v := ?_) (by simp only [List.getElem?_toArray, List.getElem?_cons_succ, List.getElem?_cons_zero]; rfl) (yields_run (by rfl) ?_) ?_; rotate_left; (focus (intro w' hw'; skip; go_simp <;> with_reducible rfl)); (simp only [Act.put, List.setIfInBounds_toArray, List.set_cons_zero, List.set_cons_succ]))
              (refine plan3_take (o := ?_) (v := ?_) (by simp only [List.getElem?_toArray, List.getElem?_cons_succ, List.getElem?_cons_zero]; rfl) (yields_run (by rfl) ?_) ?_; rotate_left; (focus (intro w' hw'; skip; go_simp <;> with_reducible rfl)); (simp only [Act.put, List.setIfInBounds_toArray, List.set_cons_zero, List.set_cons_succ]))
              refine plan3_run (o := ?_) (by simp only [List.getElem?_toArray, List.getElem?_cons_succ, List.getElem?_cons_zero]; rfl) ?_
              intro R HR
              have HE6 := hide (HE5.out.freshd (Nat.le_refl _))
              try simp only [World.size_alloc] at HE6
              have HL6 := hide HE5.out.ltd
              try simp only [World.size_alloc] at HL6
              have HI6 := hide (HI5.out.below (below_new _ (.cells #[.slice none 0 0, .slice none 0 0, .int .i64 0, .bool false] 25)))
              have HG6 := hide (HG5.out.below (below_new _ (.cells #[.slice none 0 0, .slice none 0 0, .int .i64 0, .bool false] 25)))
              go_wp2_with fail
              refine HR.out _ _ ⟨⟨(HE6.out.jou (X8, j0) (by simp)).1, (HE6.out.box (X5, z0) (by simp)).1⟩, HE6.out.bel⟩ ?_
              clear HR
              refine plan3_run (o := ?_) (by simp only [List.getElem?_toArray, List.getElem?_cons_succ, List.getElem?_cons_zero]; rfl) ?_
              intro R HR
              have HX7 := hide (show Blk _ v2.heap.size 29 _ from (HE6.out.jou (v2.heap.size, Jr.zero) (by simp)).1)
              have HE7 := hide (HE6.out.put1j (y := x5) HI6.out HL3.out)
              have HG7 := hide (HG6.out.keepT HX7.out (by decide) (HE6.out.jou (v2.heap.size, Jr.zero) (by simp)).2.2.1 (only_setRow (only_refl _ _) (.inl rfl) #[.slice x5.A x5.rs.length x5.cap, .int .i64 x5.many, .int .i64 x5.synced]))
              refine wpList_store_row rfl 29 (.tmp 10) (.tmp 63) rfl _ #[.slice x5.A x5.rs.length x5.cap, .int .i64 x5.many, .int .i64 x5.synced] rfl rfl 29 _ HX7.out Try.size29 rfl (one29 _ _ _ _ _) ?_
              refine HR.out _ _ ⟨⟨(HE7.out.jou (X8, j0) (by simp)).1, (HE7.out.box (X5, z0) (by simp)).1⟩, HE7.out.bel⟩ ?_
              clear HR
              refine plan3_run (o := ?_) (by simp only [List.getElem?_toArray, List.getElem?_cons_succ, List.getElem?_cons_zero]; rfl) ?_
              intro R HR
              have HX8 := hide (show Blk _ v5.heap.size 25 _ from (HE7.out.box (v5.heap.size, Dsk.zero) (by simp)).1)
              have HE8 := hide (HE7.out.put1d (y := z5) HG7.out HL6.out)
              refine wpList_store_row rfl 25 (.tmp 11) (.tmp 64) rfl _ #[.slice z5.sa z5.ss.length z5.sc, .slice z5.pa z5.ps.length z5.pc, .int .i64 z5.left, .bool z5.stp] rfl rfl 25 _ HX8.out Try.size25 rfl (one25 _ _ _ _ _ _ _ _) ?_
              refine HR.out _ _ ⟨⟨(HE8.out.jou (X8, j0) (by simp)).1, (HE8.out.box (X5, z0) (by simp)).1⟩, HE8.out.bel⟩ ?_
              clear HR
              refine plan3_run (o := ?_) (by simp only [List.getElem?_toArray, List.getElem?_cons_succ, List.getElem?_cons_zero]; rfl) ?_
              intro R HR
              go_wp2_with fail
              refine HR.out _ _ ⟨⟨(HE8.out.jou (X8, j0) (by simp)).1, (HE8.out.box (X5, z0) (by simp)).1⟩, HE8.out.bel⟩ ?_
              clear HR
              refine plan3_done ?_
              go_wp2_with fail
              go_meet
              case rel => exact ⟨_, _, _, _, rfl, rfl, rfl, HK5, HZ5, HE8⟩
            · intro R HR
              have HE5 := hide (HE4.out.freshd (Nat.le_refl _))
              try simp only [World.size_alloc] at HE5
              have HL5 := hide HE4.out.ltd
              try simp only [World.size_alloc] at HL5
              have HI5 := hide (HI4.out.below (below_new _ (.cells #[.slice none 0 0, .slice none 0 0, .int .i64 0, .bool false] 25)))
              go_wp2_with fail
              refine HR.out _ _ ⟨⟨(HE5.out.jou (X8, j0) (by simp)).1, (HE5.out.box (X5, z0) (by simp)).1⟩, HE5.out.bel⟩ ?_
              clear HR
              refine plan3_run (o := ?_) (by simp only [List.getElem?_toArray, List.getElem?_cons_succ, List.getElem?_cons_zero]; rfl) ?_
              intro R HR
              go_wp2_with fail
              (with_reducible refine (jsync_is (n0 := w.heap.size) _ HE5.out.bel.size HK4.out HZ0.out P2.out HI5.out (HE5.out.box (X5, z0) (by simp)).2.2.2).mono ?_)
              rintro e v6 ⟨x6, z6, rfl, hk, hz, hi, hi2, hb⟩
              have HE6 := hide (HE5.out.below hb)
              have HK6 := hide hk
              have HZ6 := hide hz
              have HI6 := hide hi
              have HG6 := hide hi2
              clear hk hz hi hi2 hb
              go_wp2_with fail
              refine HR.out _ _ ⟨⟨(HE6.out.jou (X8, j0) (by simp)).1, (HE6.out.box (X5, z0) (by simp)).1⟩, HE6.out.bel⟩ ?_
              clear HR
              (refine plan3_take (o := ?_) (v := ?_) (by simp only [List.getElem?_toArray, List.getElem?_cons_succ, List.getElem?_cons_zero]; rfl) (yields_run (by rfl) ?_) ?_; rotate_left; (focus (intro w' hw'; skip; go_simp <;> with_reducible rfl)); (simp only [Act.put, List.setIfInBounds_toArray, List.set_cons_zero, List.set_cons_succ]))
              (refine plan3_take (o := ?_) (v := ?_) (by simp only [List.getElem?_toArray, List.getElem?_cons_succ, List.getElem?_cons_zero]; rfl) (yields_run (by rfl) ?_) ?_; rotate_left; (focus (intro w' hw'; skip; go_simp <;> with_reducible rfl)); (simp only [Act.put, List.setIfInBounds_toArray, List.set_cons_zero, List.set_cons_succ]))
              (refine plan3_take (o := ?_) (v := ?_) (by simp only [List.getElem?_toArray, List.getElem?_cons_succ, List.getElem?_cons_zero]; rfl) (yields_run (by rfl) ?_) ?_; rotate_left; (focus (intro w' hw'; skip; go_simp <;> with_reducible rfl)); (simp only [Act.put, List.setIfInBounds_toArray, List.set_cons_zero, List.set_cons_succ]))
              (refine plan3_take (o := ?_) (v := ?_) (by simp only [List.getElem?_toArray, List.getElem?_cons_succ, List.getElem?_cons_zero]; rfl) (yields_run (by rfl) ?_) ?_; rotate_left; (focus (intro w' hw'; skip; go_simp <;> with_reducible rfl)); (simp only [Act.put, List.setIfInBounds_toArray, List.set_cons_zero, List.set_cons_succ]))
              refine plan3_run (o := ?_) (by simp only [List.getElem?_toArray, List.getElem?_cons_succ, List.getElem?_cons_zero]; rfl) ?_
              intro R HR
              have HX7 := hide (show Blk _ v2.heap.size 29 _ from (HE6.out.jou (v2.heap.size, Jr.zero) (by simp)).1)
              have HE7 := hide (HE6.out.put1j (y := x6) HI6.out HL3.out)
              have HG7 := hide (HG6.out.keepT HX7.out (by decide) (HE6.out.jou (v2.heap.size, Jr.zero) (by simp)).2.2.1 (only_setRow (only_refl _ _) (.inl rfl) #[.slice x6.A x6.rs.length x6.cap, .int .i64 x6.many, .int .i64 x6.synced]))
              refine wpList_store_row rfl 29 (.tmp 10) (.tmp 63) rfl _ #[.slice x6.A x6.rs.length x6.cap, .int .i64 x6.many, .int .i64 x6.synced] rfl rfl 29 _ HX7.out Try.size29 rfl (one29 _ _ _ _ _) ?_
              refine HR.out _ _ ⟨⟨(HE7.out.jou (X8, j0) (by simp)).1, (HE7.out.box (X5, z0) (by simp)).1⟩, HE7.out.bel⟩ ?_
              clear HR
              refine plan3_run (o := ?_) (by simp only [List.getElem?_toArray, List.getElem?_cons_succ, List.getElem?_cons_zero]; rfl) ?_
              intro R HR
              have HX8 := hide (show Blk _ v4.heap.size 25 _ from (HE7.out.box (v4.heap.size, Dsk.zero) (by simp)).1)
              have HE8 := hide (HE7.out.put1d (y := z6) HG7.out HL5.out)
              refine wpList_store_row rfl 25 (.tmp 11) (.tmp 64) rfl _ #[.slice z6.sa z6.ss.length z6.sc, .slice z6.pa z6.ps.length z6.pc, .int .i64 z6.left, .bool z6.stp] rfl rfl 25 _ HX8.out Try.size25 rfl (one25 _ _ _ _ _ _ _ _) ?_
              refine HR.out _ _ ⟨⟨(HE8.out.jou (X8, j0) (by simp)).1, (HE8.out.box (X5, z0) (by simp)).1⟩, HE8.out.bel⟩ ?_
              clear HR
              refine plan3_run (o := ?_) (by simp only [List.getElem?_toArray, List.getElem?_cons_succ, List.getElem?_cons_zero]; rfl) ?_
              intro R HR
              go_wp2_with fail
              refine HR.out _ _ ⟨⟨(HE8.out.jou (X8, j0) (by simp)).1, (HE8.out.box (X5, z0) (by simp)).1⟩, HE8.out.bel⟩ ?_
              clear HR
              refine plan3_done ?_
              go_wp2_with fail
              go_meet
              case rel => exact ⟨_, _, _, _, rfl, rfl, rfl, HK6, HZ6, HE8⟩
          · intro R HR
            have HE4 := hide (HE3.out.freshd (Nat.le_refl _))
            try simp only [World.size_alloc] at HE4
            have HL4 := hide HE3.out.ltd
            try simp only [World.size_alloc] at HL4
            have HI4 := hide (HI3.out.below (below_new _ (.cells #[.slice none 0 0, .slice none 0 0, .int .i64 0, .bool false] 25)))
            go_wp2_with fail
            refine HR.out _ _ ⟨⟨(HE4.out.jou (X8, j0) (by simp)).1, (HE4.out.box (X5, z0) (by simp)).1⟩, HE4.out.bel⟩ ?_
            clear HR
            refine plan3_run (o := ?_) (by simp only [List.getElem?_toArray, List.getElem?_cons_succ, List.getElem?_cons_zero]; rfl) ?_
            intro R HR
            go_wp2_with fail
            (with_reducible refine (jadd_any x2 A1 l1 c1 _ HE4.out.bel.size HI4.out (HB.out.below HE4.out.bel) HSB.out).mono ?_)
            rintro e v5 ⟨x5, rfl, hk, hi, hb⟩
            have HE5 := hide (HE4.out.below hb)
            have HK5 := hide (hk.trans (congrArg (fun q => Jk.addAll q (secD l1)) HK2.out))
            have HI5 := hide hi
            clear hk hi hb
            go_wp2_with fail
            refine HR.out _ _ ⟨⟨(HE5.out.jou (X8, j0) (by simp)).1, (HE5.out.box (X5, z0) (by simp)).1⟩, HE5.out.bel⟩ ?_
            clear HR
            refine plan3_run (o := ?_) (by simp only [List.getElem?_toArray, List.getElem?_cons_succ, List.getElem?_cons_zero]; rfl) ?_
            intro R HR
            go_wp2_with fail
            (with_reducible refine (jsync_is (n0 := w.heap.size) _ HE5.out.bel.size HK5.out HZ0.out P2.out HI5.out (HE5.out.box (X5, z0) (by simp)).2.2.2).mono ?_)
            rintro e v6 ⟨x6, z6, rfl, hk, hz, hi, hi2, hb⟩
            have HE6 := hide (HE5.out.below hb)
            have HK6 := hide hk
            have HZ6 := hide hz
            have HI6 := hide hi
            have HG6 := hide hi2
            clear hk hz hi hi2 hb
            go_wp2_with fail
            refine HR.out _ _ ⟨⟨(HE6.out.jou (X8, j0) (by simp)).1, (HE6.out.box (X5, z0) (by simp)).1⟩, HE6.out.bel⟩ ?_
            clear HR
            (refine plan3_take (o := ?_) (v := ?_) (by simp only [List.getElem?_toArray, List.getElem?_cons_succ, List.getElem?_cons_zero]; rfl) (yields_run (by rfl) ?_) ?_; rotate_left; (focus (intro w' hw'; skip; go_simp <;> with_reducible rfl)); (simp only [Act.put, List.setIfInBounds_toArray, List.set_cons_zero, List.set_cons_succ]))
            (refine plan3_take (o := ?_) (v := ?_) (by simp only [List.getElem?_toArray, List.getElem?_cons_succ, List.getElem?_cons_zero]; rfl) (yields_run (by rfl) ?_) ?_; rotate_left; (focus (intro w' hw'; skip; go_simp <;> with_reducible rfl)); (simp only [Act.put, List.setIfInBounds_toArray, List.set_cons_zero, List.set_cons_succ]))
            (refine plan3_take (o := ?_) (v := ?_) (by simp only [List.getElem?_toArray, List.getElem?_cons_succ, List.getElem?_cons_zero]; rfl) (yields_run (by rfl) ?_) ?_; rotate_left; (focus (intro w' hw'; skip; go_simp <;> with_reducible rfl)); (simp only [Act.put, List.setIfInBounds_toArray, List.set_cons_zero, List.set_cons_succ]))
            (refine plan3_take (o := ?_) (v := ?_) (by simp only [List.getElem?_toArray, List.getElem?_cons_succ, List.getElem?_cons_zero]; rfl) (yields_run (by rfl) ?_) ?_; rotate_left; (focus (intro w' hw'; skip; go_simp <;> with_reducible rfl)); (simp only [Act.put, List.setIfInBounds_toArray, List.set_cons_zero, List.set_cons_succ]))
            refine plan3_run (o := ?_) (by simp only [List.getElem?_toArray, List.getElem?_cons_succ, List.getElem?_cons_zero]; rfl) ?_
            intro R HR
            have HX7 := hide (show Blk _ v2.heap.size 29 _ from (HE6.out.jou (v2.heap.size, Jr.zero) (by simp)).1)
            have HE7 := hide (HE6.out.put1j (y := x6) HI6.out HL3.out)
            have HG7 := hide (HG6.out.keepT HX7.out (by decide) (HE6.out.jou (v2.heap.size, Jr.zero) (by simp)).2.2.1 (only_setRow (only_refl _ _) (.inl rfl) #[.slice x6.A x6.rs.length x6.cap, .int .i64 x6.many, .int .i64 x6.synced]))
            refine wpList_store_row rfl 29 (.tmp 10) (.tmp 63) rfl _ #[.slice x6.A x6.rs.length x6.cap, .int .i64 x6.many, .int .i64 x6.synced] rfl rfl 29 _ HX7.out Try.size29 rfl (one29 _ _ _ _ _) ?_
            refine HR.out _ _ ⟨⟨(HE7.out.jou (X8, j0) (by simp)).1, (HE7.out.box (X5, z0) (by simp)).1⟩, HE7.out.bel⟩ ?_
            clear HR
            refine plan3_run (o := ?_) (by simp only [List.getElem?_toArray, List.getElem?_cons_succ, List.getElem?_cons_zero]; rfl) ?_
            intro R HR
            have HX8 := hide (show Blk _ (v2.heap.size + 1) 25 _ from (HE7.out.box ((v2.heap.size + 1), Dsk.zero) (by simp)).1)
            have HE8 := hide (HE7.out.put1d (y := z6) HG7.out HL4.out)
            refine wpList_store_row rfl 25 (.tmp 11) (.tmp 64) rfl _ #[.slice z6.sa z6.ss.length z6.sc, .slice z6.pa z6.ps.length z6.pc, .int .i64 z6.left, .bool z6.stp] rfl rfl 25 _ HX8.out Try.size25 rfl (one25 _ _ _ _ _ _ _ _) ?_
            refine HR.out _ _ ⟨⟨(HE8.out.jou (X8, j0) (by simp)).1, (HE8.out.box (X5, z0) (by simp)).1⟩, HE8.out.bel⟩ ?_
            clear HR
            refine plan3_run (o := ?_) (by simp only [List.getElem?_toArray, List.getElem?_cons_succ, List.getElem?_cons_zero]; rfl) ?_
            intro R HR
            go_wp2_with fail
            refine HR.out _ _ ⟨⟨(HE8.out.jou (X8, j0) (by simp)).1, (HE8.out.box (X5, z0) (by simp)).1⟩, HE8.out.bel⟩ ?_
            clear HR
            refine plan3_done ?_
            go_wp2_with fail
            go_meet
            case rel => exact ⟨_, _, _, _, rfl, rfl, rfl, HK6, HZ6, HE8⟩
        · intro R HR
          have HE3 := hide (HE2.out.freshd (Nat.le_refl _))
          try simp only [World.size_alloc] at HE3
          have HL3 := hide HE2.out.ltd
          try simp only [World.size_alloc] at HL3
          have HI3 := hide (HI2.out.below (below_new _ (.cells #[.slice none 0 0, .slice none 0 0, .int .i64 0, .bool false] 25)))
          go_wp2_with fail
          refine HR.out _ _ ⟨⟨(HE3.out.jou (X8, j0) (by simp)).1, (HE3.out.box (X5, z0) (by simp)).1⟩, HE3.out.bel⟩ ?_
          clear HR
          refine plan3_both (o1 := ?_) (o2 := ?_) (by simp only [List.getElem?_toArray, List.getElem?_cons_succ, List.getElem?_cons_zero]; rfl) (by simp only [List.getElem?_toArray, List.getElem?_cons_succ, List.getElem?_cons_zero]; rfl) ?_ ?_
          · intro R HR
            go_wp2_with fail
            (with_reducible refine (jadd_any x2 A1 l1 c1 _ HE3.out.bel.size HI3.out (HB.out.below HE3.out.bel) HSB.out).mono ?_)
            rintro e v4 ⟨x4, rfl, hk, hi, hb⟩
            have HE4 := hide (HE3.out.below hb)
            have HK4 := hide (hk.trans (congrArg (fun q => Jk.addAll q (secD l1)) HK2.out))
            have HI4 := hide hi
            clear hk hi hb
            go_wp2_with fail
            refine HR.out _ _ ⟨⟨(HE4.out.jou (X8, j0) (by simp)).1, (HE4.out.box (X5, z0) (by simp)).1⟩, HE4.out.bel⟩ ?_
            clear HR
            refine plan3_both (o1 := ?_) (o2 := ?_) (by simp only [List.getElem?_toArray, List.getElem?_cons_succ, List.getElem?_cons_zero]; rfl) (by simp only [List.getElem?_toArray, List.getElem?_cons_succ, List.getElem?_cons_zero]; rfl) ?_ ?_
            · intro R HR
              go_wp2_with fail
              (with_reducible refine (jsync_is (n0 := w.heap.size) _ HE4.out.bel.size HK4.out HZ0.out P2.out HI4.out (HE4.out.box (X5, z0) (by simp)).2.2.2).mono ?_)
              rintro e v5 ⟨x5, z5, rfl, hk, hz, hi, hi2, hb⟩
              have HE5 := hide (HE4.out.below hb)
              have HK5 := hide hk
              have HZ5 := hide hz
              have HI5 := hide hi
              have HG5 := hide hi2
              clear hk hz hi hi2 hb
              go_wp2_with fail
              refine HR.out _ _ ⟨⟨(HE5.out.jou (X8, j0) (by simp)).1, (HE5.out.box (X5, z0) (by simp)).1⟩, HE5.out.bel⟩ ?_
              clear HR
              (refine plan3_take (o := ?_) (v := ?_) (by simp only [List.getElem?_toArray, List.getElem?_cons_succ, List.getElem?_cons_zero]; rfl) (yields_run (by rfl) ?_) ?_; rotate_left; (focus (intro w' hw'; skip; go_simp <;> with_reducible rfl)); (simp only [Act.put, List.setIfInBounds_toArray, List.set_cons_zero, List.set_cons_succ]))
              (refine plan3_take (o := ?_) (v := ?_) (by simp only [List.getElem?_toArray, List.getElem?_cons_succ, List.getElem?_cons_zero]; rfl) (yields_run (by rfl) ?_) ?_; rotate_left; (focus (intro w' hw'; skip; go_simp <;> with_reducible rfl)); (simp only [Act.put, List.setIfInBounds_toArray, List.set_cons_zero, List.set_cons_succ]))
              (refine plan3_take (o := ?_) (v := ?_) (by simp only [List.getElem?_toArray, List.getElem?_cons_succ, List.getElem?_cons_zero]; rfl) (yields_run (by rfl) ?_) ?_; rotate_left; (focus (intro w' hw'; skip; go_simp <;> with_reducible rfl)); (simp only [Act.put, List.setIfInBounds_toArray, List.set_cons_zero, List.set_cons_succ]))
              (refine plan3_take (o := ?_) (v := ?_) (by simp only [List.getElem?_toArray, List.getElem?_cons_succ, List.getElem?_cons_zero]; rfl) (yields_run (by rfl) ?_) ?_; rotate_left; (focus (intro w' hw'; skip; go_simp <;> with_reducible rfl)); (simp only [Act.put, List.setIfInBounds_toArray, List.set_cons_zero, List.set_cons_succ]))
              refine plan3_run (o := ?_) (by simp only [List.getElem?_toArray, List.getElem?_cons_succ, List.getElem?_cons_zero]; rfl) ?_
              intro R HR
              have HE6 := hide (HE5.out.freshj (Nat.le_refl _))
              try simp only [World.size_alloc] at HE6
              have HL6 := hide HE5.out.ltj
              try simp only [World.size_alloc] at HL6
              have HI6 := hide (HI5.out.below (below_new _ (.cells #[.slice none 0 0, .int .i64 0, .int .i64 0] 29)))
              have HG6 := hide (HG5.out.below (below_new _ (.cells #[.slice none 0 0, .int .i64 0, .int .i64 0] 29)))
              go_wp2_with fail
              refine HR.out _ _ ⟨⟨(HE6.out.jou (X8, j0) (by simp)).1, (HE6.out.box (X5, z0) (by simp)).1⟩, HE6.out.bel⟩ ?_
              clear HR
              refine plan3_run (o := ?_) (by simp only [List.getElem?_toArray, List.getElem?_cons_succ, List.getElem?_cons_zero]; rfl) ?_
              intro R HR
              have HX7 := hide (show Blk _ v5.heap.size 29 _ from (HE6.out.jou (v5.heap.size, Jr.zero) (by simp)).1)
              have HE7 := hide (HE6.out.put1j (y := x5) HI6.out HL6.out)
              have HG7 := hide (HG6.out.keepT HX7.out (by decide) (HE6.out.jou (v5.heap.size, Jr.zero) (by simp)).2.2.1 (only_setRow (only_refl _ _) (.inl rfl) #[.slice x5.A x5.rs.length x5.cap, .int .i64 x5.many, .int .i64 x5.synced]))
              refine wpList_store_row rfl 29 (.tmp 10) (.tmp 63) rfl _ #[.slice x5.A x5.rs.length x5.cap, .int .i64 x5.many, .int .i64 x5.synced] rfl rfl 29 _ HX7.out Try.size29 rfl (one29 _ _ _ _ _) ?_
              refine HR.out _ _ ⟨⟨(HE7.out.jou (X8, j0) (by simp)).1, (HE7.out.box (X5, z0) (by simp)).1⟩, HE7.out.bel⟩ ?_
              clear HR
              refine plan3_run (o := ?_) (by simp only [List.getElem?_toArray, List.getElem?_cons_succ, List.getElem?_cons_zero]; rfl) ?_
              intro R HR
              have HX8 := hide (show Blk _ v2.heap.size 25 _ from (HE7.out.box (v2.heap.size, Dsk.zero) (by simp)).1)
              have HE8 := hide (HE7.out.put1d (y := z5) HG7.out HL3.out)
              refine wpList_store_row rfl 25 (.tmp 11) (.tmp 64) rfl _ #[.slice z5.sa z5.ss.length z5.sc, .slice z5.pa z5.ps.length z5.pc, .int .i64 z5.left, .bool z5.stp] rfl rfl 25 _ HX8.out Try.size25 rfl (one25 _ _ _ _ _ _ _ _) ?_
              refine HR.out _ _ ⟨⟨(HE8.out.jou (X8, j0) (by simp)).1, (HE8.out.box (X5, z0) (by simp)).1⟩, HE8.out.bel⟩ ?_
              clear HR
              refine plan3_run (o := ?_) (by simp only [List.getElem?_toArray, List.getElem?_cons_succ, List.getElem?_cons_zero]; rfl) ?_
              intro R HR
              go_wp2_with fail
              refine HR.out _ _ ⟨⟨(HE8.out.jou (X8, j0) (by simp)).1, (HE8.out.box (X5, z0) (by simp)).1⟩, HE8.out.bel⟩ ?_
              clear HR
              refine plan3_done ?_
              go_wp2_with fail
              go_meet
              case rel => exact ⟨_, _, _, _, rfl, rfl, rfl, HK5, HZ5, HE8⟩
            · intro R HR
              have HE5 := hide (HE4.out.freshj (Nat.le_refl _))
              try simp only [World.size_alloc] at HE5
              have HL5 := hide HE4.out.ltj
              try simp only [World.size_alloc] at HL5
              have HI5 := hide (HI4.out.below (below_new _ (.cells #[.slice none 0 0, .int .i64 0, .int .i64 0] 29)))
              go_wp2_with fail
              refine HR.out _ _ ⟨⟨(HE5.out.jou (X8, j0) (by simp)).1, (HE5.out.box (X5, z0) (by simp)).1⟩, HE5.out.bel⟩ ?_
              clear HR
              refine plan3_run (o := ?_) (by simp only [List.getElem?_toArray, List.getElem?_cons_succ, List.getElem?_cons_zero]; rfl) ?_
              intro R HR
              go_wp2_with fail
              (with_reducible refine (jsync_is (n0 := w.heap.size) _ HE5.out.bel.size HK4.out HZ0.out P2.out HI5.out (HE5.out.box (X5, z0) (by simp)).2.2.2).mono ?_)
              rintro e v6 ⟨x6, z6, rfl, hk, hz, hi, hi2, hb⟩
              have HE6 := hide (HE5.out.below hb)
              have HK6 := hide hk
              have HZ6 := hide hz
              have HI6 := hide hi
              have HG6 := hide hi2
              clear hk hz hi hi2 hb
              go_wp2_with fail
              refine HR.out _ _ ⟨⟨(HE6.out.jou (X8, j0) (by simp)).1, (HE6.out.box (X5, z0) (by simp)).1⟩, HE6.out.bel⟩ ?_
              clear HR
              (refine plan3_take (o := ?_) (v := ?_) (by simp only [List.getElem?_toArray, List.getElem?_cons_succ, List.getElem?_cons_zero]; rfl) (yields_run (by rfl) ?_) ?_; rotate_left; (focus (intro w' hw'; skip; go_simp <;> with_reducible rfl)); (simp only [Act.put, List.setIfInBounds_toArray, List.set_cons_zero, List.set_cons_succ]))
              (refine plan3_take (o := ?_) (v := ?_) (by simp only [List.getElem?_toArray, List.getElem?_cons_succ, List.getElem?_cons_zero]; rfl) (yields_run (by rfl) ?_) ?_; rotate_left; (focus (intro w' hw'; skip; go_simp <;> with_reducible rfl)); (simp only [Act.put, List.setIfInBounds_toArray, List.set_cons_zero, List.set_cons_succ]))
              (refine plan3_take (o := ?_) (v := ?_) (by simp only [List.getElem?_toArray, List.getElem?_cons_succ, List.getElem?_cons_zero]; rfl) (yields_run (by rfl) ?_) ?_; rotate_left; (focus (intro w' hw'; skip; go_simp <;> with_reducible rfl)); (simp only [Act.put, List.setIfInBounds_toArray, List.set_cons_zero, List.set_cons_succ]))
              (refine plan3_take (o := ?_) (v := ?_) (by simp only [List.getElem?_toArray, List.getElem?_cons_succ, List.getElem?_cons_zero]; rfl) (yields_run (by rfl) ?_) ?_; rotate_left; (focus (intro w' hw'; skip; go_simp <;> with_reducible rfl)); (simp only [Act.put, List.setIfInBounds_toArray, List.set_cons_zero, List.set_cons_succ]))
              refine plan3_run (o := ?_) (by simp only [List.getElem?_toArray, List.getElem?_cons_succ, List.getElem?_cons_zero]; rfl) ?_
              intro R HR
              have HX7 := hide (show Blk _ v4.heap.size 29 _ from (HE6.out.jou (v4.heap.size, Jr.zero) (by simp)).1)
              have HE7 := hide (HE6.out.put1j (y := x6) HI6.out HL5.out)
              have HG7 := hide (HG6.out.keepT HX7.out (by decide) (HE6.out.jou (v4.heap.size, Jr.zero) (by simp)).2.2.1 (only_setRow (only_refl _ _) (.inl rfl) #[.slice x6.A x6.rs.length x6.cap, .int .i64 x6.many, .int .i64 x6.synced]))
              refine wpList_store_row rfl 29 (.tmp 10) (.tmp 63) rfl _ #[.slice x6.A x6.rs.length x6.cap, .int .i64 x6.many, .int .i64 x6.synced] rfl rfl 29 _ HX7.out Try.size29 rfl (one29 _ _ _ _ _) ?_
              refine HR.out _ _ ⟨⟨(HE7.out.jou (X8, j0) (by simp)).1, (HE7.out.box (X5, z0) (by simp)).1⟩, HE7.out.bel⟩ ?_
              clear HR
              refine plan3_run (o := ?_) (by simp only [List.getElem?_toArray, List.getElem?_cons_succ, List.getElem?_cons_zero]; rfl) ?_
              intro R HR
              have HX8 := hide (show Blk _ v2.heap.size 25 _ from (HE7.out.box (v2.heap.size, Dsk.zero) (by simp)).1)
              have HE8 := hide (HE7.out.put1d (y := z6) HG7.out HL3.out)
              refine wpList_store_row rfl 25 (.tmp 11) (.tmp 64) rfl _ #[.slice z6.sa z6.ss.length z6.sc, .slice z6.pa z6.ps.length z6.pc, .int .i64 z6.left, .bool z6.stp] rfl rfl 25 _ HX8.out Try.size25 rfl (one25 _ _ _ _ _ _ _ _) ?_
              refine HR.out _ _ ⟨⟨(HE8.out.jou (X8, j0) (by simp)).1, (HE8.out.box (X5, z0) (by simp)).1⟩, HE8.out.bel⟩ ?_
              clear HR
              refine plan3_run (o := ?_) (by simp only [List.getElem?_toArray, List.getElem?_cons_succ, List.getElem?_cons_zero]; rfl) ?_
              intro R HR
              go_wp2_with fail
              refine HR.out _ _ ⟨⟨(HE8.out.jou (X8, j0) (by simp)).1, (HE8.out.box (X5, z0) (by simp)).1⟩, HE8.out.bel⟩ ?_
              clear HR
              refine plan3_done ?_
              go_wp2_with fail
              go_meet
              case rel => exact ⟨_, _, _, _, rfl, rfl, rfl, HK6, HZ6, HE8⟩
          · intro R HR
            have HE4 := hide (HE3.out.freshj (Nat.le_refl _))
            try simp only [World.size_alloc] at HE4
            have HL4 := hide HE3.out.ltj
            try simp only [World.size_alloc] at HL4
            have HI4 := hide (HI3.out.below (below_new _ (.cells #[.slice none 0 0, .int .i64 0, .int .i64 0] 29)))
            go_wp2_with fail
            refine HR.out _ _ ⟨⟨(HE4.out.jou (X8, j0) (by simp)).1, (HE4.out.box (X5, z0) (by simp)).1⟩, HE4.out.bel⟩ ?_
            clear HR
            refine plan3_run (o := ?_) (by simp only [List.getElem?_toArray, List.getElem?_cons_succ, List.getElem?_cons_zero]; rfl) ?_
            intro R HR
            go_wp2_with fail
            (with_reducible refine (jadd_any x2 A1 l1 c1 _ HE4.out.bel.size HI4.out (HB.out.below HE4.out.bel) HSB.out).mono ?_)
            rintro e v5 ⟨x5, rfl, hk, hi, hb⟩
            have HE5 := hide (HE4.out.below hb)
            have HK5 := hide (hk.trans (congrArg (fun q => Jk.addAll q (secD l1)) HK2.out))
            have HI5 := hide hi
            clear hk hi hb
            go_wp2_with fail
            refine HR.out _ _ ⟨⟨(HE5.out.jou (X8, j0) (by simp)).1, (HE5.out.box (X5, z0) (by simp)).1⟩, HE5.out.bel⟩ ?_
            clear HR
            refine plan3_run (o := ?_) (by simp only [List.getElem?_toArray, List.getElem?_cons_succ, List.getElem?_cons_zero]; rfl) ?_
            intro R HR
            go_wp2_with fail
            (with_reducible refine (jsync_is (n0 := w.heap.size) _ HE5.out.bel.size HK5.out HZ0.out P2.out HI5.out (HE5.out.box (X5, z0) (by simp)).2.2.2).mono ?_)
            rintro e v6 ⟨x6, z6, rfl, hk, hz, hi, hi2, hb⟩
            have HE6 := hide (HE5.out.below hb)
            have HK6 := hide hk
            have HZ6 := hide hz
            have HI6 := hide hi
            have HG6 := hide hi2
            clear hk hz hi hi2 hb
            go_wp2_with fail
            refine HR.out _ _ ⟨⟨(HE6.out.jou (X8, j0) (by simp)).1, (HE6.out.box (X5, z0) (by simp)).1⟩, HE6.out.bel⟩ ?_
            clear HR
            (refine plan3_take (o := ?_) (v := ?_) (by simp only [List.getElem?_toArray, List.getElem?_cons_succ, List.getElem?_cons_zero]; rfl) (yields_run (by rfl) ?_) ?_; rotate_left; (focus (intro w' hw'; skip; go_simp <;> with_reducible rfl)); (simp only [Act.put, List.setIfInBounds_toArray, List.set_cons_zero, List.set_cons_succ]))
            (refine plan3_take (o := ?_) (v := ?_) (by simp only [List.getElem?_toArray, List.getElem?_cons_succ, List.getElem?_cons_zero]; rfl) (yields_run (by rfl) ?_) ?_; rotate_left; (focus (intro w' hw'; skip; go_simp <;> with_reducible rfl)); (simp only [Act.put, List.setIfInBounds_toArray, List.set_cons_zero, List.set_cons_succ]))
            (refine plan3_take (o := ?_) (v := ?_) (by simp only [List.getElem?_toArray, List.getElem?_cons_succ, List.getElem?_cons_zero]; rfl) (yields_run (by rfl) ?_) ?_; rotate_left; (focus (intro w' hw'; skip; go_simp <;> with_reducible rfl)); (simp only [Act.put, List.setIfInBounds_toArray, List.set_cons_zero, List.set_cons_succ]))
            (refine plan3_take (o := ?_) (v := ?_) (by simp only [List.getElem?_toArray, List.getElem?_cons_succ, List.getElem?_cons_zero]; rfl) (yields_run (by rfl) ?_) ?_; rotate_left; (focus (intro w' hw'; skip; go_simp <;> with_reducible rfl)); (simp only [Act.put, List.setIfInBounds_toArray, List.set_cons_zero, List.set_cons_succ]))
            refine plan3_run (o := ?_) (by simp only [List.getElem?_toArray, List.getElem?_cons_succ, List.getElem?_cons_zero]; rfl) ?_
            intro R HR
            have HX7 := hide (show Blk _ (v2.heap.size + 1) 29 _ from (HE6.out.jou ((v2.heap.size + 1), Jr.zero) (by simp)).1)
            have HE7 := hide (HE6.out.put1j (y := x6) HI6.out HL4.out)
            have HG7 := hide (HG6.out.keepT HX7.out (by decide) (HE6.out.jou ((v2.heap.size + 1), Jr.zero) (by simp)).2.2.1 (only_setRow (only_refl _ _) (.inl rfl) #[.slice x6.A x6.rs.length x6.cap, .int .i64 x6.many, .int .i64 x6.synced]))
            refine wpList_store_row rfl 29 (.tmp 10) (.tmp 63) rfl _ #[.slice x6.A x6.rs.length x6.cap, .int .i64 x6.many, .int .i64 x6.synced] rfl rfl 29 _ HX7.out Try.size29 rfl (one29 _ _ _ _ _) ?_
            refine HR.out _ _ ⟨⟨(HE7.out.jou (X8, j0) (by simp)).1, (HE7.out.box (X5, z0) (by simp)).1⟩, HE7.out.bel⟩ ?_
            clear HR
            refine plan3_run (o := ?_) (by simp only [List.getElem?_toArray, List.getElem?_cons_succ, List.getElem?_cons_zero]; rfl) ?_
            intro R HR
            have HX8 := hide (show Blk _ v2.heap.size 25 _ from (HE7.out.box (v2.heap.size, Dsk.zero) (by simp)).1)
            have HE8 := hide (HE7.out.put1d (y := z6) HG7.out HL3.out)
            refine wpList_store_row rfl 25 (.tmp 11) (.tmp 64) rfl _ #[.slice z6.sa z6.ss.length z6.sc, .slice z6.pa z6.ps.length z6.pc, .int .i64 z6.left, .bool z6.stp] rfl rfl 25 _ HX8.out Try.size25 rfl (one25 _ _ _ _ _ _ _ _) ?_
            refine HR.out _ _ ⟨⟨(HE8.out.jou (X8, j0) (by simp)).1, (HE8.out.box (X5, z0) (by simp)).1⟩, HE8.out.bel⟩ ?_
            clear HR
            refine plan3_run (o := ?_) (by simp only [List.getElem?_toArray, List.getElem?_cons_succ, List.getElem?_cons_zero]; rfl) ?_
            intro R HR
            go_wp2_with fail
            refine HR.out _ _ ⟨⟨(HE8.out.jou (X8, j0) (by simp)).1, (HE8.out.box (X5, z0) (by simp)).1⟩, HE8.out.bel⟩ ?_
            clear HR
            refine plan3_done ?_
            go_wp2_with fail
            go_meet
            case rel => exact ⟨_, _, _, _, rfl, rfl, rfl, HK6, HZ6, HE8⟩
      · intro R HR
        have HE2 := hide (HE1.out.freshj (Nat.le_refl _))
        try simp only [World.size_alloc] at HE2
        have HL2 := hide HE1.out.ltj
        try simp only [World.size_alloc] at HL2
        go_wp2_with fail
        refine HR.out _ _ ⟨⟨(HE2.out.jou (X8, j0) (by simp)).1, (HE2.out.box (X5, z0) (by simp)).1⟩, HE2.out.bel⟩ ?_
        clear HR
        refine plan3_both (o1 := ?_) (o2 := ?_) (by simp only [List.getElem?_toArray, List.getElem?_cons_succ, List.getElem?_cons_zero]; rfl) (by simp only [List.getElem?_toArray, List.getElem?_cons_succ, List.getElem?_cons_zero]; rfl) ?_ ?_
        · intro R HR
          go_wp2_with fail
          (with_reducible refine (jadd_any j0 A0 l0 c0 _ HE2.out.bel.size (HE2.out.jou (X8, j0) (by simp)).2.2.2 (HA.out.below HE2.out.bel) HSA.out).mono ?_)
          rintro e v3 ⟨x3, rfl, hk, hi, hb⟩
          have HE3 := hide (HE2.out.below hb)
          have HK3 := hide (hk.trans (congrArg (fun q => Jk.addAll q (secD l0)) HK0.out))
          have HI3 := hide hi
          clear hk hi hb
          go_wp2_with fail
          refine HR.out _ _ ⟨⟨(HE3.out.jou (X8, j0) (by simp)).1, (HE3.out.box (X5, z0) (by simp)).1⟩, HE3.out.bel⟩ ?_
          clear HR
          refine plan3_both (o1 := ?_) (o2 := ?_) (by simp only [List.getElem?_toArray, List.getElem?_cons_succ, List.getElem?_cons_zero]; rfl) (by simp only [List.getElem?_toArray, List.getElem?_cons_succ, List.getElem?_cons_zero]; rfl) ?_ ?_
          · intro R HR
            go_wp2_with fail
            (with_reducible refine (jadd_any x3 A1 l1 c1 _ HE3.out.bel.size HI3.out (HB.out.below HE3.out.bel) HSB.out).mono ?_)
            rintro e v4 ⟨x4, rfl, hk, hi, hb⟩
            have HE4 := hide (HE3.out.below hb)
            have HK4 := hide (hk.trans (congrArg (fun q => Jk.addAll q (secD l1)) HK3.out))
            have HI4 := hide hi
            clear hk hi hb
            go_wp2_with fail
            refine HR.out _ _ ⟨⟨(HE4.out.jou (X8, j0) (by simp)).1, (HE4.out.box (X5, z0) (by simp)).1⟩, HE4.out.bel⟩ ?_
            clear HR
            refine plan3_both (o1 := ?_) (o2 := ?_) (by simp only [List.getElem?_toArray, List.getElem?_cons_succ, List.getElem?_cons_zero]; rfl) (by simp only [List.getElem?_toArray, List.getElem?_cons_succ, List.getElem?_cons_zero]; rfl) ?_ ?_
            · intro R HR
              go_wp2_with fail
              (with_reducible refine (jsync_is (n0 := w.heap.size) _ HE4.out.bel.size HK4.out HZ0.out P2.out HI4.out (HE4.out.box (X5, z0) (by simp)).2.2.2).mono ?_)
              rintro e v5 ⟨x5, z5, rfl, hk, hz, hi, hi2, hb⟩
              have HE5 := hide (HE4.out.below hb)
              have HK5 := hide hk
              have HZ5 := hide hz
              have HI5 := hide hi
              have HG5 := hide hi2
              clear hk hz hi hi2 hb
              go_wp2_with fail
              refine HR.out _ _ ⟨⟨(HE5.out.jou (X8, j0) (by simp)).1, (HE5.out.box (X5, z0) (by simp)).1⟩, HE5.out.bel⟩ ?_
              clear HR
              (refine plan3_take (o := ?_) (v := ?_) (by simp only [List.getElem?_toArray, List.getElem?_cons_succ, List.getElem?_cons_zero]; rfl) (yields_run (by rfl) ?_) ?_; rotate_left; (focus (intro w' hw'; skip; go_simp <;> with_reducible rfl)); (simp only [Act.put, List.setIfInBounds_toArray, List.set_cons_zero, List.set_cons_succ]))
              (refine plan3_take (o := ?_) (v := ?_) (by simp only [List.getElem?_toArray, List.getElem?_cons_succ, List.getElem?_cons_zero]; rfl) (yields_run (by rfl) ?_) ?_; rotate_left; (focus (intro w' hw'; skip; go_simp <;> with_reducible rfl)); (simp only [Act.put, List.setIfInBounds_toArray, List.set_cons_zero, List.set_cons_succ]))
              (refine plan3_take (o := ?_) (v := ?_) (by simp only [List.getElem?_toArray, List.getElem?_cons_succ, List.getElem?_cons_zero]; rfl) (yields_run (by rfl) ?_) ?_; rotate_left; (focus (intro w' hw'; skip; go_simp <;> with_reducible rfl)); (simp only [Act.put, List.setIfInBounds_toArray, List.set_cons_zero, List.set_cons_succ]))
              (refine plan3_take (o := ?_) (v := ?_) (by simp only [List.getElem?_toArray, List.getElem?_cons_succ, List.getElem?_cons_zero]; rfl) (yields_run (by rfl) ?_) ?_; rotate_left; (focus (intro w' hw'; skip; go_simp <;> with_reducible rfl)); (simp only [Act.put, List.setIfInBounds_toArray, List.set_cons_zero, List.set_cons_succ]))
              refine plan3_run (o := ?_) (by simp only [List.getElem?_toArray, List.getElem?_cons_succ, List.getElem?_cons_zero]; rfl) ?_
              intro R HR
              have HE6 := hide (HE5.out.freshd (Nat.le_refl _))
              try simp only [World.size_alloc] at HE6
              have HL6 := hide HE5.out.ltd
              try simp only [World.size_alloc] at HL6
              have HI6 := hide (HI5.out.below (below_new _ (.cells #[.slice none 0 0, .slice none 0 0, .int .i64 0, .bool false] 25)))
              have HG6 := hide (HG5.out.below (below_new _ (.cells #[.slice none 0 0, .slice none 0 0, .int .i64 0, .bool false] 25)))
              go_wp2_with fail
              refine HR.out _ _ ⟨⟨(HE6.out.jou (X8, j0) (by simp)).1, (HE6.out.box (X5, z0) (by simp)).1⟩, HE6.out.bel⟩ ?_
              clear HR
              refine plan3_run (o := ?_) (by simp only [List.getElem?_toArray, List.getElem?_cons_succ, List.getElem?_cons_zero]; rfl) ?_
              intro R HR
              have HX7 := hide (show Blk _ wD.heap.size 29 _ from (HE6.out.jou (wD.heap.size, Jr.zero) (by simp)).1)
              have HE7 := hide (HE6.out.put1j (y := x5) HI6.out HL2.out)
              have HG7 := hide (HG6.out.keepT HX7.out (by decide) (HE6.out.jou (wD.heap.size, Jr.zero) (by simp)).2.2.1 (only_setRow (only_refl _ _) (.inl rfl) #[.slice x5.A x5.rs.length x5.cap, .int .i64 x5.many, .int .i64 x5.synced]))
              refine wpList_store_row rfl 29 (.tmp 10) (.tmp 63) rfl _ #[.slice x5.A x5.rs.length x5.cap, .int .i64 x5.many, .int .i64 x5.synced] rfl rfl 29 _ HX7.out Try.size29 rfl (one29 _ _ _ _ _) ?_
              refine HR.out _ _ ⟨⟨(HE7.out.jou (X8, j0) (by simp)).1, (HE7.out.box (X5, z0) (by simp)).1⟩, HE7.out.bel⟩ ?_
              clear HR
              refine plan3_run (o := ?_) (by simp only [List.getElem?_toArray, List.getElem?_cons_succ, List.getElem?_cons_zero]; rfl) ?_
              intro R HR
              have HX8 := hide (show Blk _ v5.heap.size 25 _ from (HE7.out.box (v5.heap.size, Dsk.zero) (by simp)).1)
              have HE8 := hide (HE7.out.put1d (y := z5) HG7.out HL6.out)
              refine wpList_store_row rfl 25 (.tmp 11) (.tmp 64) rfl _ #[.slice z5.sa z5.ss.length z5.sc, .slice z5.pa z5.ps.length z5.pc, .int .i64 z5.left, .bool z5.stp] rfl rfl 25 _ HX8.out Try.size25 rfl (one25 _ _ _ _ _ _ _ _) ?_
              refine HR.out _ _ ⟨⟨(HE8.out.jou (X8, j0) (by simp)).1, (HE8.out.box (X5, z0) (by simp)).1⟩, HE8.out.bel⟩ ?_
              clear HR
              refine plan3_run (o := ?_) (by simp only [List.getElem?_toArray, List.getElem?_cons_succ, List.getElem?_cons_zero]; rfl) ?_
              intro R HR
              go_wp2_with fail
              refine HR.out _ _ ⟨⟨(HE8.out.jou (X8, j0) (by simp)).1, (HE8.out.box (X5, z0) (by simp)).1⟩, HE8.out.bel⟩ ?_
              clear HR
              refine plan3_done ?_
              go_wp2_with fail
              go_meet
              case rel => exact ⟨_, _, _, _, rfl, rfl, rfl, HK5, HZ5, HE8⟩
            · intro R HR
              have HE5 := hide (HE4.out.freshd (Nat.le_refl _))
              try simp only [World.size_alloc] at HE5
              have HL5 := hide HE4.out.ltd
              try simp only [World.size_alloc] at HL5
              have HI5 := hide (HI4.out.below (below_new _ (.cells #[.slice none 0 0, .slice none 0 0, .int .i64 0, .bool false] 25)))
              go_wp2_with fail
              refine HR.out _ _ ⟨⟨(HE5.out.jou (X8, j0) (by simp)).1, (HE5.out.box (X5, z0) (by simp)).1⟩, HE5.out.bel⟩ ?_
              clear HR
              refine plan3_run (o := ?_) (by simp only [List.getElem?_toArray, List.getElem?_cons_succ, List.getElem?_cons_zero]; rfl) ?_
              intro R HR
              go_wp2_with fail
              (with_reducible refine (jsync_is (n0 := w.heap.size) _ HE5.out.bel.size HK4.out HZ0.out P2.out HI5.out (HE5.out.box (X5, z0) (by simp)).2.2.2).mono ?_)
              rintro e v6 ⟨x6, z6, rfl, hk, hz, hi, hi2, hb⟩
              have HE6 := hide (HE5.out.below hb)
              have HK6 := hide hk
              have HZ6 := hide hz
              have HI6 := hide hi
              have HG6 := hide hi2
              clear hk hz hi hi2 hb
              go_wp2_with fail
              refine HR.out _ _ ⟨⟨(HE6.out.jou (X8, j0) (by simp)).1, (HE6.out.box (X5, z0) (by simp)).1⟩, HE6.out.bel⟩ ?_
              clear HR
              (refine plan3_take (o := ?_) (v := ?_) (by simp only [List.getElem?_toArray, List.getElem?_cons_succ, List.getElem?_cons_zero]; rfl) (yields_run (by rfl) ?_) ?_; rotate_left; (focus (intro w' hw'; skip; go_simp <;> with_reducible rfl)); (simp only [Act.put, List.setIfInBounds_toArray, List.set_cons_zero, List.set_cons_succ]))
              (refine plan3_take (o := ?_) (v := ?_) (by simp only [List.getElem?_toArray, List.getElem?_cons_succ, List.getElem?_cons_zero]; rfl) (yields_run (by rfl) ?_) ?_; rotate_left; (focus (intro w' hw'; skip; go_simp <;> with_reducible rfl)); (simp only [Act.put, List.setIfInBounds_toArray, List.set_cons_zero, List.set_cons_succ]))
              (refine plan3_take (o := ?_) (v := ?_) (by simp only [List.getElem?_toArray, List.getElem?_cons_succ, List.getElem?_cons_zero]; rfl) (yields_run (by rfl) ?_) ?_; rotate_left; (focus (intro w' hw'; skip; go_simp <;> with_reducible rfl)); (simp only [Act.put, List.setIfInBounds_toArray, List.set_cons_zero, List.set_cons_succ]))
              (refine plan3_take (o := ?_) (v := ?_) (by simp only [List.getElem?_toArray, List.getElem?_cons_succ, List.getElem?_cons_zero]; rfl) (yields_run (by rfl) ?_) ?_; rotate_left; (focus (intro w' hw'; skip; go_simp <;> with_reducible rfl)); (simp only [Act.put, List.setIfInBounds_toArray, List.set_cons_zero, List.set_cons_succ]))
              refine plan3_run (o := ?_) (by simp only [List.getElem?_toArray, List.getElem?_cons_succ, List.getElem?_cons_zero]; rfl) ?_
              intro R HR
              have HX7 := hide (show Blk _ wD.heap.size 29 _ from (HE6.out.jou (wD.heap.size, Jr.zero) (by simp)).1)
              have HE7 := hide (HE6.out.put1j (y := x6) HI6.out HL2.out)
              have HG7 := hide (HG6.out.keepT HX7.out (by decide) (HE6.out.jou (wD.heap.size, Jr.zero) (by simp)).2.2.1 (only_setRow (only_refl _ _) (.inl rfl) #[.slice x6.A x6.rs.length x6.cap, .int .i64 x6.many, .int .i64 x6.synced]))
              refine wpList_store_row rfl 29 (.tmp 10) (.tmp 63) rfl _ #[.slice x6.A x6.rs.length x6.cap, .int .i64 x6.many, .int .i64 x6.synced] rfl rfl 29 _ HX7.out Try.size29 rfl (one29 _ _ _ _ _) ?_
              refine HR.out _ _ ⟨⟨(HE7.out.jou (X8, j0) (by simp)).1, (HE7.out.box (X5, z0) (by simp)).1⟩, HE7.out.bel⟩ ?_
              clear HR
              refine plan3_run (o := ?_) (by simp only [List.getElem?_toArray, List.getElem?_cons_succ, List.getElem?_cons_zero]; rfl) ?_
              intro R HR
              have HX8 := hide (show Blk _ v4.heap.size 25 _ from (HE7.out.box (v4.heap.size, Dsk.zero) (by simp)).1)
              have HE8 := hide (HE7.out.put1d (y := z6) HG7.out HL5.out)
              refine wpList_store_row rfl 25 (.tmp 11) (.tmp 64) rfl _ #[.slice z6.sa z6.ss.length z6.sc, .slice z6.pa z6.ps.length z6.pc, .int .i64 z6.left, .bool z6.stp] rfl rfl 25 _ HX8.out Try.size25 rfl (one25 _ _ _ _ _ _ _ _) ?_
              refine HR.out _ _ ⟨⟨(HE8.out.jou (X8, j0) (by simp)).1, (HE8.out.box (X5, z0) (by simp)).1⟩, HE8.out.bel⟩ ?_
              clear HR
              refine plan3_run (o := ?_) (by simp only [List.getElem?_toArray, List.getElem?_cons_succ, List.getElem?_cons_zero]; rfl) ?_
              intro R HR
              go_wp2_with fail
              refine HR.out _ _ ⟨⟨(HE8.out.jou (X8, j0) (by simp)).1, (HE8.out.box (X5, z0) (by simp)).1⟩, HE8.out.bel⟩ ?_
              clear HR
              refine plan3_done ?_
              go_wp2_with fail
              go_meet
              case rel => exact ⟨_, _, _, _, rfl, rfl, rfl, HK6, HZ6, HE8⟩
          · intro R HR
            have HE4 := hide (HE3.out.freshd (Nat.le_refl _))
            try simp only [World.size_alloc] at HE4
            have HL4 := hide HE3.out.ltd
            try simp only [World.size_alloc] at HL4
            have HI4 := hide (HI3.out.below (below_new _ (.cells #[.slice none 0 0, .slice none 0 0, .int .i64 0, .bool false] 25)))
            go_wp2_with fail
            refine HR.out _ _ ⟨⟨(HE4.out.jou (X8, j0) (by simp)).1, (HE4.out.box (X5, z0) (by simp)).1⟩, HE4.out.bel⟩ ?_
            clear HR
            refine plan3_run (o := ?_) (by simp only [List.getElem?_toArray, List.getElem?_cons_succ, List.getElem?_cons_zero]; rfl) ?_
            intro R HR
            go_wp2_with fail
            (with_reducible refine (jadd_any x3 A1 l1 c1 _ HE4.out.bel.size HI4.out (HB.out.below HE4.out.bel) HSB.out).mono ?_)
            rintro e v5 ⟨x5, rfl, hk, hi, hb⟩
            have HE5 := hide (HE4.out.below hb)
            have HK5 := hide (hk.trans (congrArg (fun q => Jk.addAll q (secD l1)) HK3.out))
            have HI5 := hide hi
            clear hk hi hb
            go_wp2_with fail
            refine HR.out _ _ ⟨⟨(HE5.out.jou (X8, j0) (by simp)).1, (HE5.out.box (X5, z0) (by simp)).1⟩, HE5.out.bel⟩ ?_
            clear HR
            refine plan3_run (o := ?_) (by simp only [List.getElem?_toArray, List.getElem?_cons_succ, List.getElem?_cons_zero]; rfl) ?_
            intro R HR
            go_wp2_with fail
            (with_reducible refine (jsync_is (n0 := w.heap.size) _ HE5.out.bel.size HK5.out HZ0.out P2.out HI5.out (HE5.out.box (X5, z0) (by simp)).2.2.2).mono ?_)
            rintro e v6 ⟨x6, z6, rfl, hk, hz, hi, hi2, hb⟩
            have HE6 := hide (HE5.out.below hb)
            have HK6 := hide hk
            have HZ6 := hide hz
            have HI6 := hide hi
            have HG6 := hide hi2
            clear hk hz hi hi2 hb
            go_wp2_with fail
            refine HR.out _ _ ⟨⟨(HE6.out.jou (X8, j0) (by simp)).1, (HE6.out.box (X5, z0) (by simp)).1⟩, HE6.out.bel⟩ ?_
            clear HR
            (refine plan3_take (o := ?_) (v := ?_) (by simp only [List.getElem?_toArray, List.getElem?_cons_succ, List.getElem?_cons_zero]; rfl) (yields_run (by rfl) ?_) ?_; rotate_left; (focus (intro w' hw'; skip; go_simp <;> with_reducible rfl)); (simp only [Act.put, List.setIfInBounds_toArray, List.set_cons_zero, List.set_cons_succ]))
            (refine plan3_take (o := ?_) (v := ?_) (by simp only [List.getElem?_toArray, List.getElem?_cons_succ, List.getElem?_cons_zero]; rfl) (yields_run (by rfl) ?_) ?_; rotate_left; (focus (intro w' hw'; skip; go_simp <;> with_reducible rfl)); (simp only [Act.put, List.setIfInBounds_toArray, List.set_cons_zero, List.set_cons_succ]))
            (refine plan3_take (o := ?_) (v := ?_) (by simp only [List.getElem?_toArray, List.getElem?_cons_succ, List.getElem?_cons_zero]; rfl) (yields_run (by rfl) ?_) ?_; rotate_left; (focus (intro w' hw'; skip; go_simp <;> with_reducible rfl)); (simp only [Act.put, List.setIfInBounds_toArray, List.set_cons_zero, List.set_cons_succ]))
            (refine plan3_take (o := ?_) (v := ?_) (by simp only [List.getElem?_toArray, List.getElem?_cons_succ, List.getElem?_cons_zero]; rfl) (yields_run (by rfl) ?_) ?_; rotate_left; (focus (intro w' hw'; skip; go_simp <;> with_reducible rfl)); (simp only [Act.put, List.setIfInBounds_toArray, List.set_cons_zero, List.set_cons_succ]))
            refine plan3_run (o := ?_) (by simp only [List.getElem?_toArray, List.getElem?_cons_succ, List.getElem?_cons_zero]; rfl) ?_
            intro R HR
            have HX7 := hide (show Blk _ wD.heap.size 29 _ from (HE6.out.jou (wD.heap.size, Jr.zero) (by simp)).1)
            have HE7 := hide (HE6.out.put1j (y := x6) HI6.out HL2.out)
            have HG7 := hide (HG6.out.keepT HX7.out (by decide) (HE6.out.jou (wD.heap.size, Jr.zero) (by simp)).2.2.1 (only_setRow (only_refl _ _) (.inl rfl) #[.slice x6.A x6.rs.length x6.cap, .int .i64 x6.many, .int .i64 x6.synced]))
            refine wpList_store_row rfl 29 (.tmp 10) (.tmp 63) rfl _ #[.slice x6.A x6.rs.length x6.cap, .int .i64 x6.many, .int .i64 x6.synced] rfl rfl 29 _ HX7.out Try.size29 rfl (one29 _ _ _ _ _) ?_
            refine HR.out _ _ ⟨⟨(HE7.out.jou (X8, j0) (by simp)).1, (HE7.out.box (X5, z0) (by simp)).1⟩, HE7.out.bel⟩ ?_
            clear HR
            refine plan3_run (o := ?_) (by simp only [List.getElem?_toArray, List.getElem?_cons_succ, List.getElem?_cons_zero]; rfl) ?_
            intro R HR
            have HX8 := hide (show Blk _ v3.heap.size 25 _ from (HE7.out.box (v3.heap.size, Dsk.zero) (by simp)).1)
            have HE8 := hide (HE7.out.put1d (y := z6) HG7.out HL4.out)
            refine wpList_store_row rfl 25 (.tmp 11) (.tmp 64) rfl _ #[.slice z6.sa z6.ss.length z6.sc, .slice z6.pa z6.ps.length z6.pc, .int .i64 z6.left, .bool z6.stp] rfl rfl 25 _ HX8.out Try.size25 rfl (one25 _ _ _ _ _ _ _ _) ?_
            refine HR.out _ _ ⟨⟨(HE8.out.jou (X8, j0) (by simp)).1, (HE8.out.box (X5, z0) (by simp)).1⟩, HE8.out.bel⟩ ?_
            clear HR
            refine plan3_run (o := ?_) (by simp only [List.getElem?_toArray, List.getElem?_cons_succ, List.getElem?_cons_zero]; rfl) ?_
            intro R HR
            go_wp2_with fail
            refine HR.out _ _ ⟨⟨(HE8.out.jou (X8, j0) (by simp)).1, (HE8.out.box (X5, z0) (by simp)).1⟩, HE8.out.bel⟩ ?_
            clear HR
            refine plan3_done ?_
            go_wp2_with fail
            go_meet
            case rel => exact ⟨_, _, _, _, rfl, rfl, rfl, HK6, HZ6, HE8⟩
        · intro R HR
          have HE3 := hide (HE2.out.freshd (Nat.le_refl _))
          try simp only [World.size_alloc] at HE3
          have HL3 := hide HE2.out.ltd
          try simp only [World.size_alloc] at HL3
          go_wp2_with fail
          refine HR.out _ _ ⟨⟨(HE3.out.jou (X8, j0) (by simp)).1, (HE3.out.box (X5, z0) (by simp)).1⟩, HE3.out.bel⟩ ?_
          clear HR
          refine plan3_run (o := ?_) (by simp only [List.getElem?_toArray, List.getElem?_cons_succ, List.getElem?_cons_zero]; rfl) ?_
          intro R HR
          go_wp2_with fail
          (with_reducible refine (jadd_any j0 A0 l0 c0 _ HE3.out.bel.size (HE3.out.jou (X8, j0) (by simp)).2.2.2 (HA.out.below HE3.out.bel) HSA.out).mono ?_)
          rintro e v4 ⟨x4, rfl, hk, hi, hb⟩
          have HE4 := hide (HE3.out.below hb)
          have HK4 := hide (hk.trans (congrArg (fun q => Jk.addAll q (secD l0)) HK0.out))
          have HI4 := hide hi
          clear hk hi hb
          go_wp2_with fail
          refine HR.out _ _ ⟨⟨(HE4.out.jou (X8, j0) (by simp)).1, (HE4.out.box (X5, z0) (by simp)).1⟩, HE4.out.bel⟩ ?_
          clear HR
          refine plan3_run (o := ?_) (by simp only [List.getElem?_toArray, List.getElem?_cons_succ, List.getElem?_cons_zero]; rfl) ?_
          intro R HR
          go_wp2_with fail
          (with_reducible refine (jadd_any x4 A1 l1 c1 _ HE4.out.bel.size HI4.out (HB.out.below HE4.out.bel) HSB.out).mono ?_)
          rintro e v5 ⟨x5, rfl, hk, hi, hb⟩
          have HE5 := hide (HE4.out.below hb)
          have HK5 := hide (hk.trans (congrArg (fun q => Jk.addAll q (secD l1)) HK4.out))
          have HI5 := hide hi
          clear hk hi hb
          go_wp2_with fail
          refine HR.out _ _ ⟨⟨(HE5.out.jou (X8, j0) (by simp)).1, (HE5.out.box (X5, z0) (by simp)).1⟩, HE5.out.bel⟩ ?_
          clear HR
          refine plan3_run (o := ?_) (by simp only [List.getElem?_toArray, List.getElem?_cons_succ, List.getElem?_cons_zero]; rfl) ?_
          intro R HR
          go_wp2_with fail
          (with_reducible refine (jsync_is (n0 := w.heap.size) _ HE5.out.bel.size HK5.out HZ0.out P2.out HI5.out (HE5.out.box (X5, z0) (by simp)).2.2.2).mono ?_)
          rintro e v6 ⟨x6, z6, rfl, hk, hz, hi, hi2, hb⟩
          have HE6 := hide (HE5.out.below hb)
          have HK6 := hide hk
          have HZ6 := hide hz
          have HI6 := hide hi
          have HG6 := hide hi2
          clear hk hz hi hi2 hb
          go_wp2_with fail
          refine HR.out _ _ ⟨⟨(HE6.out.jou (X8, j0) (by simp)).1, (HE6.out.box (X5, z0) (by simp)).1⟩, HE6.out.bel⟩ ?_
          clear HR
          (refine plan3_take (o := ?_) (v := ?_) (by simp only [List.getElem?_toArray, List.getElem?_cons_succ, List.getElem?_cons_zero]; rfl) (yields_run (by rfl) ?_) ?_; rotate_left; (focus (intro w' hw'; skip; go_simp <;> with_reducible rfl)); (simp only [Act.put, List.setIfInBounds_toArray, List.set_cons_zero, List.set_cons_succ]))
          (refine plan3_take (o := ?_) (v := ?_) (by simp only [List.getElem?_toArray, List.getElem?_cons_succ, List.getElem?_cons_zero]; rfl) (yields_run (by rfl) ?_) ?_; rotate_left; (focus (intro w' hw'; skip; go_simp <;> with_reducible rfl)); (simp only [Act.put, List.setIfInBounds_toArray, List.set_cons_zero, List.set_cons_succ]))
          (refine plan3_take (o := ?_) (v := ?_) (by simp only [List.getElem?_toArray, List.getElem?_cons_succ, List.getElem?_cons_zero]; rfl) (yields_run (by rfl) ?_) ?_; rotate_left; (focus (intro w' hw'; skip; go_simp <;> with_reducible rfl)); (simp only [Act.put, List.setIfInBounds_toArray, List.set_cons_zero, List.set_cons_succ]))
          (refine plan3_take (o := ?_) (v := ?_) (by simp only [List.getElem?_toArray, List.getElem?_cons_succ, List.getElem?_cons_zero]; rfl) (yields_run (by rfl) ?_) ?_; rotate_left; (focus (intro w' hw'; skip; go_simp <;> with_reducible rfl)); (simp only [Act.put, List.setIfInBounds_toArray, List.set_cons_zero, List.set_cons_succ]))
          refine plan3_run (o := ?_) (by simp only [List.getElem?_toArray, List.getElem?_cons_succ, List.getElem?_cons_zero]; rfl) ?_
          intro R HR
          have HX7 := hide (show Blk _ wD.heap.size 29 _ from (HE6.out.jou (wD.heap.size, Jr.zero) (by simp)).1)
          have HE7 := hide (HE6.out.put1j (y := x6) HI6.out HL2.out)
          have HG7 := hide (HG6.out.keepT HX7.out (by decide) (HE6.out.jou (wD.heap.size, Jr.zero) (by simp)).2.2.1 (only_setRow (only_refl _ _) (.inl rfl) #[.slice x6.A x6.rs.length x6.cap, .int .i64 x6.many, .int .i64 x6.synced]))
          refine wpList_store_row rfl 29 (.tmp 10) (.tmp 63) rfl _ #[.slice x6.A x6.rs.length x6.cap, .int .i64 x6.many, .int .i64 x6.synced] rfl rfl 29 _ HX7.out Try.size29 rfl (one29 _ _ _ _ _) ?_
          refine HR.out _ _ ⟨⟨(HE7.out.jou (X8, j0) (by simp)).1, (HE7.out.box (X5, z0) (by simp)).1⟩, HE7.out.bel⟩ ?_
          clear HR
          refine plan3_run (o := ?_) (by simp only [List.getElem?_toArray, List.getElem?_cons_succ, List.getElem?_cons_zero]; rfl) ?_
          intro R HR
          have HX8 := hide (show Blk _ (wD.heap.size + 1) 25 _ from (HE7.out.box ((wD.heap.size + 1), Dsk.zero) (by simp)).1)
          have HE8 := hide (HE7.out.put1d (y := z6) HG7.out HL3.out)
          refine wpList_store_row rfl 25 (.tmp 11) (.tmp 64) rfl _ #[.slice z6.sa z6.ss.length z6.sc, .slice z6.pa z6.ps.length z6.pc, .int .i64 z6.left, .bool z6.stp] rfl rfl 25 _ HX8.out Try.size25 rfl (one25 _ _ _ _ _ _ _ _) ?_
          refine HR.out _ _ ⟨⟨(HE8.out.jou (X8, j0) (by simp)).1, (HE8.out.box (X5, z0) (by simp)).1⟩, HE8.out.bel⟩ ?_
          clear HR
          refine plan3_run (o := ?_) (by simp only [List.getElem?_toArray, List.getElem?_cons_succ, List.getElem?_cons_zero]; rfl) ?_
          intro R HR
          go_wp2_with fail
          refine HR.out _ _ ⟨⟨(HE8.out.jou (X8, j0) (by simp)).1, (HE8.out.box (X5, z0) (by simp)).1⟩, HE8.out.bel⟩ ?_
          clear HR
          refine plan3_done ?_
          go_wp2_with fail
          go_meet
          case rel => exact ⟨_, _, _, _, rfl, rfl, rfl, HK6, HZ6, HE8⟩
      · intro R HR
        have HE2 := hide (HE1.out.freshd (Nat.le_refl _))
        try simp only [World.size_alloc] at HE2
        have HL2 := hide HE1.out.ltd
        try simp only [World.size_alloc] at HL2
        go_wp2_with fail
        refine HR.out _ _ ⟨⟨(HE2.out.jou (X8, j0) (by simp)).1, (HE2.out.box (X5, z0) (by simp)).1⟩, HE2.out.bel⟩ ?_
        clear HR
        refine plan3_both (o1 := ?_) (o2 := ?_) (by simp only [List.getElem?_toArray, List.getElem?_cons_succ, List.getElem?_cons_zero]; rfl) (by simp only [List.getElem?_toArray, List.getElem?_cons_succ, List.getElem?_cons_zero]; rfl) ?_ ?_
        · intro R HR
          go_wp2_with fail
          (with_reducible refine (jadd_any j0 A0 l0 c0 _ HE2.out.bel.size (HE2.out.jou (X8, j0) (by simp)).2.2.2 (HA.out.below HE2.out.bel) HSA.out).mono ?_)
          rintro e v3 ⟨x3, rfl, hk, hi, hb⟩
          have HE3 := hide (HE2.out.below hb)
          have HK3 := hide (hk.trans (congrArg (fun q => Jk.addAll q (secD l0)) HK0.out))
          have HI3 := hide hi
          clear hk hi hb
          go_wp2_with fail
          refine HR.out _ _ ⟨⟨(HE3.out.jou (X8, j0) (by simp)).1, (HE3.out.box (X5, z0) (by simp)).1⟩, HE3.out.bel⟩ ?_
          clear HR
          refine plan3_both (o1 := ?_) (o2 := ?_) (by simp only [List.getElem?_toArray, List.getElem?_cons_succ, List.getElem?_cons_zero]; rfl) (by simp only [List.getElem?_toArray, List.getElem?_cons_succ, List.getElem?_cons_zero]; rfl) ?_ ?_
          · intro R HR
            go_wp2_with fail
            (with_reducible refine (jadd_any x3 A1 l1 c1 _ HE3.out.bel.size HI3.out (HB.out.below HE3.out.bel) HSB.out).mono ?_)
            rintro e v4 ⟨x4, rfl, hk, hi, hb⟩
            have HE4 := hide (HE3.out.below hb)
            have HK4 := hide (hk.trans (congrArg (fun q => Jk.addAll q (secD l1)) HK3.out))
            have HI4 := hide hi
            clear hk hi hb
            go_wp2_with fail
            refine HR.out _ _ ⟨⟨(HE4.out.jou (X8, j0) (by simp)).1, (HE4.out.box (X5, z0) (by simp)).1⟩, HE4.out.bel⟩ ?_
            clear HR
            refine plan3_both (o1 := ?_) (o2 := ?_) (by simp only [List.getElem?_toArray, List.getElem?_cons_succ, List.getElem?_cons_zero]; rfl) (by simp only [List.getElem?_toArray, List.getElem?_cons_succ, List.getElem?_cons_zero]; rfl) ?_ ?_
            · intro R HR
              go_wp2_with fail
              (with_reducible refine (jsync_is (n0 := w.heap.size) _ HE4.out.bel.size HK4.out HZ0.out P2.out HI4.out (HE4.out.box (X5, z0) (by simp)).2.2.2).mono ?_)
              rintro e v5 ⟨x5, z5, rfl, hk, hz, hi, hi2, hb⟩
              have HE5 := hide (HE4.out.below hb)
              have HK5 := hide hk
              have HZ5 := hide hz
              have HI5 := hide hi
              have HG5 := hide hi2
              clear hk hz hi hi2 hb
              go_wp2_with fail
              refine HR.out _ _ ⟨⟨(HE5.out.jou (X8, j0) (by simp)).1, (HE5.out.box (X5, z0) (by simp)).1⟩, HE5.out.bel⟩ ?_
              clear HR
              (refine plan3_take (o := ?_) (v := ?_) (by simp only [List.getElem?_toArray, List.getElem?_cons_succ, List.getElem?_cons_zero]; rfl) (yields_run (by rfl) ?_) ?_; rotate_left; (focus (intro w' hw'; skip; go_simp <;> with_reducible rfl)); (simp only [Act.put, List.setIfInBounds_toArray, List.set_cons_zero, List.set_cons_succ]))
              (refine plan3_take (o := ?_) (v := ?_) (by simp only [List.getElem?_toArray, List.getElem?_cons_succ, List.getElem?_cons_zero]; rfl) (yields_run (by rfl) ?_) ?_; rotate_left; (focus (intro w' hw'; skip; go_simp <;> with_reducible rfl)); (simp only [Act.put, List.setIfInBounds_toArray, List.set_cons_zero, List.set_cons_succ]))
              (refine plan3_take (o := ?_) (v := ?_) (by simp only [List.getElem?_toArray, List.getElem?_cons_succ, List.getElem?_cons_zero]; rfl) (yields_run (by rfl) ?_) ?_; rotate_left; (focus (intro w' hw'; skip; go_simp <;> with_reducible rfl)); (simp only [Act.put, List.setIfInBounds_toArray, List.set_cons_zero, List.set_cons_succ]))
              (refine plan3_take (o := ?_) (v := ?_) (by simp only [List.getElem?_toArray, List.getElem?_cons_succ, List.getElem?_cons_zero]; rfl) (yields_run (by rfl) ?_) ?_; rotate_left; (focus (intro w' hw'; skip; go_simp <;> with_reducible rfl)); (simp only [Act.put, List.setIfInBounds_toArray, List.set_cons_zero, List.set_cons_succ]))
              refine plan3_run (o := ?_) (by simp only [List.getElem?_toArray, List.getElem?_cons_succ, List.getElem?_cons_zero]; rfl) ?_
              intro R HR
              have HE6 := hide (HE5.out.freshj (Nat.le_refl _))
              try simp only [World.size_alloc] at HE6
              have HL6 := hide HE5.out.ltj
              try simp only [World.size_alloc] at HL6
              have HI6 := hide (HI5.out.below (below_new _ (.cells #[.slice none 0 0, .int .i64 0, .int .i64 0] 29)))
              have HG6 := hide (HG5.out.below (below_new _ (.cells #[.slice none 0 0, .int .i64 0, .int .i64 0] 29)))
              go_wp2_with fail
              refine HR.out _ _ ⟨⟨(HE6.out.jou (X8, j0) (by simp)).1, (HE6.out.box (X5, z0) (by simp)).1⟩, HE6.out.bel⟩ ?_
              clear HR
              refine plan3_run (o := ?_) (by simp only [List.getElem?_toArray, List.getElem?_cons_succ, List.getElem?_cons_zero]; rfl) ?_
              intro R HR
              have HX7 := hide (show Blk _ v5.heap.size 29 _ from (HE6.out.jou (v5.heap.size, Jr.zero) (by simp)).1)
              have HE7 := hide (HE6.out.put1j (y := x5) HI6.out HL6.out)
              have HG7 := hide (HG6.out.keepT HX7.out (by decide) (HE6.out.jou (v5.heap.size, Jr.zero) (by simp)).2.2.1 (only_setRow (only_refl _ _) (.inl rfl) #[.slice x5.A x5.rs.length x5.cap, .int .i64 x5.many, .int .i64 x5.synced]))
              refine wpList_store_row rfl 29 (.tmp 10) (.tmp 63) rfl _ #[.slice x5.A x5.rs.length x5.cap, .int .i64 x5.many, .int .i64 x5.synced] rfl rfl 29 _ HX7.out Try.size29 rfl (one29 _ _ _ _ _) ?_
              refine HR.out _ _ ⟨⟨(HE7.out.jou (X8, j0) (by simp)).1, (HE7.out.box (X5, z0) (by simp)).1⟩, HE7.out.bel⟩ ?_
              clear HR
              refine plan3_run (o := ?_) (by simp only [List.getElem?_toArray, List.getElem?_cons_succ, List.getElem?_cons_zero]; rfl) ?_
              intro R HR
              have HX8 := hide (show Blk _ wD.heap.size 25 _ from (HE7.out.box (wD.heap.size, Dsk.zero) (by simp)).1)
              have HE8 := hide (HE7.out.put1d (y := z5) HG7.out HL2.out)
              refine wpList_store_row rfl 25 (.tmp 11) (.tmp 64) rfl _ #[.slice z5.sa z5.ss.length z5.sc, .slice z5.pa z5.ps.length z5.pc, .int .i64 z5.left, .bool z5.stp] rfl rfl 25 _ HX8.out Try.size25 rfl (one25 _ _ _ _ _ _ _ _) ?_
              refine HR.out _ _ ⟨⟨(HE8.out.jou (X8, j0) (by simp)).1, (HE8.out.box (X5, z0) (by simp)).1⟩, HE8.out.bel⟩ ?_
              clear HR
              refine plan3_run (o := ?_) (by simp only [List.getElem?_toArray, List.getElem?_cons_succ, List.getElem?_cons_zero]; rfl) ?_
              intro R HR
              go_wp2_with fail
              refine HR.out _ _ ⟨⟨(HE8.out.jou (X8, j0) (by simp)).1, (HE8.out.box (X5, z0) (by simp)).1⟩, HE8.out.bel⟩ ?_
              clear HR
              refine plan3_done ?_
              go_wp2_with fail
              go_meet
              case rel => exact ⟨_, _, _, _, rfl, rfl, rfl, HK5, HZ5, HE8⟩
            · intro R HR
              have HE5 := hide (HE4.out.freshj (Nat.le_refl _))
              try simp only [World.size_alloc] at HE5
              have HL5 := hide HE4.out.ltj
              try simp only [World.size_alloc] at HL5
              have HI5 := hide (HI4.out.below (below_new _ (.cells #[.slice none 0 0, .int .i64 0, .int .i64 0] 29)))
              go_wp2_with fail
              refine HR.out _ _ ⟨⟨(HE5.out.jou (X8, j0) (by simp)).1, (HE5.out.box (X5, z0) (by simp)).1⟩, HE5.out.bel⟩ ?_
              clear HR
              refine plan3_run (o := ?_) (by simp only [List.getElem?_toArray, List.getElem?_cons_succ, List.getElem?_cons_zero]; rfl) ?_
              intro R HR
              go_wp2_with fail
              (with_reducible refine (jsync_is (n0 := w.heap.size) _ HE5.out.bel.size HK4.out HZ0.out P2.out HI5.out (HE5.out.box (X5, z0) (by simp)).2.2.2).mono ?_)
              rintro e v6 ⟨x6, z6, rfl, hk, hz, hi, hi2, hb⟩
              have HE6 := hide (HE5.out.below hb)
              have HK6 := hide hk
              have HZ6 := hide hz
              have HI6 := hide hi
              have HG6 := hide hi2
              clear hk hz hi hi2 hb
              go_wp2_with fail
              refine HR.out _ _ ⟨⟨(HE6.out.jou (X8, j0) (by simp)).1, (HE6.out.box (X5, z0) (by simp)).1⟩, HE6.out.bel⟩ ?_
              clear HR
              (refine plan3_take (o := ?_) (v := ?_) (by simp only [List.getElem?_toArray, List.getElem?_cons_succ, List.getElem?_cons_zero]; rfl) (yields_run (by rfl) ?_) ?_; rotate_left; (focus (intro w' hw'; skip; go_simp <;> with_reducible rfl)); (simp only [Act.put, List.setIfInBounds_toArray, List.set_cons_zero, List.set_cons_succ]))
              (refine plan3_take (o := ?_) (v := ?_) (by simp only [List.getElem?_toArray, List.getElem?_cons_succ, List.getElem?_cons_zero]; rfl) (yields_run (by rfl) ?_) ?_; rotate_left; (focus (intro w' hw'; skip; go_simp <;> with_reducible rfl)); (simp only [Act.put, List.setIfInBounds_toArray, List.set_cons_zero, List.set_cons_succ]))
              (refine plan3_take (o := ?_) (v := ?_) (by simp only [List.getElem?_toArray, List.getElem?_cons_succ, List.getElem?_cons_zero]; rfl) (yields_run (by rfl) ?_) ?_; rotate_left; (focus (intro w' hw'; skip; go_simp <;> with_reducible rfl)); (simp only [Act.put, List.setIfInBounds_toArray, List.set_cons_zero, List.set_cons_succ]))
              (refine plan3_take (o := ?_) (v := ?_) (by simp only [List.getElem?_toArray, List.getElem?_cons_succ, List.getElem?_cons_zero]; rfl) (yields_run (by rfl) ?_) ?_; rotate_left; (focus (intro w' hw'; skip; go_simp <;> with_reducible rfl)); (simp only [Act.put, List.setIfInBounds_toArray, List.set_cons_zero, List.set_cons_succ]))
              refine plan3_run (o := ?_) (by simp only [List.getElem?_toArray, List.getElem?_cons_succ, List.getElem?_cons_zero]; rfl) ?_
              intro R HR
              have HX7 := hide (show Blk _ v4.heap.size 29 _ from (HE6.out.jou (v4.heap.size, Jr.zero) (by simp)).1)
              have HE7 := hide (HE6.out.put1j (y := x6) HI6.out HL5.out)
              have HG7 := hide (HG6.out.keepT HX7.out (by decide) (HE6.out.jou (v4.heap.size, Jr.zero) (by simp)).2.2.1 (only_setRow (only_refl _ _) (.inl rfl) #[.slice x6.A x6.rs.length x6.cap, .int .i64 x6.many, .int .i64 x6.synced]))
              refine wpList_store_row rfl 29 (.tmp 10) (.tmp 63) rfl _ #[.slice x6.A x6.rs.length x6.cap, .int .i64 x6.many, .int .i64 x6.synced] rfl rfl 29 _ HX7.out Try.size29 rfl (one29 _ _ _ _ _) ?_
              refine HR.out _ _ ⟨⟨(HE7.out.jou (X8, j0) (by simp)).1, (HE7.out.box (X5, z0) (by simp)).1⟩, HE7.out.bel⟩ ?_
              clear HR
              refine plan3_run (o := ?_) (by simp only [List.getElem?_toArray, List.getElem?_cons_succ, List.getElem?_cons_zero]; rfl) ?_
              intro R HR
              have HX8 := hide (show Blk _ wD.heap.size 25 _ from (HE7.out.box (wD.heap.size, Dsk.zero) (by simp)).1)
              have HE8 := hide (HE7.out.put1d (y := z6) HG7.out HL2.out)
              refine wpList_store_row rfl 25 (.tmp 11) (.tmp 64) rfl _ #[.slice z6.sa z6.ss.length z6.sc, .slice z6.pa z6.ps.length z6.pc, .int .i64 z6.left, .bool z6.stp] rfl rfl 25 _ HX8.out Try.size25 rfl (one25 _ _ _ _ _ _ _ _) ?_
              refine HR.out _ _ ⟨⟨(HE8.out.jou (X8, j0) (by simp)).1, (HE8.out.box (X5, z0) (by simp)).1⟩, HE8.out.bel⟩ ?_
              clear HR
              refine plan3_run (o := ?_) (by simp only [List.getElem?_toArray, List.getElem?_cons_succ, List.getElem?_cons_zero]; rfl) ?_
              intro R HR
              go_wp2_with fail
              refine HR.out _ _ ⟨⟨(HE8.out.jou (X8, j0) (by simp)).1, (HE8.out.box (X5, z0) (by simp)).1⟩, HE8.out.bel⟩ ?_
              clear HR
              refine plan3_done ?_
              go_wp2_with fail
              go_meet
              case rel => exact ⟨_, _, _, _, rfl, rfl, rfl, HK6, HZ6, HE8⟩
          · intro R HR
            have HE4 := hide (HE3.out.freshj (Nat.le_refl _))
            try simp only [World.size_alloc] at HE4
            have HL4 := hide HE3.out.ltj
            try simp only [World.size_alloc] at HL4
            have HI4 := hide (HI3.out.below (below_new _ (.cells #[.slice none 0 0, .int .i64 0, .int .i64 0] 29)))
            go_wp2_with fail
            refine HR.out _ _ ⟨⟨(HE4.out.jou (X8, j0) (by simp)).1, (HE4.out.box (X5, z0) (by simp)).1⟩, HE4.out.bel⟩ ?_
            clear HR
            refine plan3_run (o := ?_) (by simp only [List.getElem?_toArray, List.getElem?_cons_succ, List.getElem?_cons_zero]; rfl) ?_
            intro R HR
            go_wp2_with fail
            (with_reducible refine (jadd_any x3 A1 l1 c1 _ HE4.out.bel.size HI4.out (HB.out.below HE4.out.bel) HSB.out).mono ?_)
            rintro e v5 ⟨x5, rfl, hk, hi, hb⟩
            have HE5 := hide (HE4.out.below hb)
            have HK5 := hide (hk.trans (congrArg (fun q => Jk.addAll q (secD l1)) HK3.out))
            have HI5 := hide hi
            clear hk hi hb
            go_wp2_with fail
            refine HR.out _ _ ⟨⟨(HE5.out.jou (X8, j0) (by simp)).1, (HE5.out.box (X5, z0) (by simp)).1⟩, HE5.out.bel⟩ ?_
            clear HR
            refine plan3_run (o := ?_) (by simp only [List.getElem?_toArray, List.getElem?_cons_succ, List.getElem?_cons_zero]; rfl) ?_
            intro R HR
            go_wp2_with fail
            (with_reducible refine (jsync_is (n0 := w.heap.size) _ HE5.out.bel.size HK5.out HZ0.out P2.out HI5.out (HE5.out.box (X5, z0) (by simp)).2.2.2).mono ?_)
            rintro e v6 ⟨x6, z6, rfl, hk, hz, hi, hi2, hb⟩
            have HE6 := hide (HE5.out.below hb)
            have HK6 := hide hk
            have HZ6 := hide hz
            have HI6 := hide hi
            have HG6 := hide hi2
            clear hk hz hi hi2 hb
            go_wp2_with fail
            refine HR.out _ _ ⟨⟨(HE6.out.jou (X8, j0) (by simp)).1, (HE6.out.box (X5, z0) (by simp)).1⟩, HE6.out.bel⟩ ?_
            clear HR
            (refine plan3_take (o := ?_) (v := ?_) (by simp only [List.getElem?_toArray, List.getElem?_cons_succ, List.getElem?_cons_zero]; rfl) (yields_run (by rfl) ?_) ?_; rotate_left; (focus (intro w' hw'; skip; go_simp <;> with_reducible rfl)); (simp only [Act.put, List.setIfInBounds_toArray, List.set_cons_zero, List.set_cons_succ]))
            (refine plan3_take (o := ?_) (v := ?_) (by simp only [List.getElem?_toArray, List.getElem?_cons_succ, List.getElem?_cons_zero]; rfl) (yields_run (by rfl) ?_) ?_; rotate_left; (focus (intro w' hw'; skip; go_simp <;> with_reducible rfl)); (simp only [Act.put, List.setIfInBounds_toArray, List.set_cons_zero, List.set_cons_succ]))
            (refine plan3_take (o := ?_) (v := ?_) (by simp only [List.getElem?_toArray, List.getElem?_cons_succ, List.getElem?_cons_zero]; rfl) (yields_run (by rfl) ?_) ?_; rotate_left; (focus (intro w' hw'; skip; go_simp <;> with_reducible rfl)); (simp only [Act.put, List.setIfInBounds_toArray, List.set_cons_zero, List.set_cons_succ]))
            (refine plan3_take (o := ?_) (v := ?_) (by simp only [List.getElem?_toArray, List.getElem?_cons_succ, List.getElem?_cons_zero]; rfl) (yields_run (by rfl) ?_) ?_; rotate_left; (focus (intro w' hw'; skip; go_simp <;> with_reducible rfl)); (simp only [Act.put, List.setIfInBounds_toArray, List.set_cons_zero, List.set_cons_succ]))
            refine plan3_run (o := ?_) (by simp only [List.getElem?_toArray, List.getElem?_cons_succ, List.getElem?_cons_zero]; rfl) ?_
            intro R HR
            have HX7 := hide (show Blk _ v3.heap.size 29 _ from (HE6.out.jou (v3.heap.size, Jr.zero) (by simp)).1)
            have HE7 := hide (HE6.out.put1j (y := x6) HI6.out HL4.out)
            have HG7 := hide (HG6.out.keepT HX7.out (by decide) (HE6.out.jou (v3.heap.size, Jr.zero) (by simp)).2.2.1 (only_setRow (only_refl _ _) (.inl rfl) #[.slice x6.A x6.rs.length x6.cap, .int .i64 x6.many, .int .i64 x6.synced]))
            refine wpList_store_row rfl 29 (.tmp 10) (.tmp 63) rfl _ #[.slice x6.A x6.rs.length x6.cap, .int .i64 x6.many, .int .i64 x6.synced] rfl rfl 29 _ HX7.out Try.size29 rfl (one29 _ _ _ _ _) ?_
            refine HR.out _ _ ⟨⟨(HE7.out.jou (X8, j0) (by simp)).1, (HE7.out.box (X5, z0) (by simp)).1⟩, HE7.out.bel⟩ ?_
            clear HR
            refine plan3_run (o := ?_) (by simp only [List.getElem?_toArray, List.getElem?_cons_succ, List.getElem?_cons_zero]; rfl) ?_
            intro R HR
            have HX8 := hide (show Blk _ wD.heap.size 25 _ from (HE7.out.box (wD.heap.size, Dsk.zero) (by simp)).1)
            have HE8 := hide (HE7.out.put1d (y := z6) HG7.out HL2.out)
            refine wpList_store_row rfl 25 (.tmp 11) (.tmp 64) rfl _ #[.slice z6.sa z6.ss.length z6.sc, .slice z6.pa z6.ps.length z6.pc, .int .i64 z6.left, .bool z6.stp] rfl rfl 25 _ HX8.out Try.size25 rfl (one25 _ _ _ _ _ _ _ _) ?_
            refine HR.out _ _ ⟨⟨(HE8.out.jou (X8, j0) (by simp)).1, (HE8.out.box (X5, z0) (by simp)).1⟩, HE8.out.bel⟩ ?_
            clear HR
            refine plan3_run (o := ?_) (by simp only [List.getElem?_toArray, List.getElem?_cons_succ, List.getElem?_cons_zero]; rfl) ?_
            intro R HR
            go_wp2_with fail
            refine HR.out _ _ ⟨⟨(HE8.out.jou (X8, j0) (by simp)).1, (HE8.out.box (X5, z0) (by simp)).1⟩, HE8.out.bel⟩ ?_
            clear HR
            refine plan3_done ?_
            go_wp2_with fail
            go_meet
            case rel => exact ⟨_, _, _, _, rfl, rfl, rfl, HK6, HZ6, HE8⟩
        · intro R HR
          have HE3 := hide (HE2.out.freshj (Nat.le_refl _))
          try simp only [World.size_alloc] at HE3
          have HL3 := hide HE2.out.ltj
          try simp only [World.size_alloc] at HL3
          go_wp2_with fail
          refine HR.out _ _ ⟨⟨(HE3.out.jou (X8, j0) (by simp)).1, (HE3.out.box (X5, z0) (by simp)).1⟩, HE3.out.bel⟩ ?_
          clear HR
          refine plan3_run (o := ?_) (by simp only [List.getElem?_toArray, List.getElem?_cons_succ, List.getElem?_cons_zero]; rfl) ?_
          intro R HR
          go_wp2_with fail
          (with_reducible refine (jadd_any j0 A0 l0 c0 _ HE3.out.bel.size (HE3.out.jou (X8, j0) (by simp)).2.2.2 (HA.out.below HE3.out.bel) HSA.out).mono ?_)
          rintro e v4 ⟨x4, rfl, hk, hi, hb⟩
          have HE4 := hide (HE3.out.below hb)
          have HK4 := hide (hk.trans (congrArg (fun q => Jk.addAll q (secD l0)) HK0.out))
          have HI4 := hide hi
          clear hk hi hb
          go_wp2_with fail
          refine HR.out _ _ ⟨⟨(HE4.out.jou (X8, j0) (by simp)).1, (HE4.out.box (X5, z0) (by simp)).1⟩, HE4.out.bel⟩ ?_
          clear HR
          refine plan3_run (o := ?_) (by simp only [List.getElem?_toArray, List.getElem?_cons_succ, List.getElem?_cons_zero]; rfl) ?_
          intro R HR
          go_wp2_with fail
          (with_reducible refine (jadd_any x4 A1 l1 c1 _ HE4.out.bel.size HI4.out (HB.out.below HE4.out.bel) HSB.out).mono ?_)
          rintro e v5 ⟨x5, rfl, hk, hi, hb⟩
          have HE5 := hide (HE4.out.below hb)
          have HK5 := hide (hk.trans (congrArg (fun q => Jk.addAll q (secD l1)) HK4.out))
          have HI5 := hide hi
          clear hk hi hb
          go_wp2_with fail
          refine HR.out _ _ ⟨⟨(HE5.out.jou (X8, j0) (by simp)).1, (HE5.out.box (X5, z0) (by simp)).1⟩, HE5.out.bel⟩ ?_
          clear HR
          refine plan3_run (o := ?_) (by simp only [List.getElem?_toArray, List.getElem?_cons_succ, List.getElem?_cons_zero]; rfl) ?_
          intro R HR
          go_wp2_with fail
          (with_reducible refine (jsync_is (n0 := w.heap.size) _ HE5.out.bel.size HK5.out HZ0.out P2.out HI5.out (HE5.out.box (X5, z0) (by simp)).2.2.2).mono ?_)
          rintro e v6 ⟨x6, z6, rfl, hk, hz, hi, hi2, hb⟩
          have HE6 := hide (HE5.out.below hb)
          have HK6 := hide hk
          have HZ6 := hide hz
          have HI6 := hide hi
          have HG6 := hide hi2
          clear hk hz hi hi2 hb
          go_wp2_with fail
          refine HR.out _ _ ⟨⟨(HE6.out.jou (X8, j0) (by simp)).1, (HE6.out.box (X5, z0) (by simp)).1⟩, HE6.out.bel⟩ ?_
          clear HR
          (refine plan3_take (o := ?_) (v := ?_) (by simp only [List.getElem?_toArray, List.getElem?_cons_succ, List.getElem?_cons_zero]; rfl) (yields_run (by rfl) ?_) ?_; rotate_left; (focus (intro w' hw'; skip; go_simp <;> with_reducible rfl)); (simp only [Act.put, List.setIfInBounds_toArray, List.set_cons_zero, List.set_cons_succ]))
          (refine plan3_take (o := ?_) (v := ?_) (by simp only [List.getElem?_toArray, List.getElem?_cons_succ, List.getElem?_cons_zero]; rfl) (yields_run (by rfl) ?_) ?_; rotate_left; (focus (intro w' hw'; skip; go_simp <;> with_reducible rfl)); (simp only [Act.put, List.setIfInBounds_toArray, List.set_cons_zero, List.set_cons_succ]))
          (refine plan3_take (o := ?_) (v := ?_) (by simp only [List.getElem?_toArray, List.getElem?_cons_succ, List.getElem?_cons_zero]; rfl) (yields_run (by rfl) ?_) ?_; rotate_left; (focus (intro w' hw'; skip; go_simp <;> with_reducible rfl)); (simp only [Act.put, List.setIfInBounds_toArray, List.set_cons_zero, List.set_cons_succ]))
          (refine plan3_take (o := ?_) (v := ?_) (by simp only [List.getElem?_toArray, List.getElem?_cons_succ, List.getElem?_cons_zero]; rfl) (yields_run (by rfl) ?_) ?_; rotate_left; (focus (intro w' hw'; skip; go_simp <;> with_reducible rfl)); (simp only [Act.put, List.setIfInBounds_toArray, List.set_cons_zero, List.set_cons_succ]))
          refine plan3_run (o := ?_) (by simp only [List.getElem?_toArray, List.getElem?_cons_succ, List.getElem?_cons_zero]; rfl) ?_
          intro R HR
          have HX7 := hide (show Blk _ (wD.heap.size + 1) 29 _ from (HE6.out.jou ((wD.heap.size + 1), Jr.zero) (by simp)).1)
          have HE7 := hide (HE6.out.put1j (y := x6) HI6.out HL3.out)
          have HG7 := hide (HG6.out.keepT HX7.out (by decide) (HE6.out.jou ((wD.heap.size + 1), Jr.zero) (by simp)).2.2.1 (only_setRow (only_refl _ _) (.inl rfl) #[.slice x6.A x6.rs.length x6.cap, .int .i64 x6.many, .int .i64 x6.synced]))
          refine wpList_store_row rfl 29 (.tmp 10) (.tmp 63) rfl _ #[.slice x6.A x6.rs.length x6.cap, .int .i64 x6.many, .int .i64 x6.synced] rfl rfl 29 _ HX7.out Try.size29 rfl (one29 _ _ _ _ _) ?_
          refine HR.out _ _ ⟨⟨(HE7.out.jou (X8, j0) (by simp)).1, (HE7.out.box (X5, z0) (by simp)).1⟩, HE7.out.bel⟩ ?_
          clear HR
          refine plan3_run (o := ?_) (by simp only [List.getElem?_toArray, List.getElem?_cons_succ, List.getElem?_cons_zero]; rfl) ?_
          intro R HR
          have HX8 := hide (show Blk _ wD.heap.size 25 _ from (HE7.out.box (wD.heap.size, Dsk.zero) (by simp)).1)
          have HE8 := hide (HE7.out.put1d (y := z6) HG7.out HL2.out)
          refine wpList_store_row rfl 25 (.tmp 11) (.tmp 64) rfl _ #[.slice z6.sa z6.ss.length z6.sc, .slice z6.pa z6.ps.length z6.pc, .int .i64 z6.left, .bool z6.stp] rfl rfl 25 _ HX8.out Try.size25 rfl (one25 _ _ _ _ _ _ _ _) ?_
          refine HR.out _ _ ⟨⟨(HE8.out.jou (X8, j0) (by simp)).1, (HE8.out.box (X5, z0) (by simp)).1⟩, HE8.out.bel⟩ ?_
          clear HR
          refine plan3_run (o := ?_) (by simp only [List.getElem?_toArray, List.getElem?_cons_succ, List.getElem?_cons_zero]; rfl) ?_
          intro R HR
          go_wp2_with fail
          refine HR.out _ _ ⟨⟨(HE8.out.jou (X8, j0) (by simp)).1, (HE8.out.box (X5, z0) (by simp)).1⟩, HE8.out.bel⟩ ?_
          clear HR
          refine plan3_done ?_
          go_wp2_with fail
          go_meet
          case rel => exact ⟨_, _, _, _, rfl, rfl, rfl, HK6, HZ6, HE8⟩
    case rest =>
    obtain ⟨g1, h1, j1, z1, rfl, rfl, rfl, HK1, HZ1, HE1⟩ := hcut
    clear H3
    generalize wc = w7 at *
    go_upto_region 11 with (fail)
    go_cut [13, 14, 15] from 66 to 75 (fun p q r W => ∃ (g h : Nat) (j' : Jr) (z' : Dsk), p = .pointer (some ⟨g, 0, none⟩) ∧ q = .pointer (some ⟨h, 0, none⟩) ∧ r = .int .i64 0 ∧ Hid (j'.k = O) ∧ Hid (z'.d = x) ∧ Hid (Env w.heap.size w ((h, z') :: [(h1, z1), (X5, z0)]) ((g, j') :: [(g1, j1), (X8, j0)]) [] W))
    case first =>
      have HE1 := hide HE1.out.drew
      refine wp_region_plan3 (fun W => (Blk W X8 29 j0.cs ∧ Blk W X5 25 z0.cs) ∧ Below w.heap.size w W) (.take 0 (.take 1 (.take 2 (.take 4 (.three 3 (.three 5 (.take 6 (.take 7 (.take 8 (.take 9 (.both 10 (.run 11 (.run 12 (.run 13 (.run 14 .done)))) 11 (.run 10 (.run 12 (.run 13 (.run 14 .done))))))))) 10 (.both 5 (.take 6 (.take 7 (.take 8 (.take 9 (.run 11 (.run 12 (.run 13 (.run 14 .done)))))))) 11 (.run 5 (.take 6 (.take 7 (.take 8 (.take 9 (.run 12 (.run 13 (.run 14 .done))))))))) 11 (.both 5 (.take 6 (.take 7 (.take 8 (.take 9 (.run 10 (.run 12 (.run 13 (.run 14 .done)))))))) 10 (.run 5 (.take 6 (.take 7 (.take 8 (.take 9 (.run 12 (.run 13 (.run 14 .done)))))))))) 10 (.both 3 (.both 5 (.take 6 (.take 7 (.take 8 (.take 9 (.run 11 (.run 12 (.run 13 (.run 14 .done)))))))) 11 (.run 5 (.take 6 (.take 7 (.take 8 (.take 9 (.run 12 (.run 13 (.run 14 .done))))))))) 11 (.run 3 (.run 5 (.take 6 (.take 7 (.take 8 (.take 9 (.run 12 (.run 13 (.run 14 .done)))))))))) 11 (.both 3 (.both 5 (.take 6 (.take 7 (.take 8 (.take 9 (.run 10 (.run 12 (.run 13 (.run 14 .done)))))))) 10 (.run 5 (.take 6 (.take 7 (.take 8 (.take 9 (.run 12 (.run 13 (.run 14 .done))))))))) 10 (.run 3 (.run 5 (.take 6 (.take 7 (.take 8 (.take 9 (.run 12 (.run 13 (.run 14 .done))))))))))))))) (by kernel_rfl) (by kernel_rfl) ⟨⟨(HE1.out.jou (X8, j0) (by simp)).1, (HE1.out.box (X5, z0) (by simp)).1⟩, HE1.out.bel⟩ ?_
      generalize w7.drew = wD at HE1 ⊢
      (refine plan3_take (o := ?_) (v := ?_) (by simp only [List.getElem?_toArray, List.getElem?_cons_zero]; rfl) (yields_run (by rfl) ?_) ?_; rotate_left; (focus (intro w' hw'; skip; go_simp <;> with_reducible rfl)); (simp only [Act.put, List.setIfInBounds_toArray, List.set_cons_zero, List.set_cons_succ]))
      (refine plan3_take (o := ?_) (v := ?_) (by simp only [List.getElem?_toArray, List.getElem?_cons_succ, List.getElem?_cons_zero]; rfl) (yields_run (by rfl) ?_) ?_; rotate_left; (focus (intro w' hw'; obtain ⟨q0, q1, q2⟩ := hw'.1.1.c3; go_simp <;> with_reducible rfl)); (simp only [Act.put, List.setIfInBounds_toArray, List.set_cons_zero, List.set_cons_succ]))
      (refine plan3_take (o := ?_) (v := ?_) (by simp only [List.getElem?_toArray, List.getElem?_cons_succ, List.getElem?_cons_zero]; rfl) (yields_run (by rfl) ?_) ?_; rotate_left; (focus (intro w' hw'; skip; go_simp <;> with_reducible rfl)); (simp only [Act.put, List.setIfInBounds_toArray, List.set_cons_zero, List.set_cons_succ]))
      (refine plan3_take (o := ?_) (v := ?_) (by simp only [List.getElem?_toArray, List.getElem?_cons_succ, List.getElem?_cons_zero]; rfl) (yields_run (by rfl) ?_) ?_; rotate_left; (focus (intro w' hw'; obtain ⟨q0, q1, q2, q3⟩ := hw'.1.2.c4; go_simp <;> with_reducible rfl)); (simp only [Act.put, List.setIfInBounds_toArray, List.set_cons_zero, List.set_cons_succ]))
      refine plan3_three (o1 := ?_) (o2 := ?_) (o3 := ?_) (by simp only [List.getElem?_toArray, List.getElem?_cons_succ, List.getElem?_cons_zero]; rfl) (by simp only [List.getElem?_toArray, List.getElem?_cons_succ, List.getElem?_cons_zero]; rfl) (by simp only [List.getElem?_toArray, List.getElem?_cons_succ, List.getElem?_cons_zero]; rfl) ?_ ?_ ?_
      · intro R HR
        go_wp2_with fail
        (with_reducible refine (jadd_any j0 A0 l0 c0 _ HE1.out.bel.size (HE1.out.jou (X8, j0) (by simp)).2.2.2 (HA.out.below HE1.out.bel) HSA.out).mono ?_)
        rintro e v2 ⟨x2, rfl, hk, hi, hb⟩
        have HE2 := hide (HE1.out.below hb)
        have HK2 := hide (hk.trans (congrArg (fun q => Jk.addAll q (secD l0)) HK0.out))
        have HI2 := hide hi
        clear hk hi hb
        go_wp2_with fail
        refine HR.out _ _ ⟨⟨(HE2.out.jou (X8, j0) (by simp)).1, (HE2.out.box (X5, z0) (by simp)).1⟩, HE2.out.bel⟩ ?_
        clear HR
        refine plan3_three (o1 := ?_) (o2 := ?_) (o3 := ?_) (by simp only [List.getElem?_toArray, List.getElem?_cons_succ, List.getElem?_cons_zero]; rfl) (by simp only [List.getElem?_toArray, List.getElem?_cons_succ, List.getElem?_cons_zero]; rfl) (by simp only [List.getElem?_toArray, List.getElem?_cons_succ, List.getElem?_cons_zero]; rfl) ?_ ?_ ?_
        · intro R HR
          go_wp2_with fail
          (with_reducible refine (jsync_is (n0 := w.heap.size) _ HE2.out.bel.size HK2.out HZ0.out P3.out HI2.out (HE2.out.box (X5, z0) (by simp)).2.2.2).mono ?_)
          rintro e v3 ⟨x3, z3, rfl, hk, hz, hi, hi2, hb⟩
          have HE3 := hide (HE2.out.below hb)
          have HK3 := hide hk
          have HZ3 := hide hz
          have HI3 := hide hi
          have HG3 := hide hi2
          clear hk hz hi hi2 hb
          go_wp2_with fail
          refine HR.out _ _ ⟨⟨(HE3.out.jou (X8, j0) (by simp)).1, (HE3.out.box (X5, z0) (by simp)).1⟩, HE3.out.bel⟩ ?_
          clear HR
          (refine plan3_take (o := ?_) (v := ?_) (by simp only [List.getElem?_toArray, List.getElem?_cons_succ, List.getElem?_cons_zero]; rfl) (yields_run (by rfl) ?_) ?_; rotate_left; (focus (intro w' hw'; skip; go_simp <;> with_reducible rfl)); (simp only [Act.put, List.setIfInBounds_toArray, List.set_cons_zero, List.set_cons_succ]))
          (refine plan3_take (o := ?_) (v := ?_) (by simp only [List.getElem?_toArray, List.getElem?_cons_succ, List.getElem?_cons_zero]; rfl) (yields_run (by rfl) ?_) ?_; rotate_left; (focus (intro w' hw'; skip; go_simp <;> with_reducible rfl)); (simp only [Act.put, List.setIfInBounds_toArray, List.set_cons_zero, List.set_cons_succ]))
          (refine plan3_take (o := ?_) (v := ?_) (by simp only [List.getElem?_toArray, List.getElem?_cons_succ, List.getElem?_cons_zero]; rfl) (yields_run (by rfl) ?_) ?_; rotate_left; (focus (intro w' hw'; skip; go_simp <;> with_reducible rfl)); (simp only [Act.put, List.setIfInBounds_toArray, List.set_cons_zero, List.set_cons_succ]))
          (refine plan3_take (o := ?_) (v := ?_) (by simp only [List.getElem?_toArray, List.getElem?_cons_succ, List.getElem?_cons_zero]; rfl) (yields_run (by rfl) ?_) ?_; rotate_left; (focus (intro w' hw'; skip; go_simp <;> with_reducible rfl)); (simp only [Act.put, List.setIfInBounds_toArray, List.set_cons_zero, List.set_cons_succ]))
          refine plan3_both (o1 := ?_) (o2 := ?_) (by simp only [List.getElem?_toArray, List.getElem?_cons_succ, List.getElem?_cons_zero]; rfl) (by simp only [List.getElem?_toArray, List.getElem?_cons_succ, List.getElem?_cons_zero]; rfl) ?_ ?_
          · intro R HR
            have HE4 := hide (HE3.out.freshj (Nat.le_refl _))
            try simp only [World.size_alloc] at HE4
            have HL4 := hide HE3.out.ltj
            try simp only [World.size_alloc] at HL4
            have HI4 := hide (HI3.out.below (below_new _ (.cells #[.slice none 0 0, .int .i64 0, .int .i64 0] 29)))
            have HG4 := hide (HG3.out.below (below_new _ (.cells #[.slice none 0 0, .int .i64 0, .int .i64 0] 29)))
            go_wp2_with fail
            refine HR.out _ _ ⟨⟨(HE4.out.jou (X8, j0) (by simp)).1, (HE4.out.box (X5, z0) (by simp)).1⟩, HE4.out.bel⟩ ?_
            clear HR
            refine plan3_run (o := ?_) (by simp only [List.getElem?_toArray, List.getElem?_cons_succ, List.getElem?_cons_zero]; rfl) ?_
            intro R HR
            have HE5 := hide (HE4.out.freshd (Nat.le_refl _))
            try simp only [World.size_alloc] at HE5
            have HL5 := hide HE4.out.ltd
            try simp only [World.size_alloc] at HL5
            have HI5 := hide (HI4.out.below (below_new _ (.cells #[.slice none 0 0, .slice none 0 0, .int .i64 0, .bool false] 25)))
            have HG5 := hide (HG4.out.below (below_new _ (.cells #[.slice none 0 0, .slice none 0 0, .int .i64 0, .bool false] 25)))
            go_wp2_with fail
            refine HR.out _ _ ⟨⟨(HE5.out.jou (X8, j0) (by simp)).1, (HE5.out.box (X5, z0) (by simp)).1⟩, HE5.out.bel⟩ ?_
            clear HR
            refine plan3_run (o := ?_) (by simp only [List.getElem?_toArray, List.getElem?_cons_succ, List.getElem?_cons_zero]; rfl) ?_
            intro R HR
            have HX6 := hide (show Blk _ v3.heap.size 29 _ from (HE5.out.jou (v3.heap.size, Jr.zero) (by simp)).1)
            have HE6 := hide (HE5.out.put1j (y := x3) HI5.out HL4.out)
            have HG6 := hide (HG5.out.keepT HX6.out (by decide) (HE5.out.jou (v3.heap.size, Jr.zero) (by simp)).2.2.1 (only_setRow (only_refl _ _) (.inl rfl) #[.slice x3.A x3.rs.length x3.cap, .int .i64 x3.many, .int .i64 x3.synced]))
            refine wpList_store_row rfl 29 (.tmp 13) (.tmp 73) rfl _ #[.slice x3.A x3.rs.length x3.cap, .int .i64 x3.many, .int .i64 x3.synced] rfl rfl 29 _ HX6.out Try.size29 rfl (one29 _ _ _ _ _) ?_
            refine HR.out _ _ ⟨⟨(HE6.out.jou (X8, j0) (by simp)).1, (HE6.out.box (X5, z0) (by simp)).1⟩, HE6.out.bel⟩ ?_
            clear HR
            refine plan3_run (o := ?_) (by simp only [List.getElem?_toArray, List.getElem?_cons_succ, List.getElem?_cons_zero]; rfl) ?_
            intro R HR
            have HX7 := hide (show Blk _ (v3.heap.size + 1) 25 _ from (HE6.out.box ((v3.heap.size + 1), Dsk.zero) (by simp)).1)
            have HE7 := hide (HE6.out.put1d (y := z3) HG6.out HL5.out)
            refine wpList_store_row rfl 25 (.tmp 14) (.tmp 74) rfl _ #[.slice z3.sa z3.ss.length z3.sc, .slice z3.pa z3.ps.length z3.pc, .int .i64 z3.left, .bool z3.stp] rfl rfl 25 _ HX7.out Try.size25 rfl (one25 _ _ _ _ _ _ _ _) ?_
            refine HR.out _ _ ⟨⟨(HE7.out.jou (X8, j0) (by simp)).1, (HE7.out.box (X5, z0) (by simp)).1⟩, HE7.out.bel⟩ ?_
            clear HR
            refine plan3_run (o := ?_) (by simp only [List.getElem?_toArray, List.getElem?_cons_succ, List.getElem?_cons_zero]; rfl) ?_
            intro R HR
            go_wp2_with fail
            refine HR.out _ _ ⟨⟨(HE7.out.jou (X8, j0) (by simp)).1, (HE7.out.box (X5, z0) (by simp)).1⟩, HE7.out.bel⟩ ?_
            clear HR
            refine plan3_done ?_
            go_wp2_with fail
            go_meet
            case rel => exact ⟨_, _, _, _, rfl, rfl, rfl, HK3, HZ3, HE7⟩
          · intro R HR
            have HE4 := hide (HE3.out.freshd (Nat.le_refl _))
            try simp only [World.size_alloc] at HE4
            have HL4 := hide HE3.out.ltd
            try simp only [World.size_alloc] at HL4
            have HI4 := hide (HI3.out.below (below_new _ (.cells #[.slice none 0 0, .slice none 0 0, .int .i64 0, .bool false] 25)))
            have HG4 := hide (HG3.out.below (below_new _ (.cells #[.slice none 0 0, .slice none 0 0, .int .i64 0, .bool false] 25)))
            go_wp2_with fail
            refine HR.out _ _ ⟨⟨(HE4.out.jou (X8, j0) (by simp)).1, (HE4.out.box (X5, z0) (by simp)).1⟩, HE4.out.bel⟩ ?_
            clear HR
            refine plan3_run (o := ?_) (by simp only [List.getElem?_toArray, List.getElem?_cons_succ, List.getElem?_cons_zero]; rfl) ?_
            intro R HR
            have HE5 := hide (HE4.out.freshj (Nat.le_refl _))
            try simp only [World.size_alloc] at HE5
            have HL5 := hide HE4.out.ltj
            try simp only [World.size_alloc] at HL5
            have HI5 := hide (HI4.out.below (below_new _ (.cells #[.slice none 0 0, .int .i64 0, .int .i64 0] 29)))
            have HG5 := hide (HG4.out.below (below_new _ (.cells #[.slice none 0 0, .int .i64 0, .int .i64 0] 29)))
            go_wp2_with fail
            refine HR.out _ _ ⟨⟨(HE5.out.jou (X8, j0) (by simp)).1, (HE5.out.box (X5, z0) (by simp)).1⟩, HE5.out.bel⟩ ?_
            clear HR
            refine plan3_run (o := ?_) (by simp only [List.getElem?_toArray, List.getElem?_cons_succ, List.getElem?_cons_zero]; rfl) ?_
            intro R HR
            have HX6 := hide (show Blk _ (v3.heap.size + 1) 29 _ from (HE5.out.jou ((v3.heap.size + 1), Jr.zero) (by simp)).1)
            have HE6 := hide (HE5.out.put1j (y := x3) HI5.out HL5.out)
            have HG6 := hide (HG5.out.keepT HX6.out (by decide) (HE5.out.jou ((v3.heap.size + 1), Jr.zero) (by simp)).2.2.1 (only_setRow (only_refl _ _) (.inl rfl) #[.slice x3.A x3.rs.length x3.cap, .int .i64 x3.many, .int .i64 x3.synced]))
            refine wpList_store_row rfl 29 (.tmp 13) (.tmp 73) rfl _ #[.slice x3.A x3.rs.length x3.cap, .int .i64 x3.many, .int .i64 x3.synced] rfl rfl 29 _ HX6.out Try.size29 rfl (one29 _ _ _ _ _) ?_
            refine HR.out _ _ ⟨⟨(HE6.out.jou (X8, j0) (by simp)).1, (HE6.out.box (X5, z0) (by simp)).1⟩, HE6.out.bel⟩ ?_
            clear HR
            refine plan3_run (o := ?_) (by simp only [List.getElem?_toArray, List.getElem?_cons_succ, List.getElem?_cons_zero]; rfl) ?_
            intro R HR
            have HX7 := hide (show Blk _ v3.heap.size 25 _ from (HE6.out.box (v3.heap.size, Dsk.zero) (by simp)).1)
            have HE7 := hide (HE6.out.put1d (y := z3) HG6.out HL4.out)
            refine wpList_store_row rfl 25 (.tmp 14) (.tmp 74) rfl _ #[.slice z3.sa z3.ss.length z3.sc, .slice z3.pa z3.ps.length z3.pc, .int .i64 z3.left, .bool z3.stp] rfl rfl 25 _ HX7.out Try.size25 rfl (one25 _ _ _ _ _ _ _ _) ?_
            refine HR.out _ _ ⟨⟨(HE7.out.jou (X8, j0) (by simp)).1, (HE7.out.box (X5, z0) (by simp)).1⟩, HE7.out.bel⟩ ?_
            clear HR
            refine plan3_run (o := ?_) (by simp only [List.getElem?_toArray, List.getElem?_cons_succ, List.getElem?_cons_zero]; rfl) ?_
            intro R HR
            go_wp2_with fail
            refine HR.out _ _ ⟨⟨(HE7.out.jou (X8, j0) (by simp)).1, (HE7.out.box (X5, z0) (by simp)).1⟩, HE7.out.bel⟩ ?_
            clear HR
            refine plan3_done ?_
            go_wp2_with fail
            go_meet
            case rel => exact ⟨_, _, _, _, rfl, rfl, rfl, HK3, HZ3, HE7⟩
        · intro R HR
          have HE3 := hide (HE2.out.freshj (Nat.le_refl _))
          try simp only [World.size_alloc] at HE3
          have HL3 := hide HE2.out.ltj
          try simp only [World.size_alloc] at HL3
          have HI3 := hide (HI2.out.below (below_new _ (.cells #[.slice none 0 0, .int .i64 0, .int .i64 0] 29)))
          go_wp2_with fail
          refine HR.out _ _ ⟨⟨(HE3.out.jou (X8, j0) (by simp)).1, (HE3.out.box (X5, z0) (by simp)).1⟩, HE3.out.bel⟩ ?_
          clear HR
          refine plan3_both (o1 := ?_) (o2 := ?_) (by simp only [List.getElem?_toArray, List.getElem?_cons_succ, List.getElem?_cons_zero]; rfl) (by simp only [List.getElem?_toArray, List.getElem?_cons_succ, List.getElem?_cons_zero]; rfl) ?_ ?_
          · intro R HR
            go_wp2_with fail
            (with_reducible refine (jsync_is (n0 := w.heap.size) _ HE3.out.bel.size HK2.out HZ0.out P3.out HI3.out (HE3.out.box (X5, z0) (by simp)).2.2.2).mono ?_)
            rintro e v4 ⟨x4, z4, rfl, hk, hz, hi, hi2, hb⟩
            have HE4 := hide (HE3.out.below hb)
            have HK4 := hide hk
            have HZ4 := hide hz
            have HI4 := hide hi
            have HG4 := hide hi2
            clear hk hz hi hi2 hb
            go_wp2_with fail
            refine HR.out _ _ ⟨⟨(HE4.out.jou (X8, j0) (by simp)).1, (HE4.out.box (X5, z0) (by simp)).1⟩, HE4.out.bel⟩ ?_
            clear HR
            (refine plan3_take (o := ?_) (v := ?_) (by simp only [List.getElem?_toArray, List.getElem?_cons_succ, List.getElem?_cons_zero]; rfl) (yields_run (by rfl) ?_) ?_; rotate_left; (focus (intro w' hw'; skip; go_simp <;> with_reducible rfl)); (simp only [Act.put, List.setIfInBounds_toArray, List.set_cons_zero, List.set_cons_succ]))
            (refine plan3_take (o := ?_) (v := ?_) (by simp only [List.getElem?_toArray, List.getElem?_cons_succ, List.getElem?_cons_zero]; rfl) (yields_run (by rfl) ?_) ?_; rotate_left; (focus (intro w' hw'; skip; go_simp <;> with_reducible rfl)); (simp only [Act.put, List.setIfInBounds_toArray, List.set_cons_zero, List.set_cons_succ]))
            (refine plan3_take (o := ?_) (v := ?_) (by simp only [List.getElem?_toArray, List.getElem?_cons_succ, List.getElem?_cons_zero]; rfl) (yields_run (by rfl) ?_) ?_; rotate_left; (focus (intro w' hw'; skip; go_simp <;> with_reducible rfl)); (simp only [Act.put, List.setIfInBounds_toArray, List.set_cons_zero, List.set_cons_succ]))
            (refine plan3_take (o := ?_) (v := ?_) (by simp only [List.getElem?_toArray, List.getElem?_cons_succ, List.getElem?_cons_zero]; rfl) (yields_run (by rfl) ?_) ?_; rotate_left; (focus (intro w' hw'; skip; go_simp <;> with_reducible rfl)); (simp only [Act.put, List.setIfInBounds_toArray, List.set_cons_zero, List.set_cons_succ]))
            refine plan3_run (o := ?_) (by simp only [List.getElem?_toArray, List.getElem?_cons_succ, List.getElem?_cons_zero]; rfl) ?_
            intro R HR
            have HE5 := hide (HE4.out.freshd (Nat.le_refl _))
            try simp only [World.size_alloc] at HE5
            have HL5 := hide HE4.out.ltd
            try simp only [World.size_alloc] at HL5
            have HI5 := hide (HI4.out.below (below_new _ (.cells #[.slice none 0 0, .slice none 0 0, .int .i64 0, .bool false] 25)))
            have HG5 := hide (HG4.out.below (below_new _ (.cells #[.slice none 0 0, .slice none 0 0, .int .i64 0, .bool false] 25)))
            go_wp2_with fail
            refine HR.out _ _ ⟨⟨(HE5.out.jou (X8, j0) (by simp)).1, (HE5.out.box (X5, z0) (by simp)).1⟩, HE5.out.bel⟩ ?_
            clear HR
            refine plan3_run (o := ?_) (by simp only [List.getElem?_toArray, List.getElem?_cons_succ, List.getElem?_cons_zero]; rfl) ?_
            intro R HR
            have HX6 := hide (show Blk _ v2.heap.size 29 _ from (HE5.out.jou (v2.heap.size, Jr.zero) (by simp)).1)
            have HE6 := hide (HE5.out.put1j (y := x4) HI5.out HL3.out)
            have HG6 := hide (HG5.out.keepT HX6.out (by decide) (HE5.out.jou (v2.heap.size, Jr.zero) (by simp)).2.2.1 (only_setRow (only_refl _ _) (.inl rfl) #[.slice x4.A x4.rs.length x4.cap, .int .i64 x4.many, .int .i64 x4.synced]))
            refine wpList_store_row rfl 29 (.tmp 13) (.tmp 73) rfl _ #[.slice x4.A x4.rs.length x4.cap, .int .i64 x4.many, .int .i64 x4.synced] rfl rfl 29 _ HX6.out Try.size29 rfl (one29 _ _ _ _ _) ?_
            refine HR.out _ _ ⟨⟨(HE6.out.jou (X8, j0) (by simp)).1, (HE6.out.box (X5, z0) (by simp)).1⟩, HE6.out.bel⟩ ?_
            clear HR
            refine plan3_run (o := ?_) (by simp only [List.getElem?_toArray, List.getElem?_cons_succ, List.getElem?_cons_zero]; rfl) ?_
            intro R HR
            have HX7 := hide (show Blk _ v4.heap.size 25 _ from (HE6.out.box (v4.heap.size, Dsk.zero) (by simp)).1)
            have HE7 := hide (HE6.out.put1d (y := z4) HG6.out HL5.out)
            refine wpList_store_row rfl 25 (.tmp 14) (.tmp 74) rfl _ #[.slice z4.sa z4.ss.length z4.sc, .slice z4.pa z4.ps.length z4.pc, .int .i64 z4.left, .bool z4.stp] rfl rfl 25 _ HX7.out Try.size25 rfl (one25 _ _ _ _ _ _ _ _) ?_
            refine HR.out _ _ ⟨⟨(HE7.out.jou (X8, j0) (by simp)).1, (HE7.out.box (X5, z0) (by simp)).1⟩, HE7.out.bel⟩ ?_
            clear HR
            refine plan3_run (o := ?_) (by simp only [List.getElem?_toArray, List.getElem?_cons_succ, List.getElem?_cons_zero]; rfl) ?_
            intro R HR
            go_wp2_with fail
            refine HR.out _ _ ⟨⟨(HE7.out.jou (X8, j0) (by simp)).1, (HE7.out.box (X5, z0) (by simp)).1⟩, HE7.out.bel⟩ ?_
            clear HR
            refine plan3_done ?_
            go_wp2_with fail
            go_meet
            case rel => exact ⟨_, _, _, _, rfl, rfl, rfl, HK4, HZ4, HE7⟩
          · intro R HR
            have HE4 := hide (HE3.out.freshd (Nat.le_refl _))
            try simp only [World.size_alloc] at HE4
            have HL4 := hide HE3.out.ltd
            try simp only [World.size_alloc] at HL4
            have HI4 := hide (HI3.out.below (below_new _ (.cells #[.slice none 0 0, .slice none 0 0, .int .i64 0, .bool false] 25)))
            go_wp2_with fail
            refine HR.out _ _ ⟨⟨(HE4.out.jou (X8, j0) (by simp)).1, (HE4.out.box (X5, z0) (by simp)).1⟩, HE4.out.bel⟩ ?_
            clear HR
            refine plan3_run (o := ?_) (by simp only [List.getElem?_toArray, List.getElem?_cons_succ, List.getElem?_cons_zero]; rfl) ?_
            intro R HR
            go_wp2_with fail
            (with_reducible refine (jsync_is (n0 := w.heap.size) _ HE4.out.bel.size HK2.out HZ0.out P3.out HI4.out (HE4.out.box (X5, z0) (by simp)).2.2.2).mono ?_)
            rintro e v5 ⟨x5, z5, rfl, hk, hz, hi, hi2, hb⟩
            have HE5 := hide (HE4.out.below hb)
            have HK5 := hide hk
            have HZ5 := hide hz
            have HI5 := hide hi
            have HG5 := hide hi2
            clear hk hz hi hi2 hb
            go_wp2_with fail
            refine HR.out _ _ ⟨⟨(HE5.out.jou (X8, j0) (by simp)).1, (HE5.out.box (X5, z0) (by simp)).1⟩, HE5.out.bel⟩ ?_
            clear HR
            (refine plan3_take (o := ?_) (v := ?_) (by simp only [List.getElem?_toArray, List.getElem?_cons_succ, List.getElem?_cons_zero]; rfl) (yields_run (by rfl) ?_) ?_; rotate_left; (focus (intro w' hw'; skip; go_simp <;> with_reducible rfl)); (simp only [Act.put, List.setIfInBounds_toArray, List.set_cons_zero, List.set_cons_succ]))
            (refine plan3_take (o := ?_) (v := ?_) (by simp only [List.getElem?_toArray, List.getElem?_cons_succ, List.getElem?_cons_zero]; rfl) (yields_run (by rfl) ?_) ?_; rotate_left; (focus (intro w' hw'; skip; go_simp <;> with_reducible rfl)); (simp only [Act.put, List.setIfInBounds_toArray, List.set_cons_zero, List.set_cons_succ]))
            (refine plan3_take (o := ?_) (v := ?_) (by simp only [List.getElem?_toArray, List.getElem?_cons_succ, List.getElem?_cons_zero]; rfl) (yields_run (by rfl) ?_) ?_; rotate_left; (focus (intro w' hw'; skip; go_simp <;> with_reducible rfl)); (simp only [Act.put, List.setIfInBounds_toArray, List.set_cons_zero, List.set_cons_succ]))
            (refine plan3_take (o := ?_) (v := ?_) (by simp only [List.getElem?_toArray, List.getElem?_cons_succ, List.getElem?_cons_zero]; rfl) (yields_run (by rfl) ?_) ?_; rotate_left; (focus (intro w' hw'; skip; go_simp <;> with_reducible rfl)); (simp only [Act.put, List.setIfInBounds_toArray, List.set_cons_zero, List.set_cons_succ]))
            refine plan3_run (o := ?_) (by simp only [List.getElem?_toArray, List.getElem?_cons_succ, List.getElem?_cons_zero]; rfl) ?_
            intro R HR
            have HX6 := hide (show Blk _ v2.heap.size 29 _ from (HE5.out.jou (v2.heap.size, Jr.zero) (by simp)).1)
            have HE6 := hide (HE5.out.put1j (y := x5) HI5.out HL3.out)
            have HG6 := hide (HG5.out.keepT HX6.out (by decide) (HE5.out.jou (v2.heap.size, Jr.zero) (by simp)).2.2.1 (only_setRow (only_refl _ _) (.inl rfl) #[.slice x5.A x5.rs.length x5.cap, .int .i64 x5.many, .int .i64 x5.synced]))
            refine wpList_store_row rfl 29 (.tmp 13) (.tmp 73) rfl _ #[.slice x5.A x5.rs.length x5.cap, .int .i64 x5.many, .int .i64 x5.synced] rfl rfl 29 _ HX6.out Try.size29 rfl (one29 _ _ _ _ _) ?_
            refine HR.out _ _ ⟨⟨(HE6.out.jou (X8, j0) (by simp)).1, (HE6.out.box (X5, z0) (by simp)).1⟩, HE6.out.bel⟩ ?_
            clear HR
            refine plan3_run (o := ?_) (by simp only [List.getElem?_toArray, List.getElem?_cons_succ, List.getElem?_cons_zero]; rfl) ?_
            intro R HR
            have HX7 := hide (show Blk _ (v2.heap.size + 1) 25 _ from (HE6.out.box ((v2.heap.size + 1), Dsk.zero) (by simp)).1)
            have HE7 := hide (HE6.out.put1d (y := z5) HG6.out HL4.out)
            refine wpList_store_row rfl 25 (.tmp 14) (.tmp 74) rfl _ #[.slice z5.sa z5.ss.length z5.sc, .slice z5.pa z5.ps.length z5.pc, .int .i64 z5.left, .bool z5.stp] rfl rfl 25 _ HX7.out Try.size25 rfl (one25 _ _ _ _ _ _ _ _) ?_
            refine HR.out _ _ ⟨⟨(HE7.out.jou (X8, j0) (by simp)).1, (HE7.out.box (X5, z0) (by simp)).1⟩, HE7.out.bel⟩ ?_
            clear HR
            refine plan3_run (o := ?_) (by simp only [List.getElem?_toArray, List.getElem?_cons_succ, List.getElem?_cons_zero]; rfl) ?_
            intro R HR
            go_wp2_with fail
            refine HR.out _ _ ⟨⟨(HE7.out.jou (X8, j0) (by simp)).1, (HE7.out.box (X5, z0) (by simp)).1⟩, HE7.out.bel⟩ ?_
            clear HR
            refine plan3_done ?_
            go_wp2_with fail
            go_meet
            case rel => exact ⟨_, _, _, _, rfl, rfl, rfl, HK5, HZ5, HE7⟩
        · intro R HR
          have HE3 := hide (HE2.out.freshd (Nat.le_refl _))
          try simp only [World.size_alloc] at HE3
          have HL3 := hide HE2.out.ltd
          try simp only [World.size_alloc] at HL3
          have HI3 := hide (HI2.out.below (below_new _ (.cells #[.slice none 0 0, .slice none 0 0, .int .i64 0, .bool false] 25)))
          go_wp2_with fail
          refine HR.out _ _ ⟨⟨(HE3.out.jou (X8, j0) (by simp)).1, (HE3.out.box (X5, z0) (by simp)).1⟩, HE3.out.bel⟩ ?_
          clear HR
          refine plan3_both (o1 := ?_) (o2 := ?_) (by simp only [List.getElem?_toArray, List.getElem?_cons_succ, List.getElem?_cons_zero]; rfl) (by simp only [List.getElem?_toArray, List.getElem?_cons_succ, List.getElem?_cons_zero]; rfl) ?_ ?_
          · intro R HR
            go_wp2_with fail
            (with_reducible refine (jsync_is (n0 := w.heap.size) _ HE3.out.bel.size HK2.out HZ0.out P3.out HI3.out (HE3.out.box (X5, z0) (by simp)).2.2.2).mono ?_)
            rintro e v4 ⟨x4, z4, rfl, hk, hz, hi, hi2, hb⟩
            have HE4 := hide (HE3.out.below hb)
            have HK4 := hide hk
            have HZ4 := hide hz
            have HI4 := hide hi
            have HG4 := hide hi2
            clear hk hz hi hi2 hb
            go_wp2_with fail
            refine HR.out _ _ ⟨⟨(HE4.out.jou (X8, j0) (by simp)).1, (HE4.out.box (X5, z0) (by simp)).1⟩, HE4.out.bel⟩ ?_
            clear HR
            (refine plan3_take (o := ?_) (v := ?_) (by simp only [List.getElem?_toArray, List.getElem?_cons_succ, List.getElem?_cons_zero]; rfl) (yields_run (by rfl) ?_) ?_; rotate_left; (focus (intro w' hw'; skip; go_simp <;> with_reducible rfl)); (simp only [Act.put, List.setIfInBounds_toArray, List.set_cons_zero, List.set_cons_succ]))
            (refine plan3_take (o := ?_) (v := ?_) (by simp only [List.getElem?_toArray, List.getElem?_cons_succ, List.getElem?_cons_zero]; rfl) (yields_run (by rfl) ?_) ?_; rotate_left; (focus (intro w' hw'; skip; go_simp <;> with_reducible rfl)); (simp only [Act.put, List.setIfInBounds_toArray, List.set_cons_zero, List.set_cons_succ]))
            (refine plan3_take (o := ?_) (v := ?_) (by simp only [List.getElem?_toArray, List.getElem?_cons_succ, List.getElem?_cons_zero]; rfl) (yields_run (by rfl) ?_) ?_; rotate_left; (focus (intro w' hw'; skip; go_simp <;> with_reducible rfl)); (simp only [Act.put, List.setIfInBounds_toArray, List.set_cons_zero, List.set_cons_succ]))
            (refine plan3_take (o := ?_) (v := ?_) (by simp only [List.getElem?_toArray, List.getElem?_cons_succ, List.getElem?_cons_zero]; rfl) (yields_run (by rfl) ?_) ?_; rotate_left; (focus (intro w' hw'; skip; go_simp <;> with_reducible rfl)); (simp only [Act.put, List.setIfInBounds_toArray, List.set_cons_zero, List.set_cons_succ]))
            refine plan3_run (o := ?_) (by simp only [List.getElem?_toArray, List.getElem?_cons_succ, List.getElem?_cons_zero]; rfl) ?_
            intro R HR
            have HE5 := hide (HE4.out.freshj (Nat.le_refl _))
            try simp only [World.size_alloc] at HE5
            have HL5 := hide HE4.out.ltj
            try simp only [World.size_alloc] at HL5
            have HI5 := hide (HI4.out.below (below_new _ (.cells #[.slice none 0 0, .int .i64 0, .int .i64 0] 29)))
            have HG5 := hide (HG4.out.below (below_new _ (.cells #[.slice none 0 0, .int .i64 0, .int .i64 0] 29)))
            go_wp2_with fail
            refine HR.out _ _ ⟨⟨(HE5.out.jou (X8, j0) (by simp)).1, (HE5.out.box (X5, z0) (by simp)).1⟩, HE5.out.bel⟩ ?_
            clear HR
            refine plan3_run (o := ?_) (by simp only [List.getElem?_toArray, List.getElem?_cons_succ, List.getElem?_cons_zero]; rfl) ?_
            intro R HR
            have HX6 := hide (show Blk _ v4.heap.size 29 _ from (HE5.out.jou (v4.heap.size, Jr.zero) (by simp)).1)
            have HE6 := hide (HE5.out.put1j (y := x4) HI5.out HL5.out)
            have HG6 := hide (HG5.out.keepT HX6.out (by decide) (HE5.out.jou (v4.heap.size, Jr.zero) (by simp)).2.2.1 (only_setRow (only_refl _ _) (.inl rfl) #[.slice x4.A x4.rs.length x4.cap, .int .i64 x4.many, .int .i64 x4.synced]))
            refine wpList_store_row rfl 29 (.tmp 13) (.tmp 73) rfl _ #[.slice x4.A x4.rs.length x4.cap, .int .i64 x4.many, .int .i64 x4.synced] rfl rfl 29 _ HX6.out Try.size29 rfl (one29 _ _ _ _ _) ?_
            refine HR.out _ _ ⟨⟨(HE6.out.jou (X8, j0) (by simp)).1, (HE6.out.box (X5, z0) (by simp)).1⟩, HE6.out.bel⟩ ?_
            clear HR
            refine plan3_run (o := ?_) (by simp only [List.getElem?_toArray, List.getElem?_cons_succ, List.getElem?_cons_zero]; rfl) ?_
            intro R HR
            have HX7 := hide (show Blk _ v2.heap.size 25 _ from (HE6.out.box (v2.heap.size, Dsk.zero) (by simp)).1)
            have HE7 := hide (HE6.out.put1d (y := z4) HG6.out HL3.out)
            refine wpList_store_row rfl 25 (.tmp 14) (.tmp 74) rfl _ #[.slice z4.sa z4.ss.length z4.sc, .slice z4.pa z4.ps.length z4.pc, .int .i64 z4.left, .bool z4.stp] rfl rfl 25 _ HX7.out Try.size25 rfl (one25 _ _ _ _ _ _ _ _) ?_
            refine HR.out _ _ ⟨⟨(HE7.out.jou (X8, j0) (by simp)).1, (HE7.out.box (X5, z0) (by simp)).1⟩, HE7.out.bel⟩ ?_
            clear HR
            refine plan3_run (o := ?_) (by simp only [List.getElem?_toArray, List.getElem?_cons_succ, List.getElem?_cons_zero]; rfl) ?_
            intro R HR
            go_wp2_with fail
            refine HR.out _ _ ⟨⟨(HE7.out.jou (X8, j0) (by simp)).1, (HE7.out.box (X5, z0) (by simp)).1⟩, HE7.out.bel⟩ ?_
            clear HR
            refine plan3_done ?_
            go_wp2_with fail
            go_meet
            case rel => exact ⟨_, _, _, _, rfl, rfl, rfl, HK4, HZ4, HE7⟩
          · intro R HR
            have HE4 := hide (HE3.out.freshj (Nat.le_refl _))
            try simp only [World.size_alloc] at HE4
            have HL4 := hide HE3.out.ltj
            try simp only [World.size_alloc] at HL4
            have HI4 := hide (HI3.out.below (below_new _ (.cells #[.slice none 0 0, .int .i64 0, .int .i64 0] 29)))
            go_wp2_with fail
            refine HR.out _ _ ⟨⟨(HE4.out.jou (X8, j0) (by simp)).1, (HE4.out.box (X5, z0) (by simp)).1⟩, HE4.out.bel⟩ ?_
            clear HR
            refine plan3_run (o := ?_) (by simp only [List.getElem?_toArray, List.getElem?_cons_succ, List.getElem?_cons_zero]; rfl) ?_
            intro R HR
            go_wp2_with fail
            (with_reducible refine (jsync_is (n0 := w.heap.size) _ HE4.out.bel.size HK2.out HZ0.out P3.out HI4.out (HE4.out.box (X5, z0) (by simp)).2.2.2).mono ?_)
            rintro e v5 ⟨x5, z5, rfl, hk, hz, hi, hi2, hb⟩
            have HE5 := hide (HE4.out.below hb)
            have HK5 := hide hk
            have HZ5 := hide hz
            have HI5 := hide hi
            have HG5 := hide hi2
            clear hk hz hi hi2 hb
            go_wp2_with fail
            refine HR.out _ _ ⟨⟨(HE5.out.jou (X8, j0) (by simp)).1, (HE5.out.box (X5, z0) (by simp)).1⟩, HE5.out.bel⟩ ?_
            clear HR
            (refine plan3_take (o := ?_) (v := ?_) (by simp only [List.getElem?_toArray, List.getElem?_cons_succ, List.getElem?_cons_zero]; rfl) (yields_run (by rfl) ?_) ?_; rotate_left; (focus (intro w' hw'; skip; go_simp <;> with_reducible rfl)); (simp only [Act.put, List.setIfInBounds_toArray, List.set_cons_zero, List.set_cons_succ]))
            (refine plan3_take (o := ?_) (v := ?_) (by simp only [List.getElem?_toArray, List.getElem?_cons_succ, List.getElem?_cons_zero]; rfl) (yields_run (by rfl) ?_) ?_; rotate_left; (focus (intro w' hw'; skip; go_simp <;> with_reducible rfl)); (simp only [Act.put, List.setIfInBounds_toArray, List.set_cons_zero, List.set_cons_succ]))
            (refine plan3_take (o := ?_) (v := ?_) (by simp only [List.getElem?_toArray, List.getElem?_cons_succ, List.getElem?_cons_zero]; rfl) (yields_run (by rfl) ?_) ?_; rotate_left; (focus (intro w' hw'; skip; go_simp <;> with_reducible rfl)); (simp only [Act.put, List.setIfInBounds_toArray, List.set_cons_zero, List.set_cons_succ]))
            (refine plan3_take (o := ?_) (v := ?_) (by simp only [List.getElem?_toArray, List.getElem?_cons_succ, List.getElem?_cons_zero]; rfl) (yields_run (by rfl) ?_) ?_; rotate_left; (focus (intro w' hw'; skip; go_simp <;> with_reducible rfl)); (simp only [Act.put, List.setIfInBounds_toArray, List.set_cons_zero, List.set_cons_succ]))
            refine plan3_run (o := ?_) (by simp only [List.getElem?_toArray, List.getElem?_cons_succ, List.getElem?_cons_zero]; rfl) ?_
            intro R HR
            have HX6 := hide (show Blk _ (v2.heap.size + 1) 29 _ from (HE5.out.jou ((v2.heap.size + 1), Jr.zero) (by simp)).1)
            have HE6 := hide (HE5.out.put1j (y := x5) HI5.out HL4.out)
            have HG6 := hide (HG5.out.keepT HX6.out (by decide) (HE5.out.jou ((v2.heap.size + 1), Jr.zero) (by simp)).2.2.1 (only_setRow (only_refl _ _) (.inl rfl) #[.slice x5.A x5.rs.length x5.cap, .int .i64 x5.many, .int .i64 x5.synced]))
            refine wpList_store_row rfl 29 (.tmp 13) (.tmp 73) rfl _ #[.slice x5.A x5.rs.length x5.cap, .int .i64 x5.many, .int .i64 x5.synced] rfl rfl 29 _ HX6.out Try.size29 rfl (one29 _ _ _ _ _) ?_
            refine HR.out _ _ ⟨⟨(HE6.out.jou (X8, j0) (by simp)).1, (HE6.out.box (X5, z0) (by simp)).1⟩, HE6.out.bel⟩ ?_
            clear HR
            refine plan3_run (o := ?_) (by simp only [List.getElem?_toArray, List.getElem?_cons_succ, List.getElem?_cons_zero]; rfl) ?_
            intro R HR
            have HX7 := hide (show Blk _ v2.heap.size 25 _ from (HE6.out.box (v2.heap.size, Dsk.zero) (by simp)).1)
            have HE7 := hide (HE6.out.put1d (y := z5) HG6.out HL3.out)
            refine wpList_store_row rfl 25 (.tmp 14) (.tmp 74) rfl _ #[.slice z5.sa z5.ss.length z5.sc, .slice z5.pa z5.ps.length z5.pc, .int .i64 z5.left, .bool z5.stp] rfl rfl 25 _ HX7.out Try.size25 rfl (one25 _ _ _ _ _ _ _ _) ?_
            refine HR.out _ _ ⟨⟨(HE7.out.jou (X8, j0) (by simp)).1, (HE7.out.box (X5, z0) (by simp)).1⟩, HE7.out.bel⟩ ?_
            clear HR
            refine plan3_run (o := ?_) (by simp only [List.getElem?_toArray, List.getElem?_cons_succ, List.getElem?_cons_zero]; rfl) ?_
            intro R HR
            go_wp2_with fail
            refine HR.out _ _ ⟨⟨(HE7.out.jou (X8, j0) (by simp)).1, (HE7.out.box (X5, z0) (by simp)).1⟩, HE7.out.bel⟩ ?_
            clear HR
            refine plan3_done ?_
            go_wp2_with fail
            go_meet
            case rel => exact ⟨_, _, _, _, rfl, rfl, rfl, HK5, HZ5, HE7⟩
      · intro R HR
        have HE2 := hide (HE1.out.freshj (Nat.le_refl _))
        try simp only [World.size_alloc] at HE2
        have HL2 := hide HE1.out.ltj
        try simp only [World.size_alloc] at HL2
        go_wp2_with fail
        refine HR.out _ _ ⟨⟨(HE2.out.jou (X8, j0) (by simp)).1, (HE2.out.box (X5, z0) (by simp)).1⟩, HE2.out.bel⟩ ?_
        clear HR
        refine plan3_both (o1 := ?_) (o2 := ?_) (by simp only [List.getElem?_toArray, List.getElem?_cons_succ, List.getElem?_cons_zero]; rfl) (by simp only [List.getElem?_toArray, List.getElem?_cons_succ, List.getElem?_cons_zero]; rfl) ?_ ?_
        · intro R HR
          go_wp2_with fail
          (with_reducible refine (jadd_any j0 A0 l0 c0 _ HE2.out.bel.size (HE2.out.jou (X8, j0) (by simp)).2.2.2 (HA.out.below HE2.out.bel) HSA.out).mono ?_)
          rintro e v3 ⟨x3, rfl, hk, hi, hb⟩
          have HE3 := hide (HE2.out.below hb)
          have HK3 := hide (hk.trans (congrArg (fun q => Jk.addAll q (secD l0)) HK0.out))
          have HI3 := hide hi
          clear hk hi hb
          go_wp2_with fail
          refine HR.out _ _ ⟨⟨(HE3.out.jou (X8, j0) (by simp)).1, (HE3.out.box (X5, z0) (by simp)).1⟩, HE3.out.bel⟩ ?_
          clear HR
          refine plan3_both (o1 := ?_) (o2 := ?_) (by simp only [List.getElem?_toArray, List.getElem?_cons_succ, List.getElem?_cons_zero]; rfl) (by simp only [List.getElem?_toArray, List.getElem?_cons_succ, List.getElem?_cons_zero]; rfl) ?_ ?_
          · intro R HR
            go_wp2_with fail
            (with_reducible refine (jsync_is (n0 := w.heap.size) _ HE3.out.bel.size HK3.out HZ0.out P3.out HI3.out (HE3.out.box (X5, z0) (by simp)).2.2.2).mono ?_)
            rintro e v4 ⟨x4, z4, rfl, hk, hz, hi, hi2, hb⟩
            have HE4 := hide (HE3.out.below hb)
            have HK4 := hide hk
            have HZ4 := hide hz
            have HI4 := hide hi
            have HG4 := hide hi2
            clear hk hz hi hi2 hb
            go_wp2_with fail
            refine HR.out _ _ ⟨⟨(HE4.out.jou (X8, j0) (by simp)).1, (HE4.out.box (X5, z0) (by simp)).1⟩, HE4.out.bel⟩ ?_
            clear HR
            (refine plan3_take (o := ?_) (v := ?_) (by simp only [List.getElem?_toArray, List.getElem?_cons_succ, List.getElem?_cons_zero]; rfl) (yields_run (by rfl) ?_) ?_; rotate_left; (focus (intro w' hw'; skip; go_simp <;> with_reducible rfl)); (simp only [Act.put, List.setIfInBounds_toArray, List.set_cons_zero, List.set_cons_succ]))
            (refine plan3_take (o := ?_) (v := ?_) (by simp only [List.getElem?_toArray, List.getElem?_cons_succ, List.getElem?_cons_zero]; rfl) (yields_run (by rfl) ?_) ?_; rotate_left; (focus (intro w' hw'; skip; go_simp <;> with_reducible rfl)); (simp only [Act.put, List.setIfInBounds_toArray, List.set_cons_zero, List.set_cons_succ]))
            (refine plan3_take (o := ?_) (v := ?_) (by simp only [List.getElem?_toArray, List.getElem?_cons_succ, List.getElem?_cons_zero]; rfl) (yields_run (by rfl) ?_) ?_; rotate_left; (focus (intro w' hw'; skip; go_simp <;> with_reducible rfl)); (simp only [Act.put, List.setIfInBounds_toArray, List.set_cons_zero, List.set_cons_succ]))
            (refine plan3_take (o := ?_) (v := ?_) (by simp only [List.getElem?_toArray, List.getElem?_cons_succ, List.getElem?_cons_zero]; rfl) (yields_run (by rfl) ?_) ?_; rotate_left; (focus (intro w' hw'; skip; go_simp <;> with_reducible rfl)); (simp only [Act.put, List.setIfInBounds_toArray, List.set_cons_zero, List.set_cons_succ]))
            refine plan3_run (o := ?_) (by simp only [List.getElem?_toArray, List.getElem?_cons_succ, List.getElem?_cons_zero]; rfl) ?_
            intro R HR
            have HE5 := hide (HE4.out.freshd (Nat.le_refl _))
            try simp only [World.size_alloc] at HE5
            have HL5 := hide HE4.out.ltd
            try simp only [World.size_alloc] at HL5
            have HI5 := hide (HI4.out.below (below_new _ (.cells #[.slice none 0 0, .slice none 0 0, .int .i64 0, .bool false] 25)))
            have HG5 := hide (HG4.out.below (below_new _ (.cells #[.slice none 0 0, .slice none 0 0, .int .i64 0, .bool false] 25)))
            go_wp2_with fail
            refine HR.out _ _ ⟨⟨(HE5.out.jou (X8, j0) (by simp)).1, (HE5.out.box (X5, z0) (by simp)).1⟩, HE5.out.bel⟩ ?_
            clear HR
            refine plan3_run (o := ?_) (by simp only [List.getElem?_toArray, List.getElem?_cons_succ, List.getElem?_cons_zero]; rfl) ?_
            intro R HR
            have HX6 := hide (show Blk _ wD.heap.size 29 _ from (HE5.out.jou (wD.heap.size, Jr.zero) (by simp)).1)
            have HE6 := hide (HE5.out.put1j (y := x4) HI5.out HL2.out)
            have HG6 := hide (HG5.out.keepT HX6.out (by decide) (HE5.out.jou (wD.heap.size, Jr.zero) (by simp)).2.2.1 (only_setRow (only_refl _ _) (.inl rfl) #[.slice x4.A x4.rs.length x4.cap, .int .i64 x4.many, .int .i64 x4.synced]))
            refine wpList_store_row rfl 29 (.tmp 13) (.tmp 73) rfl _ #[.slice x4.A x4.rs.length x4.cap, .int .i64 x4.many, .int .i64 x4.synced] rfl rfl 29 _ HX6.out Try.size29 rfl (one29 _ _ _ _ _) ?_
            refine HR.out _ _ ⟨⟨(HE6.out.jou (X8, j0) (by simp)).1, (HE6.out.box (X5, z0) (by simp)).1⟩, HE6.out.bel⟩ ?_
            clear HR
            refine plan3_run (o := ?_) (by simp only [List.getElem?_toArray, List.getElem?_cons_succ, List.getElem?_cons_zero]; rfl) ?_
            intro R HR
            have HX7 := hide (show Blk _ v4.heap.size 25 _ from (HE6.out.box (v4.heap.size, Dsk.zero) (by simp)).1)
            have HE7 := hide (HE6.out.put1d (y := z4) HG6.out HL5.out)
            refine wpList_store_row rfl 25 (.tmp 14) (.tmp 74) rfl _ #[.slice z4.sa z4.ss.length z4.sc, .slice z4.pa z4.ps.length z4.pc, .int .i64 z4.left, .bool z4.stp] rfl rfl 25 _ HX7.out Try.size25 rfl (one25 _ _ _ _ _ _ _ _) ?_
            refine HR.out _ _ ⟨⟨(HE7.out.jou (X8, j0) (by simp)).1, (HE7.out.box (X5, z0) (by simp)).1⟩, HE7.out.bel⟩ ?_
            clear HR
            refine plan3_run (o := ?_) (by simp only [List.getElem?_toArray, List.getElem?_cons_succ, List.getElem?_cons_zero]; rfl) ?_
            intro R HR
            go_wp2_with fail
            refine HR.out _ _ ⟨⟨(HE7.out.jou (X8, j0) (by simp)).1, (HE7.out.box (X5, z0) (by simp)).1⟩, HE7.out.bel⟩ ?_
            clear HR
            refine plan3_done ?_
            go_wp2_with fail
            go_meet
            case rel => exact ⟨_, _, _, _, rfl, rfl, rfl, HK4, HZ4, HE7⟩
          · intro R HR
            have HE4 := hide (HE3.out.freshd (Nat.le_refl _))
            try simp only [World.size_alloc] at HE4
            have HL4 := hide HE3.out.ltd
            try simp only [World.size_alloc] at HL4
            have HI4 := hide (HI3.out.below (below_new _ (.cells #[.slice none 0 0, .slice none 0 0, .int .i64 0, .bool false] 25)))
            go_wp2_with fail
            refine HR.out _ _ ⟨⟨(HE4.out.jou (X8, j0) (by simp)).1, (HE4.out.box (X5, z0) (by simp)).1⟩, HE4.out.bel⟩ ?_
            clear HR
            refine plan3_run (o := ?_) (by simp only [List.getElem?_toArray, List.getElem?_cons_succ, List.getElem?_cons_zero]; rfl) ?_
            intro R HR
            go_wp2_with fail
            (with_reducible refine (jsync_is (n0 := w.heap.size) _ HE4.out.bel.size HK3.out HZ0.out P3.out HI4.out (HE4.out.box (X5, z0) (by simp)).2.2.2).mono ?_)
            rintro e v5 ⟨x5, z5, rfl, hk, hz, hi, hi2, hb⟩
            have HE5 := hide (HE4.out.below hb)
            have HK5 := hide hk
            have HZ5 := hide hz
            have HI5 := hide hi
            have HG5 := hide hi2
            clear hk hz hi hi2 hb
            go_wp2_with fail
            refine HR.out _ _ ⟨⟨(HE5.out.jou (X8, j0) (by simp)).1, (HE5.out.box (X5, z0) (by simp)).1⟩, HE5.out.bel⟩ ?_
            clear HR
            (refine plan3_take (o := ?_) (v := ?_) (by simp only [List.getElem?_toArray, List.getElem?_cons_succ, List.getElem?_cons_zero]; rfl) (yields_run (by rfl) ?_) ?_; rotate_left; (focus (intro w' hw'; skip; go_simp <;> with_reducible rfl)); (simp only [Act.put, List.setIfInBounds_toArray, List.set_cons_zero, List.set_cons_succ]))
            (refine plan3_take (o := ?_) (v := ?_) (by simp only [List.getElem?_toArray, List.getElem?_cons_succ, List.getElem?_cons_zero]; rfl) (yields_run (by rfl) ?_) ?_; rotate_left; (focus (intro w' hw'; skip; go_simp <;> with_reducible rfl)); (simp only [Act.put, List.setIfInBounds_toArray, List.set_cons_zero, List.set_cons_succ]))
            (refine plan3_take (o := ?_) (v := ?_) (by simp only [List.getElem?_toArray, List.getElem?_cons_succ, List.getElem?_cons_zero]; rfl) (yields_run (by rfl) ?_) ?_; rotate_left; (focus (intro w' hw'; skip; go_simp <;> with_reducible rfl)); (simp only [Act.put, List.setIfInBounds_toArray, List.set_cons_zero, List.set_cons_succ]))
            (refine plan3_take (o := ?_) (v := ?_) (by simp only [List.getElem?_toArray, List.getElem?_cons_succ, List.getElem?_cons_zero]; rfl) (yields_run (by rfl) ?_) ?_; rotate_left; (focus (intro w' hw'; skip; go_simp <;> with_reducible rfl)); (simp only [Act.put, List.setIfInBounds_toArray, List.set_cons_zero, List.set_cons_succ]))
            refine plan3_run (o := ?_) (by simp only [List.getElem?_toArray, List.getElem?_cons_succ, List.getElem?_cons_zero]; rfl) ?_
            intro R HR
            have HX6 := hide (show Blk _ wD.heap.size 29 _ from (HE5.out.jou (wD.heap.size, Jr.zero) (by simp)).1)
            have HE6 := hide (HE5.out.put1j (y := x5) HI5.out HL2.out)
            have HG6 := hide (HG5.out.keepT HX6.out (by decide) (HE5.out.jou (wD.heap.size, Jr.zero) (by simp)).2.2.1 (only_setRow (only_refl _ _) (.inl rfl) #[.slice x5.A x5.rs.length x5.cap, .int .i64 x5.many, .int .i64 x5.synced]))
            refine wpList_store_row rfl 29 (.tmp 13) (.tmp 73) rfl _ #[.slice x5.A x5.rs.length x5.cap, .int .i64 x5.many, .int .i64 x5.synced] rfl rfl 29 _ HX6.out Try.size29 rfl (one29 _ _ _ _ _) ?_
            refine HR.out _ _ ⟨⟨(HE6.out.jou (X8, j0) (by simp)).1, (HE6.out.box (X5, z0) (by simp)).1⟩, HE6.out.bel⟩ ?_
            clear HR
            refine plan3_run (o := ?_) (by simp only [List.getElem?_toArray, List.getElem?_cons_succ, List.getElem?_cons_zero]; rfl) ?_
            intro R HR
            have HX7 := hide (show Blk _ v3.heap.size 25 _ from (HE6.out.box (v3.heap.size, Dsk.zero) (by simp)).1)
            have HE7 := hide (HE6.out.put1d (y := z5) HG6.out HL4.out)
            refine wpList_store_row rfl 25 (.tmp 14) (.tmp 74) rfl _ #[.slice z5.sa z5.ss.length z5.sc, .slice z5.pa z5.ps.length z5.pc, .int .i64 z5.left, .bool z5.stp] rfl rfl 25 _ HX7.out Try.size25 rfl (one25 _ _ _ _ _ _ _ _) ?_
            refine HR.out _ _ ⟨⟨(HE7.out.jou (X8, j0) (by simp)).1, (HE7.out.box (X5, z0) (by simp)).1⟩, HE7.out.bel⟩ ?_
            clear HR
            refine plan3_run (o := ?_) (by simp only [List.getElem?_toArray, List.getElem?_cons_succ, List.getElem?_cons_zero]; rfl) ?_
            intro R HR
            go_wp2_with fail
            refine HR.out _ _ ⟨⟨(HE7.out.jou (X8, j0) (by simp)).1, (HE7.out.box (X5, z0) (by simp)).1⟩, HE7.out.bel⟩ ?_
            clear HR
            refine plan3_done ?_
            go_wp2_with fail
            go_meet
            case rel => exact ⟨_, _, _, _, rfl, rfl, rfl, HK5, HZ5, HE7⟩
        · intro R HR
          have HE3 := hide (HE2.out.freshd (Nat.le_refl _))
          try simp only [World.size_alloc] at HE3
          have HL3 := hide HE2.out.ltd
          try simp only [World.size_alloc] at HL3
          go_wp2_with fail
          refine HR.out _ _ ⟨⟨(HE3.out.jou (X8, j0) (by simp)).1, (HE3.out.box (X5, z0) (by simp)).1⟩, HE3.out.bel⟩ ?_
          clear HR
          refine plan3_run (o := ?_) (by simp only [List.getElem?_toArray, List.getElem?_cons_succ, List.getElem?_cons_zero]; rfl) ?_
          intro R HR
          go_wp2_with fail
          (with_reducible refine (jadd_any j0 A0 l0 c0 _ HE3.out.bel.size (HE3.out.jou (X8, j0) (by simp)).2.2.2 (HA.out.below HE3.out.bel) HSA.out).mono ?_)
          rintro e v4 ⟨x4, rfl, hk, hi, hb⟩
          have HE4 := hide (HE3.out.below hb)
          have HK4 := hide (hk.trans (congrArg (fun q => Jk.addAll q (secD l0)) HK0.out))
          have HI4 := hide hi
          clear hk hi hb
          go_wp2_with fail
          refine HR.out _ _ ⟨⟨(HE4.out.jou (X8, j0) (by simp)).1, (HE4.out.box (X5, z0) (by simp)).1⟩, HE4.out.bel⟩ ?_
          clear HR
          refine plan3_run (o := ?_) (by simp only [List.getElem?_toArray, List.getElem?_cons_succ, List.getElem?_cons_zero]; rfl) ?_
          intro R HR
          go_wp2_with fail
          (with_reducible refine (jsync_is (n0 := w.heap.size) _ HE4.out.bel.size HK4.out HZ0.out P3.out HI4.out (HE4.out.box (X5, z0) (by simp)).2.2.2).mono ?_)
          rintro e v5 ⟨x5, z5, rfl, hk, hz, hi, hi2, hb⟩
          have HE5 := hide (HE4.out.below hb)
          have HK5 := hide hk
          have HZ5 := hide hz
          have HI5 := hide hi
          have HG5 := hide hi2
          clear hk hz hi hi2 hb
          go_wp2_with fail
          refine HR.out _ _ ⟨⟨(HE5.out.jou (X8, j0) (by simp)).1, (HE5.out.box (X5, z0) (by simp)).1⟩, HE5.out.bel⟩ ?_
          clear HR
          (refine plan3_take (o := ?_) (v := ?_) (by simp only [List.getElem?_toArray, List.getElem?_cons_succ, List.getElem?_cons_zero]; rfl) (yields_run (by rfl) ?_) ?_; rotate_left; (focus (intro w' hw'; skip; go_simp <;> with_reducible rfl)); (simp only [Act.put, List.setIfInBounds_toArray, List.set_cons_zero, List.set_cons_succ]))
          (refine plan3_take (o := ?_) (v := ?_) (by simp only [List.getElem?_toArray, List.getElem?_cons_succ, List.getElem?_cons_zero]; rfl) (yields_run (by rfl) ?_) ?_; rotate_left; (focus (intro w' hw'; skip; go_simp <;> with_reducible rfl)); (simp only [Act.put, List.setIfInBounds_toArray, List.set_cons_zero, List.set_cons_succ]))
          (refine plan3_take (o := ?_) (v := ?_) (by simp only [List.getElem?_toArray, List.getElem?_cons_succ, List.getElem?_cons_zero]; rfl) (yields_run (by rfl) ?_) ?_; rotate_left; (focus (intro w' hw'; skip; go_simp <;> with_reducible rfl)); (simp only [Act.put, List.setIfInBounds_toArray, List.set_cons_zero, List.set_cons_succ]))
          (refine plan3_take (o := ?_) (v := ?_) (by simp only [List.getElem?_toArray, List.getElem?_cons_succ, List.getElem?_cons_zero]; rfl) (yields_run (by rfl) ?_) ?_; rotate_left; (focus (intro w' hw'; skip; go_simp <;> with_reducible rfl)); (simp only [Act.put, List.setIfInBounds_toArray, List.set_cons_zero, List.set_cons_succ]))
          refine plan3_run (o := ?_) (by simp only [List.getElem?_toArray, List.getElem?_cons_succ, List.getElem?_cons_zero]; rfl) ?_
          intro R HR
          have HX6 := hide (show Blk _ wD.heap.size 29 _ from (HE5.out.jou (wD.heap.size, Jr.zero) (by simp)).1)
          have HE6 := hide (HE5.out.put1j (y := x5) HI5.out HL2.out)
          have HG6 := hide (HG5.out.keepT HX6.out (by decide) (HE5.out.jou (wD.heap.size, Jr.zero) (by simp)).2.2.1 (only_setRow (only_refl _ _) (.inl rfl) #[.slice x5.A x5.rs.length x5.cap, .int .i64 x5.many, .int .i64 x5.synced]))
          refine wpList_store_row rfl 29 (.tmp 13) (.tmp 73) rfl _ #[.slice x5.A x5.rs.length x5.cap, .int .i64 x5.many, .int .i64 x5.synced] rfl rfl 29 _ HX6.out Try.size29 rfl (one29 _ _ _ _ _) ?_
          refine HR.out _ _ ⟨⟨(HE6.out.jou (X8, j0) (by simp)).1, (HE6.out.box (X5, z0) (by simp)).1⟩, HE6.out.bel⟩ ?_
          clear HR
          refine plan3_run (o := ?_) (by simp only [List.getElem?_toArray, List.getElem?_cons_succ, List.getElem?_cons_zero]; rfl) ?_
          intro R HR
          have HX7 := hide (show Blk _ (wD.heap.size + 1) 25 _ from (HE6.out.box ((wD.heap.size + 1), Dsk.zero) (by simp)).1)
          have HE7 := hide (HE6.out.put1d (y := z5) HG6.out HL3.out)
          refine wpList_store_row rfl 25 (.tmp 14) (.tmp 74) rfl _ #[.slice z5.sa z5.ss.length z5.sc, .slice z5.pa z5.ps.length z5.pc, .int .i64 z5.left, .bool z5.stp] rfl rfl 25 _ HX7.out Try.size25 rfl (one25 _ _ _ _ _ _ _ _) ?_
          refine HR.out _ _ ⟨⟨(HE7.out.jou (X8, j0) (by simp)).1, (HE7.out.box (X5, z0) (by simp)).1⟩, HE7.out.bel⟩ ?_
          clear HR
          refine plan3_run (o := ?_) (by simp only [List.getElem?_toArray, List.getElem?_cons_succ, List.getElem?_cons_zero]; rfl) ?_
          intro R HR
          go_wp2_with fail
          refine HR.out _ _ ⟨⟨(HE7.out.jou (X8, j0) (by simp)).1, (HE7.out.box (X5, z0) (by simp)).1⟩, HE7.out.bel⟩ ?_
          clear HR
          refine plan3_done ?_
          go_wp2_with fail
          go_meet
          case rel => exact ⟨_, _, _, _, rfl, rfl, rfl, HK5, HZ5, HE7⟩
      · intro R HR
        have HE2 := hide (HE1.out.freshd (Nat.le_refl _))
        try simp only [World.size_alloc] at HE2
        have HL2 := hide HE1.out.ltd
        try simp only [World.size_alloc] at HL2
        go_wp2_with fail
        refine HR.out _ _ ⟨⟨(HE2.out.jou (X8, j0) (by simp)).1, (HE2.out.box (X5, z0) (by simp)).1⟩, HE2.out.bel⟩ ?_
        clear HR
        refine plan3_both (o1 := ?_) (o2 := ?_) (by simp only [List.getElem?_toArray, List.getElem?_cons_succ, List.getElem?_cons_zero]; rfl) (by simp only [List.getElem?_toArray, List.getElem?_cons_succ, List.getElem?_cons_zero]; rfl) ?_ ?_
        · intro R HR
          go_wp2_with fail
          (with_reducible refine (jadd_any j0 A0 l0 c0 _ HE2.out.bel.size (HE2.out.jou (X8, j0) (by simp)).2.2.2 (HA.out.below HE2.out.bel) HSA.out).mono ?_)
          rintro e v3 ⟨x3, rfl, hk, hi, hb⟩
          have HE3 := hide (HE2.out.below hb)
          have HK3 := hide (hk.trans (congrArg (fun q => Jk.addAll q (secD l0)) HK0.out))
          have HI3 := hide hi
          clear hk hi hb
          go_wp2_with fail
          refine HR.out _ _ ⟨⟨(HE3.out.jou (X8, j0) (by simp)).1, (HE3.out.box (X5, z0) (by simp)).1⟩, HE3.out.bel⟩ ?_
          clear HR
          refine plan3_both (o1 := ?_) (o2 := ?_) (by simp only [List.getElem?_toArray, List.getElem?_cons_succ, List.getElem?_cons_zero]; rfl) (by simp only [List.getElem?_toArray, List.getElem?_cons_succ, List.getElem?_cons_zero]; rfl) ?_ ?_
          · intro R HR
            go_wp2_with fail
            (with_reducible refine (jsync_is (n0 := w.heap.size) _ HE3.out.bel.size HK3.out HZ0.out P3.out HI3.out (HE3.out.box (X5, z0) (by simp)).2.2.2).mono ?_)
            rintro e v4 ⟨x4, z4, rfl, hk, hz, hi, hi2, hb⟩
            have HE4 := hide (HE3.out.below hb)
            have HK4 := hide hk
            have HZ4 := hide hz
            have HI4 := hide hi
            have HG4 := hide hi2
            clear hk hz hi hi2 hb
            go_wp2_with fail
            refine HR.out _ _ ⟨⟨(HE4.out.jou (X8, j0) (by simp)).1, (HE4.out.box (X5, z0) (by simp)).1⟩, HE4.out.bel⟩ ?_
            clear HR
            (refine plan3_take (o := ?_) (v := ?_) (by simp only [List.getElem?_toArray, List.getElem?_cons_succ, List.getElem?_cons_zero]; rfl) (yields_run (by rfl) ?_) ?_; rotate_left; (focus (intro w' hw'; skip; go_simp <;> with_reducible rfl)); (simp only [Act.put, List.setIfInBounds_toArray, List.set_cons_zero, List.set_cons_succ]))
            (refine plan3_take (o := ?_) (v := ?_) (by simp only [List.getElem?_toArray, List.getElem?_cons_succ, List.getElem?_cons_zero]; rfl) (yields_run (by rfl) ?_) ?_; rotate_left; (focus (intro w' hw'; skip; go_simp <;> with_reducible rfl)); (simp only [Act.put, List.setIfInBounds_toArray, List.set_cons_zero, List.set_cons_succ]))
            (refine plan3_take (o := ?_) (v := ?_) (by simp only [List.getElem?_toArray, List.getElem?_cons_succ, List.getElem?_cons_zero]; rfl) (yields_run (by rfl) ?_) ?_; rotate_left; (focus (intro w' hw'; skip; go_simp <;> with_reducible rfl)); (simp only [Act.put, List.setIfInBounds_toArray, List.set_cons_zero, List.set_cons_succ]))
            (refine plan3_take (o := ?_) (v := ?_) (by simp only [List.getElem?_toArray, List.getElem?_cons_succ, List.getElem?_cons_zero]; rfl) (yields_run (by rfl) ?_) ?_; rotate_left; (focus (intro w' hw'; skip; go_simp <;> with_reducible rfl)); (simp only [Act.put, List.setIfInBounds_toArray, List.set_cons_zero, List.set_cons_succ]))
            refine plan3_run (o := ?_) (by simp only [List.getElem?_toArray, List.getElem?_cons_succ, List.getElem?_cons_zero]; rfl) ?_
            intro R HR
            have HE5 := hide (HE4.out.freshj (Nat.le_refl _))
            try simp only [World.size_alloc] at HE5
            have HL5 := hide HE4.out.ltj
            try simp only [World.size_alloc] at HL5
            have HI5 := hide (HI4.out.below (below_new _ (.cells #[.slice none 0 0, .int .i64 0, .int .i64 0] 29)))
            have HG5 := hide (HG4.out.below (below_new _ (.cells #[.slice none 0 0, .int .i64 0, .int .i64 0] 29)))
            go_wp2_with fail
            refine HR.out _ _ ⟨⟨(HE5.out.jou (X8, j0) (by simp)).1, (HE5.out.box (X5, z0) (by simp)).1⟩, HE5.out.bel⟩ ?_
            clear HR
            refine plan3_run (o := ?_) (by simp only [List.getElem?_toArray, List.getElem?_cons_succ, List.getElem?_cons_zero]; rfl) ?_
            intro R HR
            have HX6 := hide (show Blk _ v4.heap.size 29 _ from (HE5.out.jou (v4.heap.size, Jr.zero) (by simp)).1)
            have HE6 := hide (HE5.out.put1j (y := x4) HI5.out HL5.out)
            have HG6 := hide (HG5.out.keepT HX6.out (by decide) (HE5.out.jou (v4.heap.size, Jr.zero) (by simp)).2.2.1 (only_setRow (only_refl _ _) (.inl rfl) #[.slice x4.A x4.rs.length x4.cap, .int .i64 x4.many, .int .i64 x4.synced]))
            refine wpList_store_row rfl 29 (.tmp 13) (.tmp 73) rfl _ #[.slice x4.A x4.rs.length x4.cap, .int .i64 x4.many, .int .i64 x4.synced] rfl rfl 29 _ HX6.out Try.size29 rfl (one29 _ _ _ _ _) ?_
            refine HR.out _ _ ⟨⟨(HE6.out.jou (X8, j0) (by simp)).1, (HE6.out.box (X5, z0) (by simp)).1⟩, HE6.out.bel⟩ ?_
            clear HR
            refine plan3_run (o := ?_) (by simp only [List.getElem?_toArray, List.getElem?_cons_succ, List.getElem?_cons_zero]; rfl) ?_
            intro R HR
            have HX7 := hide (show Blk _ wD.heap.size 25 _ from (HE6.out.box (wD.heap.size, Dsk.zero) (by simp)).1)
            have HE7 := hide (HE6.out.put1d (y := z4) HG6.out HL2.out)
            refine wpList_store_row rfl 25 (.tmp 14) (.tmp 74) rfl _ #[.slice z4.sa z4.ss.length z4.sc, .slice z4.pa z4.ps.length z4.pc, .int .i64 z4.left, .bool z4.stp] rfl rfl 25 _ HX7.out Try.size25 rfl (one25 _ _ _ _ _ _ _ _) ?_
            refine HR.out _ _ ⟨⟨(HE7.out.jou (X8, j0) (by simp)).1, (HE7.out.box (X5, z0) (by simp)).1⟩, HE7.out.bel⟩ ?_
            clear HR
            refine plan3_run (o := ?_) (by simp only [List.getElem?_toArray, List.getElem?_cons_succ, List.getElem?_cons_zero]; rfl) ?_
            intro R HR
            go_wp2_with fail
            refine HR.out _ _ ⟨⟨(HE7.out.jou (X8, j0) (by simp)).1, (HE7.out.box (X5, z0) (by simp)).1⟩, HE7.out.bel⟩ ?_
            clear HR
            refine plan3_done ?_
            go_wp2_with fail
            go_meet
            case rel => exact ⟨_, _, _, _, rfl, rfl, rfl, HK4, HZ4, HE7⟩
          · intro R HR
            have HE4 := hide (HE3.out.freshj (Nat.le_refl _))
            try simp only [World.size_alloc] at HE4
            have HL4 := hide HE3.out.ltj
            try simp only [World.size_alloc] at HL4
            have HI4 := hide (HI3.out.below (below_new _ (.cells #[.slice none 0 0, .int .i64 0, .int .i64 0] 29)))
            go_wp2_with fail
            refine HR.out _ _ ⟨⟨(HE4.out.jou (X8, j0) (by simp)).1, (HE4.out.box (X5, z0) (by simp)).1⟩, HE4.out.bel⟩ ?_
            clear HR
            refine plan3_run (o := ?_) (by simp only [List.getElem?_toArray, List.getElem?_cons_succ, List.getElem?_cons_zero]; rfl) ?_
            intro R HR
            go_wp2_with fail
            (with_reducible refine (jsync_is (n0 := w.heap.size) _ HE4.out.bel.size HK3.out HZ0.out P3.out HI4.out (HE4.out.box (X5, z0) (by simp)).2.2.2).mono ?_)
            rintro e v5 ⟨x5, z5, rfl, hk, hz, hi, hi2, hb⟩
            have HE5 := hide (HE4.out.below hb)
            have HK5 := hide hk
            have HZ5 := hide hz
            have HI5 := hide hi
            have HG5 := hide hi2
            clear hk hz hi hi2 hb
            go_wp2_with fail
            refine HR.out _ _ ⟨⟨(HE5.out.jou (X8, j0) (by simp)).1, (HE5.out.box (X5, z0) (by simp)).1⟩, HE5.out.bel⟩ ?_
            clear HR
            (refine plan3_take (o := ?_) (v := ?_) (by simp only [List.getElem?_toArray, List.getElem?_cons_succ, List.getElem?_cons_zero]; rfl) (yields_run (by rfl) ?_) ?_; rotate_left; (focus (intro w' hw'; skip; go_simp <;> with_reducible rfl)); (simp only [Act.put, List.setIfInBounds_toArray, List.set_cons_zero, List.set_cons_succ]))
            (refine plan3_take (o := ?_) (v := ?_) (by simp only [List.getElem?_toArray, List.getElem?_cons_succ, List.getElem?_cons_zero]; rfl) (yields_run (by rfl) ?_) ?_; rotate_left; (focus (intro w' hw'; skip; go_simp <;> with_reducible rfl)); (simp only [Act.put, List.setIfInBounds_toArray, List.set_cons_zero, List.set_cons_succ]))
            (refine plan3_take (o := ?_) (v := ?_) (by simp only [List.getElem?_toArray, List.getElem?_cons_succ, List.getElem?_cons_zero]; rfl) (yields_run (by rfl) ?_) ?_; rotate_left; (focus (intro w' hw'; skip; go_simp <;> with_reducible rfl)); (simp only [Act.put, List.setIfInBounds_toArray, List.set_cons_zero, List.set_cons_succ]))
            (refine plan3_take (o := ?_) (v := ?_) (by simp only [List.getElem?_toArray, List.getElem?_cons_succ, List.getElem?_cons_zero]; rfl) (yields_run (by rfl) ?_) ?_; rotate_left; (focus (intro w' hw'; skip; go_simp <;> with_reducible rfl)); (simp only [Act.put, List.setIfInBounds_toArray, List.set_cons_zero, List.set_cons_succ]))
            refine plan3_run (o := ?_) (by simp only [List.getElem?_toArray, List.getElem?_cons_succ, List.getElem?_cons_zero]; rfl) ?_
            intro R HR
            have HX6 := hide (show Blk _ v3.heap.size 29 _ from (HE5.out.jou (v3.heap.size, Jr.zero) (by simp)).1)
            have HE6 := hide (HE5.out.put1j (y := x5) HI5.out HL4.out)
            have HG6 := hide (HG5.out.keepT HX6.out (by decide) (HE5.out.jou (v3.heap.size, Jr.zero) (by simp)).2.2.1 (only_setRow (only_refl _ _) (.inl rfl) #[.slice x5.A x5.rs.length x5.cap, .int .i64 x5.many, .int .i64 x5.synced]))
            refine wpList_store_row rfl 29 (.tmp 13) (.tmp 73) rfl _ #[.slice x5.A x5.rs.length x5.cap, .int .i64 x5.many, .int .i64 x5.synced] rfl rfl 29 _ HX6.out Try.size29 rfl (one29 _ _ _ _ _) ?_
            refine HR.out _ _ ⟨⟨(HE6.out.jou (X8, j0) (by simp)).1, (HE6.out.box (X5, z0) (by simp)).1⟩, HE6.out.bel⟩ ?_
            clear HR
            refine plan3_run (o := ?_) (by simp only [List.getElem?_toArray, List.getElem?_cons_succ, List.getElem?_cons_zero]; rfl) ?_
            intro R HR
            have HX7 := hide (show Blk _ wD.heap.size 25 _ from (HE6.out.box (wD.heap.size, Dsk.zero) (by simp)).1)
            have HE7 := hide (HE6.out.put1d (y := z5) HG6.out HL2.out)
            refine wpList_store_row rfl 25 (.tmp 14) (.tmp 74) rfl _ #[.slice z5.sa z5.ss.length z5.sc, .slice z5.pa z5.ps.length z5.pc, .int .i64 z5.left, .bool z5.stp] rfl rfl 25 _ HX7.out Try.size25 rfl (one25 _ _ _ _ _ _ _ _) ?_
            refine HR.out _ _ ⟨⟨(HE7.out.jou (X8, j0) (by simp)).1, (HE7.out.box (X5, z0) (by simp)).1⟩, HE7.out.bel⟩ ?_
            clear HR
            refine plan3_run (o := ?_) (by simp only [List.getElem?_toArray, List.getElem?_cons_succ, List.getElem?_cons_zero]; rfl) ?_
            intro R HR
            go_wp2_with fail
            refine HR.out _ _ ⟨⟨(HE7.out.jou (X8, j0) (by simp)).1, (HE7.out.box (X5, z0) (by simp)).1⟩, HE7.out.bel⟩ ?_
            clear HR
            refine plan3_done ?_
            go_wp2_with fail
            go_meet
            case rel => exact ⟨_, _, _, _, rfl, rfl, rfl, HK5, HZ5, HE7⟩
        · intro R HR
          have HE3 := hide (HE2.out.freshj (Nat.le_refl _))
          try simp only [World.size_alloc] at HE3
          have HL3 := hide HE2.out.ltj
          try simp only [World.size_alloc] at HL3
          go_wp2_with fail
          refine HR.out _ _ ⟨⟨(HE3.out.jou (X8, j0) (by simp)).1, (HE3.out.box (X5, z0) (by simp)).1⟩, HE3.out.bel⟩ ?_
          clear HR
          refine plan3_run (o := ?_) (by simp only [List.getElem?_toArray, List.getElem?_cons_succ, List.getElem?_cons_zero]; rfl) ?_
          intro R HR
          go_wp2_with fail
          (with_reducible refine (jadd_any j0 A0 l0 c0 _ HE3.out.bel.size (HE3.out.jou (X8, j0) (by simp)).2.2.2 (HA.out.below HE3.out.bel) HSA.out).mono ?_)
          rintro e v4 ⟨x4, rfl, hk, hi, hb⟩
          have HE4 := hide (HE3.out.below hb)
          have HK4 := hide (hk.trans (congrArg (fun q => Jk.addAll q (secD l0)) HK0.out))
          have HI4 := hide hi
          clear hk hi hb
          go_wp2_with fail
          refine HR.out _ _ ⟨⟨(HE4.out.jou (X8, j0) (by simp)).1, (HE4.out.box (X5, z0) (by simp)).1⟩, HE4.out.bel⟩ ?_
          clear HR
          refine plan3_run (o := ?_) (by simp only [List.getElem?_toArray, List.getElem?_cons_succ, List.getElem?_cons_zero]; rfl) ?_
          intro R HR
          go_wp2_with fail
          (with_reducible refine (jsync_is (n0 := w.heap.size) _ HE4.out.bel.size HK4.out HZ0.out P3.out HI4.out (HE4.out.box (X5, z0) (by simp)).2.2.2).mono ?_)
          rintro e v5 ⟨x5, z5, rfl, hk, hz, hi, hi2, hb⟩
          have HE5 := hide (HE4.out.below hb)
          have HK5 := hide hk
          have HZ5 := hide hz
          have HI5 := hide hi
          have HG5 := hide hi2
          clear hk hz hi hi2 hb
          go_wp2_with fail
          refine HR.out _ _ ⟨⟨(HE5.out.jou (X8, j0) (by simp)).1, (HE5.out.box (X5, z0) (by simp)).1⟩, HE5.out.bel⟩ ?_
          clear HR
          (refine plan3_take (o := ?_) (v := ?_) (by simp only [List.getElem?_toArray, List.getElem?_cons_succ, List.getElem?_cons_zero]; rfl) (yields_run (by rfl) ?_) ?_; rotate_left; (focus (intro w' hw'; skip; go_simp <;> with_reducible rfl)); (simp only [Act.put, List.setIfInBounds_toArray, List.set_cons_zero, List.set_cons_succ]))
          (refine plan3_take (o := ?_) (v := ?_) (by simp only [List.getElem?_toArray, List.getElem?_cons_succ, List.getElem?_cons_zero]; rfl) (yields_run (by rfl) ?_) ?_; rotate_left; (focus (intro w' hw'; skip; go_simp <;> with_reducible rfl)); (simp only [Act.put, List.setIfInBounds_toArray, List.set_cons_zero, List.set_cons_succ]))
          (refine plan3_take (o := ?_) (v := ?_) (by simp only [List.getElem?_toArray, List.getElem?_cons_succ, List.getElem?_cons_zero]; rfl) (yields_run (by rfl) ?_) ?_; rotate_left; (focus (intro w' hw'; skip; go_simp <;> with_reducible rfl)); (simp only [Act.put, List.setIfInBounds_toArray, List.set_cons_zero, List.set_cons_succ]))
          (refine plan3_take (o := ?_) (v := ?_) (by simp only [List.getElem?_toArray, List.getElem?_cons_succ, List.getElem?_cons_zero]; rfl) (yields_run (by rfl) ?_) ?_; rotate_left; (focus (intro w' hw'; skip; go_simp <;> with_reducible rfl)); (simp only [Act.put, List.setIfInBounds_toArray, List.set_cons_zero, List.set_cons_succ]))
          refine plan3_run (o := ?_) (by simp only [List.getElem?_toArray, List.getElem?_cons_succ, List.getElem?_cons_zero]; rfl) ?_
          intro R HR
          have HX6 := hide (show Blk _ (wD.heap.size + 1) 29 _ from (HE5.out.jou ((wD.heap.size + 1), Jr.zero) (by simp)).1)
          have HE6 := hide (HE5.out.put1j (y := x5) HI5.out HL3.out)
          have HG6 := hide (HG5.out.keepT HX6.out (by decide) (HE5.out.jou ((wD.heap.size + 1), Jr.zero) (by simp)).2.2.1 (only_setRow (only_refl _ _) (.inl rfl) #[.slice x5.A x5.rs.length x5.cap, .int .i64 x5.many, .int .i64 x5.synced]))
          refine wpList_store_row rfl 29 (.tmp 13) (.tmp 73) rfl _ #[.slice x5.A x5.rs.length x5.cap, .int .i64 x5.many, .int .i64 x5.synced] rfl rfl 29 _ HX6.out Try.size29 rfl (one29 _ _ _ _ _) ?_
          refine HR.out _ _ ⟨⟨(HE6.out.jou (X8, j0) (by simp)).1, (HE6.out.box (X5, z0) (by simp)).1⟩, HE6.out.bel⟩ ?_
          clear HR
          refine plan3_run (o := ?_) (by simp only [List.getElem?_toArray, List.getElem?_cons_succ, List.getElem?_cons_zero]; rfl) ?_
          intro R HR
          have HX7 := hide (show Blk _ wD.heap.size 25 _ from (HE6.out.box (wD.heap.size, Dsk.zero) (by simp)).1)
          have HE7 := hide (HE6.out.put1d (y := z5) HG6.out HL2.out)
          refine wpList_store_row rfl 25 (.tmp 14) (.tmp 74) rfl _ #[.slice z5.sa z5.ss.length z5.sc, .slice z5.pa z5.ps.length z5.pc, .int .i64 z5.left, .bool z5.stp] rfl rfl 25 _ HX7.out Try.size25 rfl (one25 _ _ _ _ _ _ _ _) ?_
          refine HR.out _ _ ⟨⟨(HE7.out.jou (X8, j0) (by simp)).1, (HE7.out.box (X5, z0) (by simp)).1⟩, HE7.out.bel⟩ ?_
          clear HR
          refine plan3_run (o := ?_) (by simp only [List.getElem?_toArray, List.getElem?_cons_succ, List.getElem?_cons_zero]; rfl) ?_
          intro R HR
          go_wp2_with fail
          refine HR.out _ _ ⟨⟨(HE7.out.jou (X8, j0) (by simp)).1, (HE7.out.box (X5, z0) (by simp)).1⟩, HE7.out.bel⟩ ?_
          clear HR
          refine plan3_done ?_
          go_wp2_with fail
          go_meet
          case rel => exact ⟨_, _, _, _, rfl, rfl, rfl, HK5, HZ5, HE7⟩
    case rest =>
    obtain ⟨g2, h2, j2, z2, rfl, rfl, rfl, HK2, HZ2, HE2⟩ := hcut
    clear HE1
    generalize wc = w8 at *
    go_upto_region 12 with (fail)
    go_cut [16, 17, 18] from 76 to 85 (fun p q r W => ∃ (g h : Nat) (j' : Jr) (z' : Dsk), p = .pointer (some ⟨g, 0, none⟩) ∧ q = .pointer (some ⟨h, 0, none⟩) ∧ r = .int .i64 0 ∧ Hid (j'.k = V) ∧ Hid (z'.d = y) ∧ Hid (Env w.heap.size w ((h, z') :: [(h2, z2), (h1, z1), (X5, z0)]) ((g, j') :: [(g2, j2), (g1, j1), (X8, j0)]) [] W))
    case first =>
      have HE1 := hide HE2.out.drew
      refine wp_region_plan3 (fun W => (Blk W g2 29 j2.cs ∧ Blk W h2 25 z2.cs) ∧ Below w.heap.size w W) (.take 0 (.take 1 (.take 2 (.take 4 (.three 3 (.three 5 (.take 6 (.take 7 (.take 8 (.take 9 (.both 10 (.run 11 (.run 12 (.run 13 (.run 14 .done)))) 11 (.run 10 (.run 12 (.run 13 (.run 14 .done))))))))) 10 (.both 5 (.take 6 (.take 7 (.take 8 (.take 9 (.run 11 (.run 12 (.run 13 (.run 14 .done)))))))) 11 (.run 5 (.take 6 (.take 7 (.take 8 (.take 9 (.run 12 (.run 13 (.run 14 .done))))))))) 11 (.both 5 (.take 6 (.take 7 (.take 8 (.take 9 (.run 10 (.run 12 (.run 13 (.run 14 .done)))))))) 10 (.run 5 (.take 6 (.take 7 (.take 8 (.take 9 (.run 12 (.run 13 (.run 14 .done)))))))))) 10 (.both 3 (.both 5 (.take 6 (.take 7 (.take 8 (.take 9 (.run 11 (.run 12 (.run 13 (.run 14 .done)))))))) 11 (.run 5 (.take 6 (.take 7 (.take 8 (.take 9 (.run 12 (.run 13 (.run 14 .done))))))))) 11 (.run 3 (.run 5 (.take 6 (.take 7 (.take 8 (.take 9 (.run 12 (.run 13 (.run 14 .done)))))))))) 11 (.both 3 (.both 5 (.take 6 (.take 7 (.take 8 (.take 9 (.run 10 (.run 12 (.run 13 (.run 14 .done)))))))) 10 (.run 5 (.take 6 (.take 7 (.take 8 (.take 9 (.run 12 (.run 13 (.run 14 .done))))))))) 10 (.run 3 (.run 5 (.take 6 (.take 7 (.take 8 (.take 9 (.run 12 (.run 13 (.run 14 .done))))))))))))))) (by kernel_rfl) (by kernel_rfl) ⟨⟨(HE1.out.jou (g2, j2) (by simp)).1, (HE1.out.box (h2, z2) (by simp)).1⟩, HE1.out.bel⟩ ?_
      generalize w8.drew = wD at HE1 ⊢
      (refine plan3_take (o := ?_) (v := ?_) (by simp only [List.getElem?_toArray, List.getElem?_cons_zero]; rfl) (yields_run (by rfl) ?_) ?_; rotate_left; (focus (intro w' hw'; skip; go_simp <;> with_reducible rfl)); (simp only [Act.put, List.setIfInBounds_toArray, List.set_cons_zero, List.set_cons_succ]))
      (refine plan3_take (o := ?_) (v := ?_) (by simp only [List.getElem?_toArray, List.getElem?_cons_succ, List.getElem?_cons_zero]; rfl) (yields_run (by rfl) ?_) ?_; rotate_left; (focus (intro w' hw'; obtain ⟨q0, q1, q2⟩ := hw'.1.1.c3; go_simp <;> with_reducible rfl)); (simp only [Act.put, List.setIfInBounds_toArray, List.set_cons_zero, List.set_cons_succ]))
      (refine plan3_take (o := ?_) (v := ?_) (by simp only [List.getElem?_toArray, List.getElem?_cons_succ, List.getElem?_cons_zero]; rfl) (yields_run (by rfl) ?_) ?_; rotate_left; (focus (intro w' hw'; skip; go_simp <;> with_reducible rfl)); (simp only [Act.put, List.setIfInBounds_toArray, List.set_cons_zero, List.set_cons_succ]))
      (refine plan3_take (o := ?_) (v := ?_) (by simp only [List.getElem?_toArray, List.getElem?_cons_succ, List.getElem?_cons_zero]; rfl) (yields_run (by rfl) ?_) ?_; rotate_left; (focus (intro w' hw'; obtain ⟨q0, q1, q2, q3⟩ := hw'.1.2.c4; go_simp <;> with_reducible rfl)); (simp only [Act.put, List.setIfInBounds_toArray, List.set_cons_zero, List.set_cons_succ]))
      refine plan3_three (o1 := ?_) (o2 := ?_) (o3 := ?_) (by simp only [List.getElem?_toArray, List.getElem?_cons_succ, List.getElem?_cons_zero]; rfl) (by simp only [List.getElem?_toArray, List.getElem?_cons_succ, List.getElem?_cons_zero]; rfl) (by simp only [List.getElem?_toArray, List.getElem?_cons_succ, List.getElem?_cons_zero]; rfl) ?_ ?_ ?_
      · intro R HR
        go_wp2_with fail
        (with_reducible refine (jadd_any j2 A1 l1 c1 _ HE1.out.bel.size (HE1.out.jou (g2, j2) (by simp)).2.2.2 (HB.out.below HE1.out.bel) HSB.out).mono ?_)
        rintro e v2 ⟨x2, rfl, hk, hi, hb⟩
        have HE2 := hide (HE1.out.below hb)
        have HK2 := hide (hk.trans (congrArg (fun q => Jk.addAll q (secD l1)) HK2.out))
        have HI2 := hide hi
        clear hk hi hb
        go_wp2_with fail
        refine HR.out _ _ ⟨⟨(HE2.out.jou (g2, j2) (by simp)).1, (HE2.out.box (h2, z2) (by simp)).1⟩, HE2.out.bel⟩ ?_
        clear HR
        refine plan3_three (o1 := ?_) (o2 := ?_) (o3 := ?_) (by simp only [List.getElem?_toArray, List.getElem?_cons_succ, List.getElem?_cons_zero]; rfl) (by simp only [List.getElem?_toArray, List.getElem?_cons_succ, List.getElem?_cons_zero]; rfl) (by simp only [List.getElem?_toArray, List.getElem?_cons_succ, List.getElem?_cons_zero]; rfl) ?_ ?_ ?_
        · intro R HR
          go_wp2_with fail
          (with_reducible refine (jsync_is (n0 := w.heap.size) _ HE2.out.bel.size HK2.out HZ2.out P4.out HI2.out (HE2.out.box (h2, z2) (by simp)).2.2.2).mono ?_)
          rintro e v3 ⟨x3, z3, rfl, hk, hz, hi, hi2, hb⟩
          have HE3 := hide (HE2.out.below hb)
          have HK3 := hide hk
          have HZ3 := hide hz
          have HI3 := hide hi
          have HG3 := hide hi2
          clear hk hz hi hi2 hb
          go_wp2_with fail
          refine HR.out _ _ ⟨⟨(HE3.out.jou (g2, j2) (by simp)).1, (HE3.out.box (h2, z2) (by simp)).1⟩, HE3.out.bel⟩ ?_
          clear HR
          (refine plan3_take (o := ?_) (v := ?_) (by simp only [List.getElem?_toArray, List.getElem?_cons_succ, List.getElem?_cons_zero]; rfl) (yields_run (by rfl) ?_) ?_; rotate_left; (focus (intro w' hw'; skip; go_simp <;> with_reducible rfl)); (simp only [Act.put, List.setIfInBounds_toArray, List.set_cons_zero, List.set_cons_succ]))
          (refine plan3_take (o := ?_) (v := ?_) (by simp only [List.getElem?_toArray, List.getElem?_cons_succ, List.getElem?_cons_zero]; rfl) (yields_run (by rfl) ?_) ?_; rotate_left; (focus (intro w' hw'; skip; go_simp <;> with_reducible rfl)); (simp only [Act.put, List.setIfInBounds_toArray, List.set_cons_zero, List.set_cons_succ]))
          (refine plan3_take (o := ?_) (v := ?_) (by simp only [List.getElem?_toArray, List.getElem?_cons_succ, List.getElem?_cons_zero]; rfl) (yields_run (by rfl) ?_) ?_; rotate_left; (focus (intro w' hw'; skip; go_simp <;> with_reducible rfl)); (simp only [Act.put, List.setIfInBounds_toArray, List.set_cons_zero, List.set_cons_succ]))
          (refine plan3_take (o := ?_) (v := ?_) (by simp only [List.getElem?_toArray, List.getElem?_cons_succ, List.getElem?_cons_zero]; rfl) (yields_run (by rfl) ?_) ?_; rotate_left; (focus (intro w' hw'; skip; go_simp <;> with_reducible rfl)); (simp only [Act.put, List.setIfInBounds_toArray, List.set_cons_zero, List.set_cons_succ]))
          refine plan3_both (o1 := ?_) (o2 := ?_) (by simp only [List.getElem?_toArray, List.getElem?_cons_succ, List.getElem?_cons_zero]; rfl) (by simp only [List.getElem?_toArray, List.getElem?_cons_succ, List.getElem?_cons_zero]; rfl) ?_ ?_
          · intro R HR
            have HE4 := hide (HE3.out.freshj (Nat.le_refl _))
            try simp only [World.size_alloc] at HE4
            have HL4 := hide HE3.out.ltj
            try simp only [World.size_alloc] at HL4
            have HI4 := hide (HI3.out.below (below_new _ (.cells #[.slice none 0 0, .int .i64 0, .int .i64 0] 29)))
            have HG4 := hide (HG3.out.below (below_new _ (.cells #[.slice none 0 0, .int .i64 0, .int .i64 0] 29)))
            go_wp2_with fail
            refine HR.out _ _ ⟨⟨(HE4.out.jou (g2, j2) (by simp)).1, (HE4.out.box (h2, z2) (by simp)).1⟩, HE4.out.bel⟩ ?_
            clear HR
            refine plan3_run (o := ?_) (by simp only [List.getElem?_toArray, List.getElem?_cons_succ, List.getElem?_cons_zero]; rfl) ?_
            intro R HR
            have HE5 := hide (HE4.out.freshd (Nat.le_refl _))
            try simp only [World.size_alloc] at HE5
            have HL5 := hide HE4.out.ltd
            try simp only [World.size_alloc] at HL5
            have HI5 := hide (HI4.out.below (below_new _ (.cells #[.slice none 0 0, .slice none 0 0, .int .i64 0, .bool false] 25)))
            have HG5 := hide (HG4.out.below (below_new _ (.cells #[.slice none 0 0, .slice none 0 0, .int .i64 0, .bool false] 25)))
            go_wp2_with fail
            refine HR.out _ _ ⟨⟨(HE5.out.jou (g2, j2) (by simp)).1, (HE5.out.box (h2, z2) (by simp)).1⟩, HE5.out.bel⟩ ?_
            clear HR
            refine plan3_run (o := ?_) (by simp only [List.getElem?_toArray, List.getElem?_cons_succ, List.getElem?_cons_zero]; rfl) ?_
            intro R HR
            have HX6 := hide (show Blk _ v3.heap.size 29 _ from (HE5.out.jou (v3.heap.size, Jr.zero) (by simp)).1)
            have HE6 := hide (HE5.out.put1j (y := x3) HI5.out HL4.out)
            have HG6 := hide (HG5.out.keepT HX6.out (by decide) (HE5.out.jou (v3.heap.size, Jr.zero) (by simp)).2.2.1 (only_setRow (only_refl _ _) (.inl rfl) #[.slice x3.A x3.rs.length x3.cap, .int .i64 x3.many, .int .i64 x3.synced]))
            refine wpList_store_row rfl 29 (.tmp 16) (.tmp 83) rfl _ #[.slice x3.A x3.rs.length x3.cap, .int .i64 x3.many, .int .i64 x3.synced] rfl rfl 29 _ HX6.out Try.size29 rfl (one29 _ _ _ _ _) ?_
            refine HR.out _ _ ⟨⟨(HE6.out.jou (g2, j2) (by simp)).1, (HE6.out.box (h2, z2) (by simp)).1⟩, HE6.out.bel⟩ ?_
            clear HR
            refine plan3_run (o := ?_) (by simp only [List.getElem?_toArray, List.getElem?_cons_succ, List.getElem?_cons_zero]; rfl) ?_
            intro R HR
            have HX7 := hide (show Blk _ (v3.heap.size + 1) 25 _ from (HE6.out.box ((v3.heap.size + 1), Dsk.zero) (by simp)).1)
            have HE7 := hide (HE6.out.put1d (y := z3) HG6.out HL5.out)
            refine wpList_store_row rfl 25 (.tmp 17) (.tmp 84) rfl _ #[.slice z3.sa z3.ss.length z3.sc, .slice z3.pa z3.ps.length z3.pc, .int .i64 z3.left, .bool z3.stp] rfl rfl 25 _ HX7.out Try.size25 rfl (one25 _ _ _ _ _ _ _ _) ?_
            refine HR.out _ _ ⟨⟨(HE7.out.jou (g2, j2) (by simp)).1, (HE7.out.box (h2, z2) (by simp)).1⟩, HE7.out.bel⟩ ?_
            clear HR
            refine plan3_run (o := ?_) (by simp only [List.getElem?_toArray, List.getElem?_cons_succ, List.getElem?_cons_zero]; rfl) ?_
            intro R HR
            go_wp2_with fail
            refine HR.out _ _ ⟨⟨(HE7.out.jou (g2, j2) (by simp)).1, (HE7.out.box (h2, z2) (by simp)).1⟩, HE7.out.bel⟩ ?_
            clear HR
            refine plan3_done ?_
            go_wp2_with fail
            go_meet
            case rel => exact ⟨_, _, _, _, rfl, rfl, rfl, HK3, HZ3, HE7⟩
          · intro R HR
            have HE4 := hide (HE3.out.freshd (Nat.le_refl _))
            try simp only [World.size_alloc] at HE4
            have HL4 := hide HE3.out.ltd
            try simp only [World.size_alloc] at HL4
            have HI4 := hide (HI3.out.below (below_new _ (.cells #[.slice none 0 0, .slice none 0 0, .int .i64 0, .bool false] 25)))
            have HG4 := hide (HG3.out.below (below_new _ (.cells #[.slice none 0 0, .slice none 0 0, .int .i64 0, .bool false] 25)))
            go_wp2_with fail
            refine HR.out _ _ ⟨⟨(HE4.out.jou (g2, j2) (by simp)).1, (HE4.out.box (h2, z2) (by simp)).1⟩, HE4.out.bel⟩ ?_
            clear HR
            refine plan3_run (o := ?_) (by simp only [List.getElem?_toArray, List.getElem?_cons_succ, List.getElem?_cons_zero]; rfl) ?_
            intro R HR
            have HE5 := hide (HE4.out.freshj (Nat.le_refl _))
            try simp only [World.size_alloc] at HE5
            have HL5 := hide HE4.out.ltj
            try simp only [World.size_alloc] at HL5
            have HI5 := hide (HI4.out.below (below_new _ (.cells #[.slice none 0 0, .int .i64 0, .int .i64 0] 29)))
            have HG5 := hide (HG4.out.below (below_new _ (.cells #[.slice none 0 0, .int .i64 0, .int .i64 0] 29)))
            go_wp2_with fail
            refine HR.out _ _ ⟨⟨(HE5.out.jou (g2, j2) (by simp)).1, (HE5.out.box (h2, z2) (by simp)).1⟩, HE5.out.bel⟩ ?_
            clear HR
            refine plan3_run (o := ?_) (by simp only [List.getElem?_toArray, List.getElem?_cons_succ, List.getElem?_cons_zero]; rfl) ?_
            intro R HR
            have HX6 := hide (show Blk _ (v3.heap.size + 1) 29 _ from (HE5.out.jou ((v3.heap.size + 1), Jr.zero) (by simp)).1)
            have HE6 := hide (HE5.out.put1j (y := x3) HI5.out HL5.out)
            have HG6 := hide (HG5.out.keepT HX6.out (by decide) (HE5.out.jou ((v3.heap.size + 1), Jr.zero) (by simp)).2.2.1 (only_setRow (only_refl _ _) (.inl rfl) #[.slice x3.A x3.rs.length x3.cap, .int .i64 x3.many, .int .i64 x3.synced]))
            refine wpList_store_row rfl 29 (.tmp 16) (.tmp 83) rfl _ #[.slice x3.A x3.rs.length x3.cap, .int .i64 x3.many, .int .i64 x3.synced] rfl rfl 29 _ HX6.out Try.size29 rfl (one29 _ _ _ _ _) ?_
            refine HR.out _ _ ⟨⟨(HE6.out.jou (g2, j2) (by simp)).1, (HE6.out.box (h2, z2) (by simp)).1⟩, HE6.out.bel⟩ ?_
            clear HR
            refine plan3_run (o := ?_) (by simp only [List.getElem?_toArray, List.getElem?_cons_succ, List.getElem?_cons_zero]; rfl) ?_
            intro R HR
            have HX7 := hide (show Blk _ v3.heap.size 25 _ from (HE6.out.box (v3.heap.size, Dsk.zero) (by simp)).1)
            have HE7 := hide (HE6.out.put1d (y := z3) HG6.out HL4.out)
            refine wpList_store_row rfl 25 (.tmp 17) (.tmp 84) rfl _ #[.slice z3.sa z3.ss.length z3.sc, .slice z3.pa z3.ps.length z3.pc, .int .i64 z3.left, .bool z3.stp] rfl rfl 25 _ HX7.out Try.size25 rfl (one25 _ _ _ _ _ _ _ _) ?_
            refine HR.out _ _ ⟨⟨(HE7.out.jou (g2, j2) (by simp)).1, (HE7.out.box (h2, z2) (by simp)).1⟩, HE7.out.bel⟩ ?_
            clear HR
            refine plan3_run (o := ?_) (by simp only [List.getElem?_toArray, List.getElem?_cons_succ, List.getElem?_cons_zero]; rfl) ?_
            intro R HR
            go_wp2_with fail
            refine HR.out _ _ ⟨⟨(HE7.out.jou (g2, j2) (by simp)).1, (HE7.out.box (h2, z2) (by simp)).1⟩, HE7.out.bel⟩ ?_
            clear HR
            refine plan3_done ?_
            go_wp2_with fail
            go_meet
            case rel => exact ⟨_, _, _, _, rfl, rfl, rfl, HK3, HZ3, HE7⟩
        · intro R HR
          have HE3 := hide (HE2.out.freshj (Nat.le_refl _))
          try simp only [World.size_alloc] at HE3
          have HL3 := hide HE2.out.ltj
          try simp only [World.size_alloc] at HL3
          have HI3 := hide (HI2.out.below (below_new _ (.cells #[.slice none 0 0, .int .i64 0, .int .i64 0] 29)))
          go_wp2_with fail
          refine HR.out _ _ ⟨⟨(HE3.out.jou (g2, j2) (by simp)).1, (HE3.out.box (h2, z2) (by simp)).1⟩, HE3.out.bel⟩ ?_
          clear HR
          refine plan3_both (o1 := ?_) (o2 := ?_) (by simp only [List.getElem?_toArray, List.getElem?_cons_succ, List.getElem?_cons_zero]; rfl) (by simp only [List.getElem?_toArray, List.getElem?_cons_succ, List.getElem?_cons_zero]; rfl) ?_ ?_
          · intro R HR
            go_wp2_with fail
            (with_reducible refine (jsync_is (n0 := w.heap.size) _ HE3.out.bel.size HK2.out HZ2.out P4.out HI3.out (HE3.out.box (h2, z2) (by simp)).2.2.2).mono ?_)
            rintro e v4 ⟨x4, z4, rfl, hk, hz, hi, hi2, hb⟩
            have HE4 := hide (HE3.out.below hb)
            have HK4 := hide hk
            have HZ4 := hide hz
            have HI4 := hide hi
            have HG4 := hide hi2
            clear hk hz hi hi2 hb
            go_wp2_with fail
            refine HR.out _ _ ⟨⟨(HE4.out.jou (g2, j2) (by simp)).1, (HE4.out.box (h2, z2) (by simp)).1⟩, HE4.out.bel⟩ ?_
            clear HR
            (refine plan3_take (o := ?_) (v := ?_) (by simp only [List.getElem?_toArray, List.getElem?_cons_succ, List.getElem?_cons_zero]; rfl) (yields_run (by rfl) ?_) ?_; rotate_left; (focus (intro w' hw'; skip; go_simp <;> with_reducible rfl)); (simp only [Act.put, List.setIfInBounds_toArray, List.set_cons_zero, List.set_cons_succ]))
            (refine plan3_take (o := ?_) (v := ?_) (by simp only [List.getElem?_toArray, List.getElem?_cons_succ, List.getElem?_cons_zero]; rfl) (yields_run (by rfl) ?_) ?_; rotate_left; (focus (intro w' hw'; skip; go_simp <;> with_reducible rfl)); (simp only [Act.put, List.setIfInBounds_toArray, List.set_cons_zero, List.set_cons_succ]))
            (refine plan3_take (o := ?_) (v := ?_) (by simp only [List.getElem?_toArray, List.getElem?_cons_succ, List.getElem?_cons_zero]; rfl) (yields_run (by rfl) ?_) ?_; rotate_left; (focus (intro w' hw'; skip; go_simp <;> with_reducible rfl)); (simp only [Act.put, List.setIfInBounds_toArray, List.set_cons_zero, List.set_cons_succ]))
            (refine plan3_take (o := ?_) (v := ?_) (by simp only [List.getElem?_toArray, List.getElem?_cons_succ, List.getElem?_cons_zero]; rfl) (yields_run (by rfl) ?_) ?_; rotate_left; (focus (intro w' hw'; skip; go_simp <;> with_reducible rfl)); (simp only [Act.put, List.setIfInBounds_toArray, List.set_cons_zero, List.set_cons_succ]))
            refine plan3_run (o := ?_) (by simp only [List.getElem?_toArray, List.getElem?_cons_succ, List.getElem?_cons_zero]; rfl) ?_
            intro R HR
            have HE5 := hide (HE4.out.freshd (Nat.le_refl _))
            try simp only [World.size_alloc] at HE5
            have HL5 := hide HE4.out.ltd
            try simp only [World.size_alloc] at HL5
            have HI5 := hide (HI4.out.below (below_new _ (.cells #[.slice none 0 0, .slice none 0 0, .int .i64 0, .bool false] 25)))
            have HG5 := hide (HG4.out.below (below_new _ (.cells #[.slice none 0 0, .slice none 0 0, .int .i64 0, .bool false] 25)))
            go_wp2_with fail
            refine HR.out _ _ ⟨⟨(HE5.out.jou (g2, j2) (by simp)).1, (HE5.out.box (h2, z2) (by simp)).1⟩, HE5.out.bel⟩ ?_
            clear HR
            refine plan3_run (o := ?_) (by simp only [List.getElem?_toArray, List.getElem?_cons_succ, List.getElem?_cons_zero]; rfl) ?_
            intro R HR
            have HX6 := hide (show Blk _ v2.heap.size 29 _ from (HE5.out.jou (v2.heap.size, Jr.zero) (by simp)).1)
            have HE6 := hide (HE5.out.put1j (y := x4) HI5.out HL3.out)
            have HG6 := hide (HG5.out.keepT HX6.out (by decide) (HE5.out.jou (v2.heap.size, Jr.zero) (by simp)).2.2.1 (only_setRow (only_refl _ _) (.inl rfl) #[.slice x4.A x4.rs.length x4.cap, .int .i64 x4.many, .int .i64 x4.synced]))
            refine wpList_store_row rfl 29 (.tmp 16) (.tmp 83) rfl _ #[.slice x4.A x4.rs.length x4.cap, .int .i64 x4.many, .int .i64 x4.synced] rfl rfl 29 _ HX6.out Try.size29 rfl (one29 _ _ _ _ _) ?_
            refine HR.out _ _ ⟨⟨(HE6.out.jou (g2, j2) (by simp)).1, (HE6.out.box (h2, z2) (by simp)).1⟩, HE6.out.bel⟩ ?_
            clear HR
            refine plan3_run (o := ?_) (by simp only [List.getElem?_toArray, List.getElem?_cons_succ, List.getElem?_cons_zero]; rfl) ?_
            intro R HR
            have HX7 := hide (show Blk _ v4.heap.size 25 _ from (HE6.out.box (v4.heap.size, Dsk.zero) (by simp)).1)
            have HE7 := hide (HE6.out.put1d (y := z4) HG6.out HL5.out)
            refine wpList_store_row rfl 25 (.tmp 17) (.tmp 84) rfl _ #[.slice z4.sa z4.ss.length z4.sc, .slice z4.pa z4.ps.length z4.pc, .int .i64 z4.left, .bool z4.stp] rfl rfl 25 _ HX7.out Try.size25 rfl (one25 _ _ _ _ _ _ _ _) ?_
            refine HR.out _ _ ⟨⟨(HE7.out.jou (g2, j2) (by simp)).1, (HE7.out.box (h2, z2) (by simp)).1⟩, HE7.out.bel⟩ ?_
            clear HR
            refine plan3_run (o := ?_) (by simp only [List.getElem?_toArray, List.getElem?_cons_succ, List.getElem?_cons_zero]; rfl) ?_
            intro R HR
            go_wp2_with fail
            refine HR.out _ _ ⟨⟨(HE7.out.jou (g2, j2) (by simp)).1, (HE7.out.box (h2, z2) (by simp)).1⟩, HE7.out.bel⟩ ?_
            clear HR
            refine plan3_done ?_
            go_wp2_with fail
            go_meet
            case rel => exact ⟨_, _, _, _, rfl, rfl, rfl, HK4, HZ4, HE7⟩
          · intro R HR
            have HE4 := hide (HE3.out.freshd (Nat.le_refl _))
            try simp only [World.size_alloc] at HE4
            have HL4 := hide HE3.out.ltd
            try simp only [World.size_alloc] at HL4
            have HI4 := hide (HI3.out.below (below_new _ (.cells #[.slice none 0 0, .slice none 0 0, .int .i64 0, .bool false] 25)))
            go_wp2_with fail
            refine HR.out _ _ ⟨⟨(HE4.out.jou (g2, j2) (by simp)).1, (HE4.out.box (h2, z2) (by simp)).1⟩, HE4.out.bel⟩ ?_
            clear HR
            refine plan3_run (o := ?_) (by simp only [List.getElem?_toArray, List.getElem?_cons_succ, List.getElem?_cons_zero]; rfl) ?_
            intro R HR
            go_wp2_with fail
            (with_reducible refine (jsync_is (n0 := w.heap.size) _ HE4.out.bel.size HK2.out HZ2.out P4.out HI4.out (HE4.out.box (h2, z2) (by simp)).2.2.2).mono ?_)
            rintro e v5 ⟨x5, z5, rfl, hk, hz, hi, hi2, hb⟩
            have HE5 := hide (HE4.out.below hb)
            have HK5 := hide hk
            have HZ5 := hide hz
            have HI5 := hide hi
            have HG5 := hide hi2
            clear hk hz hi hi2 hb
            go_wp2_with fail
            refine HR.out _ _ ⟨⟨(HE5.out.jou (g2, j2) (by simp)).1, (HE5.out.box (h2, z2) (by simp)).1⟩, HE5.out.bel⟩ ?_
            clear HR
            (refine plan3_take (o := ?_) (v := ?_) (by simp only [List.getElem?_toArray, List.getElem?_cons_succ, List.getElem?_cons_zero]; rfl) (yields_run (by rfl) ?_) ?_; rotate_left; (focus (intro w' hw'; skip; go_simp <;> with_reducible rfl)); (simp only [Act.put, List.setIfInBounds_toArray, List.set_cons_zero, List.set_cons_succ]))
            (refine plan3_take (o := ?_) (v := ?_) (by simp only [List.getElem?_toArray, List.getElem?_cons_succ, List.getElem?_cons_zero]; rfl) (yields_run (by rfl) ?_) ?_; rotate_left; (focus (intro w' hw'; skip; go_simp <;> with_reducible rfl)); (simp only [Act.put, List.setIfInBounds_toArray, List.set_cons_zero, List.set_cons_succ]))
            (refine plan3_take (o := ?_) (v := ?_) (by simp only [List.getElem?_toArray, List.getElem?_cons_succ, List.getElem?_cons_zero]; rfl) (yields_run (by rfl) ?_) ?_; rotate_left; (focus (intro w' hw'; skip; go_simp <;> with_reducible rfl)); (simp only [Act.put, List.setIfInBounds_toArray, List.set_cons_zero, List.set_cons_succ]))
            (refine plan3_take (o := ?_) (v := ?_) (by simp only [List.getElem?_toArray, List.getElem?_cons_succ, List.getElem?_cons_zero]; rfl) (yields_run (by rfl) ?_) ?_; rotate_left; (focus (intro w' hw'; skip; go_simp <;> with_reducible rfl)); (simp only [Act.put, List.setIfInBounds_toArray, List.set_cons_zero, List.set_cons_succ]))
            refine plan3_run (o := ?_) (by simp only [List.getElem?_toArray, List.getElem?_cons_succ, List.getElem?_cons_zero]; rfl) ?_
            intro R HR
            have HX6 := hide (show Blk _ v2.heap.size 29 _ from (HE5.out.jou (v2.heap.size, Jr.zero) (by simp)).1)
            have HE6 := hide (HE5.out.put1j (y := x5) HI5.out HL3.out)
            have HG6 := hide (HG5.out.keepT HX6.out (by decide) (HE5.out.jou (v2.heap.size, Jr.zero) (by simp)).2.2.1 (only_setRow (only_refl _ _) (.inl rfl) #[.slice x5.A x5.rs.length x5.cap, .int .i64 x5.many, .int .i64 x5.synced]))
            refine wpList_store_row rfl 29 (.tmp 16) (.tmp 83) rfl _ #[.slice x5.A x5.rs.length x5.cap, .int .i64 x5.many, .int .i64 x5.synced] rfl rfl 29 _ HX6.out Try.size29 rfl (one29 _ _ _ _ _) ?_
            refine HR.out _ _ ⟨⟨(HE6.out.jou (g2, j2) (by simp)).1, (HE6.out.box (h2, z2) (by simp)).1⟩, HE6.out.bel⟩ ?_
            clear HR
            refine plan3_run (o := ?_) (by simp only [List.getElem?_toArray, List.getElem?_cons_succ, List.getElem?_cons_zero]; rfl) ?_
            intro R HR
            have HX7 := hide (show Blk _ (v2.heap.size + 1) 25 _ from (HE6.out.box ((v2.heap.size + 1), Dsk.zero) (by simp)).1)
            have HE7 := hide (HE6.out.put1d (y := z5) HG6.out HL4.out)
            refine wpList_store_row rfl 25 (.tmp 17) (.tmp 84) rfl _ #[.slice z5.sa z5.ss.length z5.sc, .slice z5.pa z5.ps.length z5.pc, .int .i64 z5.left, .bool z5.stp] rfl rfl 25 _ HX7.out Try.size25 rfl (one25 _ _ _ _ _ _ _ _) ?_
            refine HR.out _ _ ⟨⟨(HE7.out.jou (g2, j2) (by simp)).1, (HE7.out.box (h2, z2) (by simp)).1⟩, HE7.out.bel⟩ ?_
            clear HR
            refine plan3_run (o := ?_) (by simp only [List.getElem?_toArray, List.getElem?_cons_succ, List.getElem?_cons_zero]; rfl) ?_
            intro R HR
            go_wp2_with fail
            refine HR.out _ _ ⟨⟨(HE7.out.jou (g2, j2) (by simp)).1, (HE7.out.box (h2, z2) (by simp)).1⟩, HE7.out.bel⟩ ?_
            clear HR
            refine plan3_done ?_
            go_wp2_with fail
            go_meet
            case rel => exact ⟨_, _, _, _, rfl, rfl, rfl, HK5, HZ5, HE7⟩
        · intro R HR
          have HE3 := hide (HE2.out.freshd (Nat.le_refl _))
          try simp only [World.size_alloc] at HE3
          have HL3 := hide HE2.out.ltd
          try simp only [World.size_alloc] at HL3
          have HI3 := hide (HI2.out.below (below_new _ (.cells #[.slice none 0 0, .slice none 0 0, .int .i64 0, .bool false] 25)))
          go_wp2_with fail
          refine HR.out _ _ ⟨⟨(HE3.out.jou (g2, j2) (by simp)).1, (HE3.out.box (h2, z2) (by simp)).1⟩, HE3.out.bel⟩ ?_
          clear HR
          refine plan3_both (o1 := ?_) (o2 := ?_) (by simp only [List.getElem?_toArray, List.getElem?_cons_succ, List.getElem?_cons_zero]; rfl) (by simp only [List.getElem?_toArray, List.getElem?_cons_succ, List.getElem?_cons_zero]; rfl) ?_ ?_
          · intro R HR
            go_wp2_with fail
            (with_reducible refine (jsync_is (n0 := w.heap.size) _ HE3.out.bel.size HK2.out HZ2.out P4.out HI3.out (HE3.out.box (h2, z2) (by simp)).2.2.2).mono ?_)
            rintro e v4 ⟨x4, z4, rfl, hk, hz, hi, hi2, hb⟩
            have HE4 := hide (HE3.out.below hb)
            have HK4 := hide hk
            have HZ4 := hide hz
            have HI4 := hide hi
            have HG4 := hide hi2
            clear hk hz hi hi2 hb
            go_wp2_with fail
            refine HR.out _ _ ⟨⟨(HE4.out.jou (g2, j2) (by simp)).1, (HE4.out.box (h2, z2) (by simp)).1⟩, HE4.out.bel⟩ ?_
            clear HR
            (refine plan3_take (o := ?_) (v := ?_) (by simp only [List.getElem?_toArray, List.getElem?_cons_succ, List.getElem?_cons_zero]; rfl) (yields_run (by rfl) ?_) ?_; rotate_left; (focus (intro w' hw'; skip; go_simp <;> with_reducible rfl)); (simp only [Act.put, List.setIfInBounds_toArray, List.set_cons_zero, List.set_cons_succ]))
            (refine plan3_take (o := ?_) (v := ?_) (by simp only [List.getElem?_toArray, List.getElem?_cons_succ, List.getElem?_cons_zero]; rfl) (yields_run (by rfl) ?_) ?_; rotate_left; (focus (intro w' hw'; skip; go_simp <;> with_reducible rfl)); (simp only [Act.put, List.setIfInBounds_toArray, List.set_cons_zero, List.set_cons_succ]))
            (refine plan3_take (o := ?_) (v := ?_) (by simp only [List.getElem?_toArray, List.getElem?_cons_succ, List.getElem?_cons_zero]; rfl) (yields_run (by rfl) ?_) ?_; rotate_left; (focus (intro w' hw'; skip; go_simp <;> with_reducible rfl)); (simp only [Act.put, List.setIfInBounds_toArray, List.set_cons_zero, List.set_cons_succ]))
            (refine plan3_take (o := ?_) (v := ?_) (by simp only [List.getElem?_toArray, List.getElem?_cons_succ, List.getElem?_cons_zero]; rfl) (yields_run (by rfl) ?_) ?_; rotate_left; (focus (intro w' hw'; skip; go_simp <;> with_reducible rfl)); (simp only [Act.put, List.setIfInBounds_toArray, List.set_cons_zero, List.set_cons_succ]))
            refine plan3_run (o := ?_) (by simp only [List.getElem?_toArray, List.getElem?_cons_succ, List.getElem?_cons_zero]; rfl) ?_
            intro R HR
            have HE5 := hide (HE4.out.freshj (Nat.le_refl _))
            try simp only [World.size_alloc] at HE5
            have HL5 := hide HE4.out.ltj
            try simp only [World.size_alloc] at HL5
            have HI5 := hide (HI4.out.below (below_new _ (.cells #[.slice none 0 0, .int .i64 0, .int .i64 0] 29)))
            have HG5 := hide (HG4.out.below (below_new _ (.cells #[.slice none 0 0, .int .i64 0, .int .i64 0] 29)))
            go_wp2_with fail
            refine HR.out _ _ ⟨⟨(HE5.out.jou (g2, j2) (by simp)).1, (HE5.out.box (h2, z2) (by simp)).1⟩, HE5.out.bel⟩ ?_
            clear HR
            refine plan3_run (o := ?_) (by simp only [List.getElem?_toArray, List.getElem?_cons_succ, List.getElem?_cons_zero]; rfl) ?_
            intro R HR
            have HX6 := hide (show Blk _ v4.heap.size 29 _ from (HE5.out.jou (v4.heap.size, Jr.zero) (by simp)).1)
            have HE6 := hide (HE5.out.put1j (y := x4) HI5.out HL5.out)
            have HG6 := hide (HG5.out.keepT HX6.out (by decide) (HE5.out.jou (v4.heap.size, Jr.zero) (by simp)).2.2.1 (only_setRow (only_refl _ _) (.inl rfl) #[.slice x4.A x4.rs.length x4.cap, .int .i64 x4.many, .int .i64 x4.synced]))
            refine wpList_store_row rfl 29 (.tmp 16) (.tmp 83) rfl _ #[.slice x4.A x4.rs.length x4.cap, .int .i64 x4.many, .int .i64 x4.synced] rfl rfl 29 _ HX6.out Try.size29 rfl (one29 _ _ _ _ _) ?_
            refine HR.out _ _ ⟨⟨(HE6.out.jou (g2, j2) (by simp)).1, (HE6.out.box (h2, z2) (by simp)).1⟩, HE6.out.bel⟩ ?_
            clear HR
            refine plan3_run (o := ?_) (by simp only [List.getElem?_toArray, List.getElem?_cons_succ, List.getElem?_cons_zero]; rfl) ?_
            intro R HR
            have HX7 := hide (show Blk _ v2.heap.size 25 _ from (HE6.out.box (v2.heap.size, Dsk.zero) (by simp)).1)
            have HE7 := hide (HE6.out.put1d (y := z4) HG6.out HL3.out)
            refine wpList_store_row rfl 25 (.tmp 17) (.tmp 84) rfl _ #[.slice z4.sa z4.ss.length z4.sc, .slice z4.pa z4.ps.length z4.pc, .int .i64 z4.left, .bool z4.stp] rfl rfl 25 _ HX7.out Try.size25 rfl (one25 _ _ _ _ _ _ _ _) ?_
            refine HR.out _ _ ⟨⟨(HE7.out.jou (g2, j2) (by simp)).1, (HE7.out.box (h2, z2) (by simp)).1⟩, HE7.out.bel⟩ ?_
            clear HR
            refine plan3_run (o := ?_) (by simp only [List.getElem?_toArray, List.getElem?_cons_succ, List.getElem?_cons_zero]; rfl) ?_
            intro R HR
            go_wp2_with fail
            refine HR.out _ _ ⟨⟨(HE7.out.jou (g2, j2) (by simp)).1, (HE7.out.box (h2, z2) (by simp)).1⟩, HE7.out.bel⟩ ?_
            clear HR
            refine plan3_done ?_
            go_wp2_with fail
            go_meet
            case rel => exact ⟨_, _, _, _, rfl, rfl, rfl, HK4, HZ4, HE7⟩
          · intro R HR
            have HE4 := hide (HE3.out.freshj (Nat.le_refl _))
            try simp only [World.size_alloc] at HE4
            have HL4 := hide HE3.out.ltj
            try simp only [World.size_alloc] at HL4
            have HI4 := hide (HI3.out.below (below_new _ (.cells #[.slice none 0 0, .int .i64 0, .int .i64 0] 29)))
            go_wp2_with fail
            refine HR.out _ _ ⟨⟨(HE4.out.jou (g2, j2) (by simp)).1, (HE4.out.box (h2, z2) (by simp)).1⟩, HE4.out.bel⟩ ?_
            clear HR
            refine plan3_run (o := ?_) (by simp only [List.getElem?_toArray, List.getElem?_cons_succ, List.getElem?_cons_zero]; rfl) ?_
            intro R HR
            go_wp2_with fail
            (with_reducible refine (jsync_is (n0 := w.heap.size) _ HE4.out.bel.size HK2.out HZ2.out P4.out HI4.out (HE4.out.box (h2, z2) (by simp)).2.2.2).mono ?_)
            rintro e v5 ⟨x5, z5, rfl, hk, hz, hi, hi2, hb⟩
            have HE5 := hide (HE4.out.below hb)
            have HK5 := hide hk
            have HZ5 := hide hz
            have HI5 := hide hi
            have HG5 := hide hi2
            clear hk hz hi hi2 hb
            go_wp2_with fail
            refine HR.out _ _ ⟨⟨(HE5.out.jou (g2, j2) (by simp)).1, (HE5.out.box (h2, z2) (by simp)).1⟩, HE5.out.bel⟩ ?_
            clear HR
            (refine plan3_take (o := ?_) (v := ?_) (by simp only [List.getElem?_toArray, List.getElem?_cons_succ, List.getElem?_cons_zero]; rfl) (yields_run (by rfl) ?_) ?_; rotate_left; (focus (intro w' hw'; skip; go_simp <;> with_reducible rfl)); (simp only [Act.put, List.setIfInBounds_toArray, List.set_cons_zero, List.set_cons_succ]))
            (refine plan3_take (o := ?_) (v := ?_) (by simp only [List.getElem?_toArray, List.getElem?_cons_succ, List.getElem?_cons_zero]; rfl) (yields_run (by rfl) ?_) ?_; rotate_left; (focus (intro w' hw'; skip; go_simp <;> with_reducible rfl)); (simp only [Act.put, List.setIfInBounds_toArray, List.set_cons_zero, List.set_cons_succ]))
            (refine plan3_take (o := ?_) (v := ?_) (by simp only [List.getElem?_toArray, List.getElem?_cons_succ, List.getElem?_cons_zero]; rfl) (yields_run (by rfl) ?_) ?_; rotate_left; (focus (intro w' hw'; skip; go_simp <;> with_reducible rfl)); (simp only [Act.put, List.setIfInBounds_toArray, List.set_cons_zero, List.set_cons_succ]))
            (refine plan3_take (o := ?_) (v := ?_) (by simp only [List.getElem?_toArray, List.getElem?_cons_succ, List.getElem?_cons_zero]; rfl) (yields_run (by rfl) ?_) ?_; rotate_left; (focus (intro w' hw'; skip; go_simp <;> with_reducible rfl)); (simp only [Act.put, List.setIfInBounds_toArray, List.set_cons_zero, List.set_cons_succ]))
            refine plan3_run (o := ?_) (by simp only [List.getElem?_toArray, List.getElem?_cons_succ, List.getElem?_cons_zero]; rfl) ?_
            intro R HR
            have HX6 := hide (show Blk _ (v2.heap.size + 1) 29 _ from (HE5.out.jou ((v2.heap.size + 1), Jr.zero) (by simp)).1)
            have HE6 := hide (HE5.out.put1j (y := x5) HI5.out HL4.out)
            have HG6 := hide (HG5.out.keepT HX6.out (by decide) (HE5.out.jou ((v2.heap.size + 1), Jr.zero) (by simp)).2.2.1 (only_setRow (only_refl _ _) (.inl rfl) #[.slice x5.A x5.rs.length x5.cap, .int .i64 x5.many, .int .i64 x5.synced]))
            refine wpList_store_row rfl 29 (.tmp 16) (.tmp 83) rfl _ #[.slice x5.A x5.rs.length x5.cap, .int .i64 x5.many, .int .i64 x5.synced] rfl rfl 29 _ HX6.out Try.size29 rfl (one29 _ _ _ _ _) ?_
            refine HR.out _ _ ⟨⟨(HE6.out.jou (g2, j2) (by simp)).1, (HE6.out.box (h2, z2) (by simp)).1⟩, HE6.out.bel⟩ ?_
            clear HR
            refine plan3_run (o := ?_) (by simp only [List.getElem?_toArray, List.getElem?_cons_succ, List.getElem?_cons_zero]; rfl) ?_
            intro R HR
            have HX7 := hide (show Blk _ v2.heap.size 25 _ from (HE6.out.box (v2.heap.size, Dsk.zero) (by simp)).1)
            have HE7 := hide (HE6.out.put1d (y := z5) HG6.out HL3.out)
            refine wpList_store_row rfl 25 (.tmp 17) (.tmp 84) rfl _ #[.slice z5.sa z5.ss.length z5.sc, .slice z5.pa z5.ps.length z5.pc, .int .i64 z5.left, .bool z5.stp] rfl rfl 25 _ HX7.out Try.size25 rfl (one25 _ _ _ _ _ _ _ _) ?_
            refine HR.out _ _ ⟨⟨(HE7.out.jou (g2, j2) (by simp)).1, (HE7.out.box (h2, z2) (by simp)).1⟩, HE7.out.bel⟩ ?_
            clear HR
            refine plan3_run (o := ?_) (by simp only [List.getElem?_toArray, List.getElem?_cons_succ, List.getElem?_cons_zero]; rfl) ?_
            intro R HR
            go_wp2_with fail
            refine HR.out _ _ ⟨⟨(HE7.out.jou (g2, j2) (by simp)).1, (HE7.out.box (h2, z2) (by simp)).1⟩, HE7.out.bel⟩ ?_
            clear HR
            refine plan3_done ?_
            go_wp2_with fail
            go_meet
            case rel => exact ⟨_, _, _, _, rfl, rfl, rfl, HK5, HZ5, HE7⟩
      · intro R HR
        have HE2 := hide (HE1.out.freshj (Nat.le_refl _))
        try simp only [World.size_alloc] at HE2
        have HL2 := hide HE1.out.ltj
        try simp only [World.size_alloc] at HL2
        go_wp2_with fail
        refine HR.out _ _ ⟨⟨(HE2.out.jou (g2, j2) (by simp)).1, (HE2.out.box (h2, z2) (by simp)).1⟩, HE2.out.bel⟩ ?_
        clear HR
        refine plan3_both (o1 := ?_) (o2 := ?_) (by simp only [List.getElem?_toArray, List.getElem?_cons_succ, List.getElem?_cons_zero]; rfl) (by simp only [List.getElem?_toArray, List.getElem?_cons_succ, List.getElem?_cons_zero]; rfl) ?_ ?_
        · intro R HR
          go_wp2_with fail
          (with_reducible refine (jadd_any j2 A1 l1 c1 _ HE2.out.bel.size (HE2.out.jou (g2, j2) (by simp)).2.2.2 (HB.out.below HE2.out.bel) HSB.out).mono ?_)
          rintro e v3 ⟨x3, rfl, hk, hi, hb⟩
          have HE3 := hide (HE2.out.below hb)
          have HK3 := hide (hk.trans (congrArg (fun q => Jk.addAll q (secD l1)) HK2.out))
          have HI3 := hide hi
          clear hk hi hb
          go_wp2_with fail
          refine HR.out _ _ ⟨⟨(HE3.out.jou (g2, j2) (by simp)).1, (HE3.out.box (h2, z2) (by simp)).1⟩, HE3.out.bel⟩ ?_
          clear HR
          refine plan3_both (o1 := ?_) (o2 := ?_) (by simp only [List.getElem?_toArray, List.getElem?_cons_succ, List.getElem?_cons_zero]; rfl) (by simp only [List.getElem?_toArray, List.getElem?_cons_succ, List.getElem?_cons_zero]; rfl) ?_ ?_
          · intro R HR
            go_wp2_with fail
            (with_reducible refine (jsync_is (n0 := w.heap.size) _ HE3.out.bel.size HK3.out HZ2.out P4.out HI3.out (HE3.out.box (h2, z2) (by simp)).2.2.2).mono ?_)
            rintro e v4 ⟨x4, z4, rfl, hk, hz, hi, hi2, hb⟩
            have HE4 := hide (HE3.out.below hb)
            have HK4 := hide hk
            have HZ4 := hide hz
            have HI4 := hide hi
            have HG4 := hide hi2
            clear hk hz hi hi2 hb
            go_wp2_with fail
            refine HR.out _ _ ⟨⟨(HE4.out.jou (g2, j2) (by simp)).1, (HE4.out.box (h2, z2) (by simp)).1⟩, HE4.out.bel⟩ ?_
            clear HR
            (refine plan3_take (o := ?_) (v := ?_) (by simp only [List.getElem?_toArray, List.getElem?_cons_succ, List.getElem?_cons_zero]; rfl) (yields_run (by rfl) ?_) ?_; rotate_left; (focus (intro w' hw'; skip; go_simp <;> with_reducible rfl)); (simp only [Act.put, List.setIfInBounds_toArray, List.set_cons_zero, List.set_cons_succ]))
            (refine plan3_take (o := ?_) (v := ?_) (by simp only [List.getElem?_toArray, List.getElem?_cons_succ, List.getElem?_cons_zero]; rfl) (yields_run (by rfl) ?_) ?_; rotate_left; (focus (intro w' hw'; skip; go_simp <;> with_reducible rfl)); (simp only [Act.put, List.setIfInBounds_toArray, List.set_cons_zero, List.set_cons_succ]))
            (refine plan3_take (o := ?_) (v := ?_) (by simp only [List.getElem?_toArray, List.getElem?_cons_succ, List.getElem?_cons_zero]; rfl) (yields_run (by rfl) ?_) ?_; rotate_left; (focus (intro w' hw'; skip; go_simp <;> with_reducible rfl)); (simp only [Act.put, List.setIfInBounds_toArray, List.set_cons_zero, List.set_cons_succ]))
            (refine plan3_take (o := ?_) (v := ?_) (by simp only [List.getElem?_toArray, List.getElem?_cons_succ, List.getElem?_cons_zero]; rfl) (yields_run (by rfl) ?_) ?_; rotate_left; (focus (intro w' hw'; skip; go_simp <;> with_reducible rfl)); (simp only [Act.put, List.setIfInBounds_toArray, List.set_cons_zero, List.set_cons_succ]))
            refine plan3_run (o := ?_) (by simp only [List.getElem?_toArray, List.getElem?_cons_succ, List.getElem?_cons_zero]; rfl) ?_
            intro R HR
            have HE5 := hide (HE4.out.freshd (Nat.le_refl _))
            try simp only [World.size_alloc] at HE5
            have HL5 := hide HE4.out.ltd
            try simp only [World.size_alloc] at HL5
            have HI5 := hide (HI4.out.below (below_new _ (.cells #[.slice none 0 0, .slice none 0 0, .int .i64 0, .bool false] 25)))
            have HG5 := hide (HG4.out.below (below_new _ (.cells #[.slice none 0 0, .slice none 0 0, .int .i64 0, .bool false] 25)))
            go_wp2_with fail
            refine HR.out _ _ ⟨⟨(HE5.out.jou (g2, j2) (by simp)).1, (HE5.out.box (h2, z2) (by simp)).1⟩, HE5.out.bel⟩ ?_
            clear HR
            refine plan3_run (o := ?_) (by simp only [List.getElem?_toArray, List.getElem?_cons_succ, List.getElem?_cons_zero]; rfl) ?_
            intro R HR
            have HX6 := hide (show Blk _ wD.heap.size 29 _ from (HE5.out.jou (wD.heap.size, Jr.zero) (by simp)).1)
            have HE6 := hide (HE5.out.put1j (y := x4) HI5.out HL2.out)
            have HG6 := hide (HG5.out.keepT HX6.out (by decide) (HE5.out.jou (wD.heap.size, Jr.zero) (by simp)).2.2.1 (only_setRow (only_refl _ _) (.inl rfl) #[.slice x4.A x4.rs.length x4.cap, .int .i64 x4.many, .int .i64 x4.synced]))
            refine wpList_store_row rfl 29 (.tmp 16) (.tmp 83) rfl _ #[.slice x4.A x4.rs.length x4.cap, .int .i64 x4.many, .int .i64 x4.synced] rfl rfl 29 _ HX6.out Try.size29 rfl (one29 _ _ _ _ _) ?_
            refine HR.out _ _ ⟨⟨(HE6.out.jou (g2, j2) (by simp)).1, (HE6.out.box (h2, z2) (by simp)).1⟩, HE6.out.bel⟩ ?_
            clear HR
            refine plan3_run (o := ?_) (by simp only [List.getElem?_toArray, List.getElem?_cons_succ, List.getElem?_cons_zero]; rfl) ?_
            intro R HR
            have HX7 := hide (show Blk _ v4.heap.size 25 _ from (HE6.out.box (v4.heap.size, Dsk.zero) (by simp)).1)
            have HE7 := hide (HE6.out.put1d (y := z4) HG6.out HL5.out)
            refine wpList_store_row rfl 25 (.tmp 17) (.tmp 84) rfl _ #[.slice z4.sa z4.ss.length z4.sc, .slice z4.pa z4.ps.length z4.pc, .int .i64 z4.left, .bool z4.stp] rfl rfl 25 _ HX7.out Try.size25 rfl (one25 _ _ _ _ _ _ _ _) ?_
            refine HR.out _ _ ⟨⟨(HE7.out.jou (g2, j2) (by simp)).1, (HE7.out.box (h2, z2) (by simp)).1⟩, HE7.out.bel⟩ ?_
            clear HR
            refine plan3_run (o := ?_) (by simp only [List.getElem?_toArray, List.getElem?_cons_succ, List.getElem?_cons_zero]; rfl) ?_
            intro R HR
            go_wp2_with fail
            refine HR.out _ _ ⟨⟨(HE7.out.jou (g2, j2) (by simp)).1, (HE7.out.box (h2, z2) (by simp)).1⟩, HE7.out.bel⟩ ?_
            clear HR
            refine plan3_done ?_
            go_wp2_with fail
            go_meet
            case rel => exact ⟨_, _, _, _, rfl, rfl, rfl, HK4, HZ4, HE7⟩
          · intro R HR
            have HE4 := hide (HE3.out.freshd (Nat.le_refl _))
            try simp only [World.size_alloc] at HE4
            have HL4 := hide HE3.out.ltd
            try simp only [World.size_alloc] at HL4
            have HI4 := hide (HI3.out.below (below_new _ (.cells #[.slice none 0 0, .slice none 0 0, .int .i64 0, .bool false] 25)))
            go_wp2_with fail
            refine HR.out _ _ ⟨⟨(HE4.out.jou (g2, j2) (by simp)).1, (HE4.out.box (h2, z2) (by simp)).1⟩, HE4.out.bel⟩ ?_
            clear HR
            refine plan3_run (o := ?_) (by simp only [List.getElem?_toArray, List.getElem?_cons_succ, List.getElem?_cons_zero]; rfl) ?_
            intro R HR
            go_wp2_with fail
            (with_reducible refine (jsync_is (n0 := w.heap.size) _ HE4.out.bel.size HK3.out HZ2.out P4.out HI4.out (HE4.out.box (h2, z2) (by simp)).2.2.2).mono ?_)
            rintro e v5 ⟨x5, z5, rfl, hk, hz, hi, hi2, hb⟩
            have HE5 := hide (HE4.out.below hb)
            have HK5 := hide hk
            have HZ5 := hide hz
            have HI5 := hide hi
            have HG5 := hide hi2
            clear hk hz hi hi2 hb
            go_wp2_with fail
            refine HR.out _ _ ⟨⟨(HE5.out.jou (g2, j2) (by simp)).1, (HE5.out.box (h2, z2) (by simp)).1⟩, HE5.out.bel⟩ ?_
            clear HR
            (refine plan3_take (o := ?_) (v := ?_) (by simp only [List.getElem?_toArray, List.getElem?_cons_succ, List.getElem?_cons_zero]; rfl) (yields_run (by rfl) ?_) ?_; rotate_left; (focus (intro w' hw'; skip; go_simp <;> with_reducible rfl)); (simp only [Act.put, List.setIfInBounds_toArray, List.set_cons_zero, List.set_cons_succ]))
            (refine plan3_take (o := ?_) (v := ?_) (by simp only [List.getElem?_toArray, List.getElem?_cons_succ, List.getElem?_cons_zero]; rfl) (yields_run (by rfl) ?_) ?_; rotate_left; (focus (intro w' hw'; skip; go_simp <;> with_reducible rfl)); (simp only [Act.put, List.setIfInBounds_toArray, List.set_cons_zero, List.set_cons_succ]))
            (refine plan3_take (o := ?_) (v := ?_) (by simp only [List.getElem?_toArray, List.getElem?_cons_succ, List.getElem?_cons_zero]; rfl) (yields_run (by rfl) ?_) ?_; rotate_left; (focus (intro w' hw'; skip; go_simp <;> with_reducible rfl)); (simp only [Act.put, List.setIfInBounds_toArray, List.set_cons_zero, List.set_cons_succ]))
            (refine plan3_take (o := ?_) (v := ?_) (by simp only [List.getElem?_toArray, List.getElem?_cons_succ, List.getElem?_cons_zero]; rfl) (yields_run (by rfl) ?_) ?_; rotate_left; (focus (intro w' hw'; skip; go_simp <;> with_reducible rfl)); (simp only [Act.put, List.setIfInBounds_toArray, List.set_cons_zero, List.set_cons_succ]))
            refine plan3_run (o := ?_) (by simp only [List.getElem?_toArray, List.getElem?_cons_succ, List.getElem?_cons_zero]; rfl) ?_
            intro R HR
            have HX6 := hide (show Blk _ wD.heap.size 29 _ from (HE5.out.jou (wD.heap.size, Jr.zero) (by simp)).1)
            have HE6 := hide (HE5.out.put1j (y := x5) HI5.out HL2.out)
            have HG6 := hide (HG5.out.keepT HX6.out (by decide) (HE5.out.jou (wD.heap.size, Jr.zero) (by simp)).2.2.1 (only_setRow (only_refl _ _) (.inl rfl) #[.slice x5.A x5.rs.length x5.cap, .int .i64 x5.many, .int .i64 x5.synced]))
            refine wpList_store_row rfl 29 (.tmp 16) (.tmp 83) rfl _ #[.slice x5.A x5.rs.length x5.cap, .int .i64 x5.many, .int .i64 x5.synced] rfl rfl 29 _ HX6.out Try.size29 rfl (one29 _ _ _ _ _) ?_
            refine HR.out _ _ ⟨⟨(HE6.out.jou (g2, j2) (by simp)).1, (HE6.out.box (h2, z2) (by simp)).1⟩, HE6.out.bel⟩ ?_
            clear HR
            refine plan3_run (o := ?_) (by simp only [List.getElem?_toArray, List.getElem?_cons_succ, List.getElem?_cons_zero]; rfl) ?_
            intro R HR
            have HX7 := hide (show Blk _ v3.heap.size 25 _ from (HE6.out.box (v3.heap.size, Dsk.zero) (by simp)).1)
            have HE7 := hide (HE6.out.put1d (y := z5) HG6.out HL4.out)
            refine wpList_store_row rfl 25 (.tmp 17) (.tmp 84) rfl _ #[.slice z5.sa z5.ss.length z5.sc, .slice z5.pa z5.ps.length z5.pc, .int .i64 z5.left, .bool z5.stp] rfl rfl 25 _ HX7.out Try.size25 rfl (one25 _ _ _ _ _ _ _ _) ?_
            refine HR.out _ _ ⟨⟨(HE7.out.jou (g2, j2) (by simp)).1, (HE7.out.box (h2, z2) (by simp)).1⟩, HE7.out.bel⟩ ?_
            clear HR
            refine plan3_run (o := ?_) (by simp only [List.getElem?_toArray, List.getElem?_cons_succ, List.getElem?_cons_zero]; rfl) ?_
            intro R HR
            go_wp2_with fail
            refine HR.out _ _ ⟨⟨(HE7.out.jou (g2, j2) (by simp)).1, (HE7.out.box (h2, z2) (by simp)).1⟩, HE7.out.bel⟩ ?_
            clear HR
            refine plan3_done ?_
            go_wp2_with fail
            go_meet
            case rel => exact ⟨_, _, _, _, rfl, rfl, rfl, HK5, HZ5, HE7⟩
        · intro R HR
          have HE3 := hide (HE2.out.freshd (Nat.le_refl _))
          try simp only [World.size_alloc] at HE3
          have HL3 := hide HE2.out.ltd
          try simp only [World.size_alloc] at HL3
          go_wp2_with fail
          refine HR.out _ _ ⟨⟨(HE3.out.jou (g2, j2) (by simp)).1, (HE3.out.box (h2, z2) (by simp)).1⟩, HE3.out.bel⟩ ?_
          clear HR
          refine plan3_run (o := ?_) (by simp only [List.getElem?_toArray, List.getElem?_cons_succ, List.getElem?_cons_zero]; rfl) ?_
          intro R HR
          go_wp2_with fail
          (with_reducible refine (jadd_any j2 A1 l1 c1 _ HE3.out.bel.size (HE3.out.jou (g2, j2) (by simp)).2.2.2 (HB.out.below HE3.out.bel) HSB.out).mono ?_)
          rintro e v4 ⟨x4, rfl, hk, hi, hb⟩
          have HE4 := hide (HE3.out.below hb)
          have HK4 := hide (hk.trans (congrArg (fun q => Jk.addAll q (secD l1)) HK2.out))
          have HI4 := hide hi
          clear hk hi hb
          go_wp2_with fail
          refine HR.out _ _ ⟨⟨(HE4.out.jou (g2, j2) (by simp)).1, (HE4.out.box (h2, z2) (by simp)).1⟩, HE4.out.bel⟩ ?_
          clear HR
          refine plan3_run (o := ?_) (by simp only [List.getElem?_toArray, List.getElem?_cons_succ, List.getElem?_cons_zero]; rfl) ?_
          intro R HR
          go_wp2_with fail
          (with_reducible refine (jsync_is (n0 := w.heap.size) _ HE4.out.bel.size HK4.out HZ2.out P4.out HI4.out (HE4.out.box (h2, z2) (by simp)).2.2.2).mono ?_)
          rintro e v5 ⟨x5, z5, rfl, hk, hz, hi, hi2, hb⟩
          have HE5 := hide (HE4.out.below hb)
          have HK5 := hide hk
          have HZ5 := hide hz
          have HI5 := hide hi
          have HG5 := hide hi2
          clear hk hz hi hi2 hb
          go_wp2_with fail
          refine HR.out _ _ ⟨⟨(HE5.out.jou (g2, j2) (by simp)).1, (HE5.out.box (h2, z2) (by simp)).1⟩, HE5.out.bel⟩ ?_
          clear HR
          (refine plan3_take (o := ?_) (v := ?_) (by simp only [List.getElem?_toArray, List.getElem?_cons_succ, List.getElem?_cons_zero]; rfl) (yields_run (by rfl) ?_) ?_; rotate_left; (focus (intro w' hw'; skip; go_simp <;> with_reducible rfl)); (simp only [Act.put, List.setIfInBounds_toArray, List.set_cons_zero, List.set_cons_succ]))
          (refine plan3_take (o := ?_) (v := ?_) (by simp only [List.getElem?_toArray, List.getElem?_cons_succ, List.getElem?_cons_zero]; rfl) (yields_run (by rfl) ?_) ?_; rotate_left; (focus (intro w' hw'; skip; go_simp <;> with_reducible rfl)); (simp only [Act.put, List.setIfInBounds_toArray, List.set_cons_zero, List.set_cons_succ]))
          (refine plan3_take (o := ?_) (v := ?_) (by simp only [List.getElem?_toArray, List.getElem?_cons_succ, List.getElem?_cons_zero]; rfl) (yields_run (by rfl) ?_) ?_; rotate_left; (focus (intro w' hw'; skip; go_simp <;> with_reducible rfl)); (simp only [Act.put, List.setIfInBounds_toArray, List.set_cons_zero, List.set_cons_succ]))
          (refine plan3_take (o := ?_) (v := ?_) (by simp only [List.getElem?_toArray, List.getElem?_cons_succ, List.getElem?_cons_zero]; rfl) (yields_run (by rfl) ?_) ?_; rotate_left; (focus (intro w' hw'; skip; go_simp <;> with_reducible rfl)); (simp only [Act.put, List.setIfInBounds_toArray, List.set_cons_zero, List.set_cons_succ]))
          refine plan3_run (o := ?_) (by simp only [List.getElem?_toArray, List.getElem?_cons_succ, List.getElem?_cons_zero]; rfl) ?_
          intro R HR
          have HX6 := hide (show Blk _ wD.heap.size 29 _ from (HE5.out.jou (wD.heap.size, Jr.zero) (by simp)).1)
          have HE6 := hide (HE5.out.put1j (y := x5) HI5.out HL2.out)
          have HG6 := hide (HG5.out.keepT HX6.out (by decide) (HE5.out.jou (wD.heap.size, Jr.zero) (by simp)).2.2.1 (only_setRow (only_refl _ _) (.inl rfl) #[.slice x5.A x5.rs.length x5.cap, .int .i64 x5.many, .int .i64 x5.synced]))
          refine wpList_store_row rfl 29 (.tmp 16) (.tmp 83) rfl _ #[.slice x5.A x5.rs.length x5.cap, .int .i64 x5.many, .int .i64 x5.synced] rfl rfl 29 _ HX6.out Try.size29 rfl (one29 _ _ _ _ _) ?_
          refine HR.out _ _ ⟨⟨(HE6.out.jou (g2, j2) (by simp)).1, (HE6.out.box (h2, z2) (by simp)).1⟩, HE6.out.bel⟩ ?_
          clear HR
          refine plan3_run (o := ?_) (by simp only [List.getElem?_toArray, List.getElem?_cons_succ, List.getElem?_cons_zero]; rfl) ?_
          intro R HR
          have HX7 := hide (show Blk _ (wD.heap.size + 1) 25 _ from (HE6.out.box ((wD.heap.size + 1), Dsk.zero) (by simp)).1)
          have HE7 := hide (HE6.out.put1d (y := z5) HG6.out HL3.out)
          refine wpList_store_row rfl 25 (.tmp 17) (.tmp 84) rfl _ #[.slice z5.sa z5.ss.length z5.sc, .slice z5.pa z5.ps.length z5.pc, .int .i64 z5.left, .bool z5.stp] rfl rfl 25 _ HX7.out Try.size25 rfl (one25 _ _ _ _ _ _ _ _) ?_
          refine HR.out _ _ ⟨⟨(HE7.out.jou (g2, j2) (by simp)).1, (HE7.out.box (h2, z2) (by simp)).1⟩, HE7.out.bel⟩ ?_
          clear HR
          refine plan3_run (o := ?_) (by simp only [List.getElem?_toArray, List.getElem?_cons_succ, List.getElem?_cons_zero]; rfl) ?_
          intro R HR
          go_wp2_with fail
          refine HR.out _ _ ⟨⟨(HE7.out.jou (g2, j2) (by simp)).1, (HE7.out.box (h2, z2) (by simp)).1⟩, HE7.out.bel⟩ ?_
          clear HR
          refine plan3_done ?_
          go_wp2_with fail
          go_meet
          case rel => exact ⟨_, _, _, _, rfl, rfl, rfl, HK5, HZ5, HE7⟩
      · intro R HR
        have HE2 := hide (HE1.out.freshd (Nat.le_refl _))
        try simp only [World.size_alloc] at HE2
        have HL2 := hide HE1.out.ltd
        try simp only [World.size_alloc] at HL2
        go_wp2_with fail
        refine HR.out _ _ ⟨⟨(HE2.out.jou (g2, j2) (by simp)).1, (HE2.out.box (h2, z2) (by simp)).1⟩, HE2.out.bel⟩ ?_
        clear HR
        refine plan3_both (o1 := ?_) (o2 := ?_) (by simp only [List.getElem?_toArray, List.getElem?_cons_succ, List.getElem?_cons_zero]; rfl) (by simp only [List.getElem?_toArray, List.getElem?_cons_succ, List.getElem?_cons_zero]; rfl) ?_ ?_
        · intro R HR
          go_wp2_with fail
          (with_reducible refine (jadd_any j2 A1 l1 c1 _ HE2.out.bel.size (HE2.out.jou (g2, j2) (by simp)).2.2.2 (HB.out.below HE2.out.bel) HSB.out).mono ?_)
          rintro e v3 ⟨x3, rfl, hk, hi, hb⟩
          have HE3 := hide (HE2.out.below hb)
          have HK3 := hide (hk.trans (congrArg (fun q => Jk.addAll q (secD l1)) HK2.out))
          have HI3 := hide hi
          clear hk hi hb
          go_wp2_with fail
          refine HR.out _ _ ⟨⟨(HE3.out.jou (g2, j2) (by simp)).1, (HE3.out.box (h2, z2) (by simp)).1⟩, HE3.out.bel⟩ ?_
          clear HR
          refine plan3_both (o1 := ?_) (o2 := ?_) (by simp only [List.getElem?_toArray, List.getElem?_cons_succ, List.getElem?_cons_zero]; rfl) (by simp only [List.getElem?_toArray, List.getElem?_cons_succ, List.getElem?_cons_zero]; rfl) ?_ ?_
          · intro R HR
            go_wp2_with fail
            (with_reducible refine (jsync_is (n0 := w.heap.size) _ HE3.out.bel.size HK3.out HZ2.out P4.out HI3.out (HE3.out.box (h2, z2) (by simp)).2.2.2).mono ?_)
            rintro e v4 ⟨x4, z4, rfl, hk, hz, hi, hi2, hb⟩
            have HE4 := hide (HE3.out.below hb)
            have HK4 := hide hk
            have HZ4 := hide hz
            have HI4 := hide hi
            have HG4 := hide hi2
            clear hk hz hi hi2 hb
            go_wp2_with fail
            refine HR.out _ _ ⟨⟨(HE4.out.jou (g2, j2) (by simp)).1, (HE4.out.box (h2, z2) (by simp)).1⟩, HE4.out.bel⟩ ?_
            clear HR
            (refine plan3_take (o := ?_) (v := ?_) (by simp only [List.getElem?_toArray, List.getElem?_cons_succ, List.getElem?_cons_zero]; rfl) (yields_run (by rfl) ?_) ?_; rotate_left; (focus (intro w' hw'; skip; go_simp <;> with_reducible rfl)); (simp only [Act.put, List.setIfInBounds_toArray, List.set_cons_zero, List.set_cons_succ]))
            (refine plan3_take (o := ?_) (v := ?_) (by simp only [List.getElem?_toArray, List.getElem?_cons_succ, List.getElem?_cons_zero]; rfl) (yields_run (by rfl) ?_) ?_; rotate_left; (focus (intro w' hw'; skip; go_simp <;> with_reducible rfl)); (simp only [Act.put, List.setIfInBounds_toArray, List.set_cons_zero, List.set_cons_succ]))
            (refine plan3_take (o := ?_) (v := ?_) (by simp only [List.getElem?_toArray, List.getElem?_cons_succ, List.getElem?_cons_zero]; rfl) (yields_run (by rfl) ?_) ?_; rotate_left; (focus (intro w' hw'; skip; go_simp <;> with_reducible rfl)); (simp only [Act.put, List.setIfInBounds_toArray, List.set_cons_zero, List.set_cons_succ]))
            (refine plan3_take (o := ?_) (v := ?_) (by simp only [List.getElem?_toArray, List.getElem?_cons_succ, List.getElem?_cons_zero]; rfl) (yields_run (by rfl) ?_) ?_; rotate_left; (focus (intro w' hw'; skip; go_simp <;> with_reducible rfl)); (simp only [Act.put, List.setIfInBounds_toArray, List.set_cons_zero, List.set_cons_succ]))
            refine plan3_run (o := ?_) (by simp only [List.getElem?_toArray, List.getElem?_cons_succ, List.getElem?_cons_zero]; rfl) ?_
            intro R HR
            have HE5 := hide (HE4.out.freshj (Nat.le_refl _))
            try simp only [World.size_alloc] at HE5
            have HL5 := hide HE4.out.ltj
            try simp only [World.size_alloc] at HL5
            have HI5 := hide (HI4.out.below (below_new _ (.cells #[.slice none 0 0, .int .i64 0, .int .i64 0] 29)))
            have HG5 := hide (HG4.out.below (below_new _ (.cells #[.slice none 0 0, .int .i64 0, .int .i64 0] 29)))
            go_wp2_with fail
            refine HR.out _ _ ⟨⟨(HE5.out.jou (g2, j2) (by simp)).1, (HE5.out.box (h2, z2) (by simp)).1⟩, HE5.out.bel⟩ ?_
            clear HR
            refine plan3_run (o := ?_) (by simp only [List.getElem?_toArray, List.getElem?_cons_succ, List.getElem?_cons_zero]; rfl) ?_
            intro R HR
            have HX6 := hide (show Blk _ v4.heap.size 29 _ from (HE5.out.jou (v4.heap.size, Jr.zero) (by simp)).1)
            have HE6 := hide (HE5.out.put1j (y := x4) HI5.out HL5.out)
            have HG6 := hide (HG5.out.keepT HX6.out (by decide) (HE5.out.jou (v4.heap.size, Jr.zero) (by simp)).2.2.1 (only_setRow (only_refl _ _) (.inl rfl) #[.slice x4.A x4.rs.length x4.cap, .int .i64 x4.many, .int .i64 x4.synced]))
            refine wpList_store_row rfl 29 (.tmp 16) (.tmp 83) rfl _ #[.slice x4.A x4.rs.length x4.cap, .int .i64 x4.many, .int .i64 x4.synced] rfl rfl 29 _ HX6.out Try.size29 rfl (one29 _ _ _ _ _) ?_
            refine HR.out _ _ ⟨⟨(HE6.out.jou (g2, j2) (by simp)).1, (HE6.out.box (h2, z2) (by simp)).1⟩, HE6.out.bel⟩ ?_
            clear HR
            refine plan3_run (o := ?_) (by simp only [List.getElem?_toArray, List.getElem?_cons_succ, List.getElem?_cons_zero]; rfl) ?_
            intro R HR
            have HX7 := hide (show Blk _ wD.heap.size 25 _ from (HE6.out.box (wD.heap.size, Dsk.zero) (by simp)).1)
            have HE7 := hide (HE6.out.put1d (y := z4) HG6.out HL2.out)
            refine wpList_store_row rfl 25 (.tmp 17) (.tmp 84) rfl _ #[.slice z4.sa z4.ss.length z4.sc, .slice z4.pa z4.ps.length z4.pc, .int .i64 z4.left, .bool z4.stp] rfl rfl 25 _ HX7.out Try.size25 rfl (one25 _ _ _ _ _ _ _ _) ?_
            refine HR.out _ _ ⟨⟨(HE7.out.jou (g2, j2) (by simp)).1, (HE7.out.box (h2, z2) (by simp)).1⟩, HE7.out.bel⟩ ?_
            clear HR
            refine plan3_run (o := ?_) (by simp only [List.getElem?_toArray, List.getElem?_cons_succ, List.getElem?_cons_zero]; rfl) ?_
            intro R HR
            go_wp2_with fail
            refine HR.out _ _ ⟨⟨(HE7.out.jou (g2, j2) (by simp)).1, (HE7.out.box (h2, z2) (by simp)).1⟩, HE7.out.bel⟩ ?_
            clear HR
            refine plan3_done ?_
            go_wp2_with fail
            go_meet
            case rel => exact ⟨_, _, _, _, rfl, rfl, rfl, HK4, HZ4, HE7⟩
          · intro R HR
            have HE4 := hide (HE3.out.freshj (Nat.le_refl _))
            try simp only [World.size_alloc] at HE4
            have HL4 := hide HE3.out.ltj
            try simp only [World.size_alloc] at HL4
            have HI4 := hide (HI3.out.below (below_new _ (.cells #[.slice none 0 0, .int .i64 0, .int .i64 0] 29)))
            go_wp2_with fail
            refine HR.out _ _ ⟨⟨(HE4.out.jou (g2, j2) (by simp)).1, (HE4.out.box (h2, z2) (by simp)).1⟩, HE4.out.bel⟩ ?_
            clear HR
            refine plan3_run (o := ?_) (by simp only [List.getElem?_toArray, List.getElem?_cons_succ, List.getElem?_cons_zero]; rfl) ?_
            intro R HR
            go_wp2_with fail
            (with_reducible refine (jsync_is (n0 := w.heap.size) _ HE4.out.bel.size HK3.out HZ2.out P4.out HI4.out (HE4.out.box (h2, z2) (by simp)).2.2.2).mono ?_)
            rintro e v5 ⟨x5, z5, rfl, hk, hz, hi, hi2, hb⟩
            have HE5 := hide (HE4.out.below hb)
            have HK5 := hide hk
            have HZ5 := hide hz
            have HI5 := hide hi
            have HG5 := hide hi2
            clear hk hz hi hi2 hb
            go_wp2_with fail
            refine HR.out _ _ ⟨⟨(HE5.out.jou (g2, j2) (by simp)).1, (HE5.out.box (h2, z2) (by simp)).1⟩, HE5.out.bel⟩ ?_
            clear HR
            (refine plan3_take (o := ?_) (v := ?_) (by simp only [List.getElem?_toArray, List.getElem?_cons_succ, List.getElem?_cons_zero]; rfl) (yields_run (by rfl) ?_) ?_; rotate_left; (focus (intro w' hw'; skip; go_simp <;> with_reducible rfl)); (simp only [Act.put, List.setIfInBounds_toArray, List.set_cons_zero, List.set_cons_succ]))
            (refine plan3_take (o := ?_) (v := ?_) (by simp only [List.getElem?_toArray, List.getElem?_cons_succ, List.getElem?_cons_zero]; rfl) (yields_run (by rfl) ?_) ?_; rotate_left; (focus (intro w' hw'; skip; go_simp <;> with_reducible rfl)); (simp only [Act.put, List.setIfInBounds_toArray, List.set_cons_zero, List.set_cons_succ]))
            (refine plan3_take (o := ?_) (v := ?_) (by simp only [List.getElem?_toArray, List.getElem?_cons_succ, List.getElem?_cons_zero]; rfl) (yields_run (by rfl) ?_) ?_; rotate_left; (focus (intro w' hw'; skip; go_simp <;> with_reducible rfl)); (simp only [Act.put, List.setIfInBounds_toArray, List.set_cons_zero, List.set_cons_succ]))
            (refine plan3_take (o := ?_) (v := ?_) (by simp only [List.getElem?_toArray, List.getElem?_cons_succ, List.getElem?_cons_zero]; rfl) (yields_run (by rfl) ?_) ?_; rotate_left; (focus (intro w' hw'; skip; go_simp <;> with_reducible rfl)); (simp only [Act.put, List.setIfInBounds_toArray, List.set_cons_zero, List.set_cons_succ]))
            refine plan3_run (o := ?_) (by simp only [List.getElem?_toArray, List.getElem?_cons_succ, List.getElem?_cons_zero]; rfl) ?_
            intro R HR
            have HX6 := hide (show Blk _ v3.heap.size 29 _ from (HE5.out.jou (v3.heap.size, Jr.zero) (by simp)).1)
            have HE6 := hide (HE5.out.put1j (y := x5) HI5.out HL4.out)
            have HG6 := hide (HG5.out.keepT HX6.out (by decide) (HE5.out.jou (v3.heap.size, Jr.zero) (by simp)).2.2.1 (only_setRow (only_refl _ _) (.inl rfl) #[.slice x5.A x5.rs.length x5.cap, .int .i64 x5.many, .int .i64 x5.synced]))
            refine wpList_store_row rfl 29 (.tmp 16) (.tmp 83) rfl _ #[.slice x5.A x5.rs.length x5.cap, .int .i64 x5.many, .int .i64 x5.synced] rfl rfl 29 _ HX6.out Try.size29 rfl (one29 _ _ _ _ _) ?_
            refine HR.out _ _ ⟨⟨(HE6.out.jou (g2, j2) (by simp)).1, (HE6.out.box (h2, z2) (by simp)).1⟩, HE6.out.bel⟩ ?_
            clear HR
            refine plan3_run (o := ?_) (by simp only [List.getElem?_toArray, List.getElem?_cons_succ, List.getElem?_cons_zero]; rfl) ?_
            intro R HR
            have HX7 := hide (show Blk _ wD.heap.size 25 _ from (HE6.out.box (wD.heap.size, Dsk.zero) (by simp)).1)
            have HE7 := hide (HE6.out.put1d (y := z5) HG6.out HL2.out)
            refine wpList_store_row rfl 25 (.tmp 17) (.tmp 84) rfl _ #[.slice z5.sa z5.ss.length z5.sc, .slice z5.pa z5.ps.length z5.pc, .int .i64 z5.left, .bool z5.stp] rfl rfl 25 _ HX7.out Try.size25 rfl (one25 _ _ _ _ _ _ _ _) ?_
            refine HR.out _ _ ⟨⟨(HE7.out.jou (g2, j2) (by simp)).1, (HE7.out.box (h2, z2) (by simp)).1⟩, HE7.out.bel⟩ ?_
            clear HR
            refine plan3_run (o := ?_) (by simp only [List.getElem?_toArray, List.getElem?_cons_succ, List.getElem?_cons_zero]; rfl) ?_
            intro R HR
            go_wp2_with fail
            refine HR.out _ _ ⟨⟨(HE7.out.jou (g2, j2) (by simp)).1, (HE7.out.box (h2, z2) (by simp)).1⟩, HE7.out.bel⟩ ?_
            clear HR
            refine plan3_done ?_
            go_wp2_with fail
            go_meet
            case rel => exact ⟨_, _, _, _, rfl, rfl, rfl, HK5, HZ5, HE7⟩
        · intro R HR
          have HE3 := hide (HE2.out.freshj (Nat.le_refl _))
          try simp only [World.size_alloc] at HE3
          have HL3 := hide HE2.out.ltj
          try simp only [World.size_alloc] at HL3
          go_wp2_with fail
          refine HR.out _ _ ⟨⟨(HE3.out.jou (g2, j2) (by simp)).1, (HE3.out.box (h2, z2) (by simp)).1⟩, HE3.out.bel⟩ ?_
          clear HR
          refine plan3_run (o := ?_) (by simp only [List.getElem?_toArray, List.getElem?_cons_succ, List.getElem?_cons_zero]; rfl) ?_
          intro R HR
          go_wp2_with fail
          (with_reducible refine (jadd_any j2 A1 l1 c1 _ HE3.out.bel.size (HE3.out.jou (g2, j2) (by simp)).2.2.2 (HB.out.below HE3.out.bel) HSB.out).mono ?_)
          rintro e v4 ⟨x4, rfl, hk, hi, hb⟩
          have HE4 := hide (HE3.out.below hb)
          have HK4 := hide (hk.trans (congrArg (fun q => Jk.addAll q (secD l1)) HK2.out))
          have HI4 := hide hi
          clear hk hi hb
          go_wp2_with fail
          refine HR.out _ _ ⟨⟨(HE4.out.jou (g2, j2) (by simp)).1, (HE4.out.box (h2, z2) (by simp)).1⟩, HE4.out.bel⟩ ?_
          clear HR
          refine plan3_run (o := ?_) (by simp only [List.getElem?_toArray, List.getElem?_cons_succ, List.getElem?_cons_zero]; rfl) ?_
          intro R HR
          go_wp2_with fail
          (with_reducible refine (jsync_is (n0 := w.heap.size) _ HE4.out.bel.size HK4.out HZ2.out P4.out HI4.out (HE4.out.box (h2, z2) (by simp)).2.2.2).mono ?_)
          rintro e v5 ⟨x5, z5, rfl, hk, hz, hi, hi2, hb⟩
          have HE5 := hide (HE4.out.below hb)
          have HK5 := hide hk
          have HZ5 := hide hz
          have HI5 := hide hi
          have HG5 := hide hi2
          clear hk hz hi hi2 hb
          go_wp2_with fail
          refine HR.out _ _ ⟨⟨(HE5.out.jou (g2, j2) (by simp)).1, (HE5.out.box (h2, z2) (by simp)).1⟩, HE5.out.bel⟩ ?_
          clear HR
          (refine plan3_take (o := ?_) (v := ?_) (by simp only [List.getElem?_toArray, List.getElem?_cons_succ, List.getElem?_cons_zero]; rfl) (yields_run (by rfl) ?_) ?_; rotate_left; (focus (intro w' hw'; skip; go_simp <;> with_reducible rfl)); (simp only [Act.put, List.setIfInBounds_toArray, List.set_cons_zero, List.set_cons_succ]))
          (refine plan3_take (o := ?_) (v := ?_) (by simp only [List.getElem?_toArray, List.getElem?_cons_succ, List.getElem?_cons_zero]; rfl) (yields_run (by rfl) ?_) ?_; rotate_left; (focus (intro w' hw'; skip; go_simp <;> with_reducible rfl)); (simp only [Act.put, List.setIfInBounds_toArray, List.set_cons_zero, List.set_cons_succ]))
          (refine plan3_take (o := ?_) (v := ?_) (by simp only [List.getElem?_toArray, List.getElem?_cons_succ, List.getElem?_cons_zero]; rfl) (yields_run (by rfl) ?_) ?_; rotate_left; (focus (intro w' hw'; skip; go_simp <;> with_reducible rfl)); (simp only [Act.put, List.setIfInBounds_toArray, List.set_cons_zero, List.set_cons_succ]))
          (refine plan3_take (o := ?_) (v := ?_) (by simp only [List.getElem?_toArray, List.getElem?_cons_succ, List.getElem?_cons_zero]; rfl) (yields_run (by rfl) ?_) ?_; rotate_left; (focus (intro w' hw'; skip; go_simp <;> with_reducible rfl)); (simp only [Act.put, List.setIfInBounds_toArray, List.set_cons_zero, List.set_cons_succ]))
          refine plan3_run (o := ?_) (by simp only [List.getElem?_toArray, List.getElem?_cons_succ, List.getElem?_cons_zero]; rfl) ?_
          intro R HR
          have HX6 := hide (show Blk _ (wD.heap.size + 1) 29 _ from (HE5.out.jou ((wD.heap.size + 1), Jr.zero) (by simp)).1)
          have HE6 := hide (HE5.out.put1j (y := x5) HI5.out HL3.out)
          have HG6 := hide (HG5.out.keepT HX6.out (by decide) (HE5.out.jou ((wD.heap.size + 1), Jr.zero) (by simp)).2.2.1 (only_setRow (only_refl _ _) (.inl rfl) #[.slice x5.A x5.rs.length x5.cap, .int .i64 x5.many, .int .i64 x5.synced]))
          refine wpList_store_row rfl 29 (.tmp 16) (.tmp 83) rfl _ #[.slice x5.A x5.rs.length x5.cap, .int .i64 x5.many, .int .i64 x5.synced] rfl rfl 29 _ HX6.out Try.size29 rfl (one29 _ _ _ _ _) ?_
          refine HR.out _ _ ⟨⟨(HE6.out.jou (g2, j2) (by simp)).1, (HE6.out.box (h2, z2) (by simp)).1⟩, HE6.out.bel⟩ ?_
          clear HR
          refine plan3_run (o := ?_) (by simp only [List.getElem?_toArray, List.getElem?_cons_succ, List.getElem?_cons_zero]; rfl) ?_
          intro R HR
          have HX7 := hide (show Blk _ wD.heap.size 25 _ from (HE6.out.box (wD.heap.size, Dsk.zero) (by simp)).1)
          have HE7 := hide (HE6.out.put1d (y := z5) HG6.out HL2.out)
          refine wpList_store_row rfl 25 (.tmp 17) (.tmp 84) rfl _ #[.slice z5.sa z5.ss.length z5.sc, .slice z5.pa z5.ps.length z5.pc, .int .i64 z5.left, .bool z5.stp] rfl rfl 25 _ HX7.out Try.size25 rfl (one25 _ _ _ _ _ _ _ _) ?_
          refine HR.out _ _ ⟨⟨(HE7.out.jou (g2, j2) (by simp)).1, (HE7.out.box (h2, z2) (by simp)).1⟩, HE7.out.bel⟩ ?_
          clear HR
          refine plan3_run (o := ?_) (by simp only [List.getElem?_toArray, List.getElem?_cons_succ, List.getElem?_cons_zero]; rfl) ?_
          intro R HR
          go_wp2_with fail
          refine HR.out _ _ ⟨⟨(HE7.out.jou (g2, j2) (by simp)).1, (HE7.out.box (h2, z2) (by simp)).1⟩, HE7.out.bel⟩ ?_
          clear HR
          refine plan3_done ?_
          go_wp2_with fail
          go_meet
          case rel => exact ⟨_, _, _, _, rfl, rfl, rfl, HK5, HZ5, HE7⟩
    case rest =>
    obtain ⟨g3, h3, j3, z3, rfl, rfl, rfl, HK3, HZ3, HE3⟩ := hcut
    clear HE2
    generalize wc = w9 at *
    obtain ⟨hbj, -, -, hij⟩ := HE3.out.jou (g3, j3) (by simp)
    obtain ⟨hbx, -, -, hix⟩ := HE3.out.box (h3, z3) (by simp)
    obtain ⟨q0, q1, q2⟩ := hbj.c3
    obtain ⟨e0, e1, e2, e3⟩ := hbx.c4
    have HSY := hide (jsync_is (n0 := w.heap.size) w9 HE3.out.bel.size HK3.out HZ3.out P5.out hij hix)
    clear hbj hij hbx hix
    go_wp2_with fail
    refine HSY.out.mono ?_
    rintro e w10 ⟨j4, z4, rfl, hj, hd, hi, hi2, hb⟩
    have HK4 := hide hj
    have HZ4 := hide hd
    have HE4 := hide (((HE3.out.below hb).newj (Nat.le_refl _) hi).newd (Nat.le_refl _) (hi2.below (below_new _ _)))
    try simp only [World.size_alloc] at HE4
    clear hj hd hi hi2 hb q0 q1 q2 e0 e1 e2 e3 HSY HE3
    obtain ⟨hbx, -, -, hix⟩ := HE4.out.box (h1, z1) (by simp)
    obtain ⟨q0, q1, q2, q3⟩ := hbx.c4
    have HOP := hide (open_is _ HZ1.out P6.out hix)
    clear hbx hix
    go_wp2_with fail
    refine HOP.out.mono ?_
    rintro e w11 ⟨j5, rfl, hj, hi, hb⟩
    have HK5 := hide hj
    have HE5 := hide ((HE4.out.below hb).newj (Nat.le_refl _) hi)
    clear hj hi hb q0 q1 q2 q3 HOP HE4
    obtain ⟨hbx, -, -, hix⟩ := HE5.out.box (w10.heap.size + 1, z4) (by simp)
    obtain ⟨q0, q1, q2, q3⟩ := hbx.c4
    have HOP := hide (open_is _ HZ4.out P7.out hix)
    clear hbx hix
    go_wp2_with fail
    refine HOP.out.mono ?_
    rintro e w12 ⟨j6, rfl, hj, hi, hb⟩
    have HK6 := hide hj
    have HE6 := hide ((HE5.out.below hb).newj (Nat.le_refl _) hi)
    clear hj hi hb q0 q1 q2 q3 HOP HE5
    go_upto_region 16 with (fail)
    generalize hw13 : w12.alloc (.cells #[.slice j6.A j6.rs.length j6.cap, .int .i64 j6.many, .int .i64 j6.synced] 29) = w13 at *
    clear hw13
    have HL1 := hide (show Blk w13 (g1) 29 j1.cs from (HE6.out.jou (g1, j1) (by simp)).1)
    have HL3 := hide (show Blk w13 (g3) 29 j3.cs from (HE6.out.jou (g3, j3) (by simp)).1)
    have HL4 := hide (show Blk w13 (w10.heap.size) 29 j4.cs from (HE6.out.jou (w10.heap.size, j4) (by simp)).1)
    have HL5 := hide (show Blk w13 (w11.heap.size) 29 j5.cs from (HE6.out.jou (w11.heap.size, j5) (by simp)).1)
    have HL6 := hide (show Blk w13 (w12.heap.size) 29 j6.cs from (HE6.out.jou (w12.heap.size, j6) (by simp)).1)
    have HM3 := hide (show Blk w13 (h3) 25 z3.cs from (HE6.out.box (h3, z3) (by simp)).1)
    have HM4 := hide (show Blk w13 (w10.heap.size + 1) 25 z4.cs from (HE6.out.box (w10.heap.size + 1, z4) (by simp)).1)
    have HC1 := hide (show ∀ W, Below w13.heap.size w13 W → Calls Try.prog 14 #[j1.v, j3.v] W fun e w' => e = .returned (.bool true) ∧ Below W.heap.size W w' from fun W hW => by
      have := jsame_any j1 j3 W ((HE6.out.jou (g1, j1) (by simp)).2.2.2.below hW) ((HE6.out.jou (g3, j3) (by simp)).2.2.2.below hW)
      rw [HK1.out, HK3.out, sameJ_self] at this
      exact this)
    have HC2 := hide (show ∀ W, Below w13.heap.size w13 W → Calls Try.prog 14 #[j4.v, j3.v] W fun e w' => e = .returned (.bool true) ∧ Below W.heap.size W w' from fun W hW => by
      have := jsame_any j4 j3 W ((HE6.out.jou (w10.heap.size, j4) (by simp)).2.2.2.below hW) ((HE6.out.jou (g3, j3) (by simp)).2.2.2.below hW)
      rw [HK4.out, HK3.out, sameJ_self] at this
      exact this)
    have HC3 := hide (show ∀ W, Below w13.heap.size w13 W → Calls Try.prog 25 #[.slice j5.A j5.rs.length j5.cap, .slice j6.A j6.rs.length j6.cap] W fun e w' => e = .returned (.bool true) ∧ Below W.heap.size W w' from fun W hW =>
      (srec_any j5.A j5.rs j5.cap j6.A j6.rs j6.cap W ((HE6.out.jou (w11.heap.size, j5) (by simp)).2.2.2.below hW).recs ((HE6.out.jou (w12.heap.size, j6) (by simp)).2.2.2.below hW).recs).mono fun e w' ⟨h, n, hn⟩ => by
        rw [decide_eq_true (show secD j5.rs = secD j6.rs from congrArg Jk.recs (HK5.out.trans HK6.out.symm))] at h
        rw [hn]
        exact ⟨h, below_dn _ W n⟩)
    have HC4 := hide (show ∀ W, Below w13.heap.size w13 W → Calls Try.prog 25 #[.slice j5.A j5.rs.length j5.cap, .slice j1.A j1.rs.length j1.cap] W fun e w' => e = .returned (.bool true) ∧ Below W.heap.size W w' from fun W hW =>
      (srec_any j5.A j5.rs j5.cap j1.A j1.rs j1.cap W ((HE6.out.jou (w11.heap.size, j5) (by simp)).2.2.2.below hW).recs ((HE6.out.jou (g1, j1) (by simp)).2.2.2.below hW).recs).mono fun e w' ⟨h, n, hn⟩ => by
        rw [decide_eq_true (show secD j5.rs = secD j1.rs from congrArg Jk.recs (HK5.out.trans HK1.out.symm))] at h
        rw [hn]
        exact ⟨h, below_dn _ W n⟩)
    have HC5 := hide (fun W (hW : Below w13.heap.size w13 W) => same_any z3 z4 W ((HE6.out.box (h3, z3) (by simp)).2.2.2.below hW) ((HE6.out.box (w10.heap.size + 1, z4) (by simp)).2.2.2.below hW) (HZ3.out.trans HZ4.out.symm))
    have HFB := hide HE6.out.bel
    clear HK0 HK1 HK2 HK3 HK4 HK5 HK6 HZ0 HZ1 HZ2 HZ3 HZ4 HE6 HA HB HSA HSB P1 P2 P3 P4 P5 P6 P7
    have HB0 := hide (Below.refl w13.heap.size w13)
    obtain ⟨q0, q1, q2⟩ := (HL1.out.below HB0.out HL1.out.lt).c3
    obtain ⟨e0, e1, e2⟩ := (HL3.out.below HB0.out HL3.out.lt).c3
    have HCC := hide (HC1.out w13 HB0.out)
    go_wp2_with fail
    refine HCC.out.mono ?_
    rintro e t0 ⟨rfl, hb⟩
    have HB1 := hide (below_one HB0.out hb)
    clear hb HCC q0 q1 q2 e0 e1 e2
    obtain ⟨q0, q1, q2⟩ := (HL4.out.below HB1.out HL4.out.lt).c3
    obtain ⟨e0, e1, e2⟩ := (HL3.out.below HB1.out HL3.out.lt).c3
    have HCC := hide (HC2.out t0 HB1.out)
    go_wp2_with fail
    refine HCC.out.mono ?_
    rintro e t1 ⟨rfl, hb⟩
    have HB2 := hide (below_one HB1.out hb)
    clear hb HCC q0 q1 q2 e0 e1 e2
    obtain ⟨q0, q1, q2⟩ := (HL5.out.below HB2.out HL5.out.lt).c3
    obtain ⟨e0, e1, e2⟩ := (HL6.out.below HB2.out HL6.out.lt).c3
    have HCC := hide (HC3.out t1 HB2.out)
    go_wp2_with fail
    refine HCC.out.mono ?_
    rintro e t2 ⟨rfl, hb⟩
    have HB3 := hide (below_one HB2.out hb)
    clear hb HCC q0 q1 q2 e0 e1 e2
    obtain ⟨q0, q1, q2⟩ := (HL5.out.below HB3.out HL5.out.lt).c3
    obtain ⟨e0, e1, e2⟩ := (HL1.out.below HB3.out HL1.out.lt).c3
    have HCC := hide (HC4.out t2 HB3.out)
    go_wp2_with fail
    refine HCC.out.mono ?_
    rintro e t3 ⟨rfl, hb⟩
    have HB4 := hide (below_one HB3.out hb)
    clear hb HCC q0 q1 q2 e0 e1 e2
    obtain ⟨q0, q1, q2, q3⟩ := (HM3.out.below HB4.out HM3.out.lt).c4
    obtain ⟨e0, e1, e2, e3⟩ := (HM4.out.below HB4.out HM4.out.lt).c4
    have HCC := hide (HC5.out t3 HB4.out)
    go_wp2_with fail
    refine HCC.out.mono ?_
    rintro e t4 ⟨rfl, hb⟩
    have HB5 := hide (below_one HB4.out hb)
    clear hb HCC q0 q1 q2 e0 e1 e2 q3 e3
    have HFF := hide (below_one HFB.out HB5.out)
    go_wp2_with fail
    go_ret
    exact ⟨rfl, HFF.out⟩
end Go.Proofs.Ytgigccgklahddaa
