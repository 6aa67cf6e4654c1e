/- Cut. -/
import Derived.Test.YthmaakiibgdigaaOth
import Derived.Test.YthmaakiibgdigaaSor
import Derived.Test.YthmaakiibgdigaaQud
import Derived.Shelf.Abstract
import Derived.Outline
namespace Go.Proofs.Ythmaakiibgdigaa
open Go.RowKit Go.Shelf
variable {ok : Nat → Prop}
attribute [local go_sem] Oper.semAt_some

theorem Kept.mono {ok ok' : Nat → Prop} {W W' : World} (h : Kept ok W W') (hk : ∀ b, b < W.heap.size → ok' b → ok b) : Kept ok' W W' := ⟨fun b hb ho => h.block b hb (hk b hb ho), h.size⟩
theorem Kept.refl {ok : Nat → Prop} (W : World) : Kept ok W W := ⟨fun _ _ _ => rfl, Nat.le_refl _⟩
theorem Blk.kept {ok : Nat → Prop} {W W' : World} {X T : Nat} {cs : List Value} (h : Blk W X T cs) (k : Kept ok W W') (ho : ok X) : Blk W' X T cs := (k.block X h.lt ho).trans h
/-- Cut's loop under way: what has come lies in a row of the call's own; of what was there only the variable's box has changed. -/
structure CI (w Wr : World) (Ba : Nat) (A : Option Addr) (c : Nat) (pre : List (Int × Int)) (W : World) : Prop where
  box : Blk W Ba 23 [.slice A pre.length c]
  own : W.ownsRow Wr.heap.size 55 2 (.slice A pre.length c) pre.length (pre.flatMap prC)
  kept : Kept (fun b => b ≠ Ba) Wr W
  bel : Below w.heap.size w W
theorem ci_own1 {B : Nat} (w Wr : World) (Ba : Nat) (A : Option Addr) (c : Nat) (pre : List (Int × Int)) (hw : w.heap.size ≤ Wr.heap.size) (hB : Wr.heap.size ≤ B) : OwnFrom B (fun (_ : Unit) W => CI w Wr Ba A c pre W) := fun _ X Y row hs hg hr =>
  ⟨(blk_own (β := Unit) _ _ _).from B () X Y row hs.box hg hr, own_own (β := Unit) B _ _ _ _ _ _ () X Y row hs.own hg hr,
    ⟨fun b hb hk => (hg.block b (Nat.lt_of_lt_of_le hb hs.kept.size) (fun e => by have := (hr b e.symm).1; omega)).trans (hs.kept.block b hb hk), Nat.le_trans hs.kept.size hg.size⟩,
    ownFrom_below (β := Unit) (Nat.le_refl _) (Nat.le_trans hw hB) () X Y row hs.bel hg hr⟩
theorem ci_own {B : Nat} (w Wr : World) (Ba : Nat) (hw : w.heap.size ≤ Wr.heap.size) (hB : Wr.heap.size ≤ B) : OwnFrom B (fun (pre : List (Int × Int)) W => ∃ A c, CI w Wr Ba A c pre W) := fun pre X Y row ⟨A, c, hs⟩ hg hr =>
  ⟨A, c, ci_own1 w Wr Ba A c pre hw hB () X Y row hs hg hr⟩
section
variable {w Wr W w6 : World} {Ba : Nat} {A A6 : Option Addr} {c c6 : Nat} {pre : List (Int × Int)} {x : Int × Int}
theorem CI.below (h : CI w Wr Ba A c pre W) {W' : World} (hb : Below W.heap.size W W') : CI w Wr Ba A c pre W' := ⟨h.box.below hb h.box.lt, own_later h.own hb, h.kept.trans (.below hb), below_one h.bel hb⟩
/-- One more. -/
theorem CI.more (h : CI w Wr Ba A c pre W) (hBa : Ba < Wr.heap.size) (hBw : w.heap.size ≤ Ba) (hown : w6.ownsRow Wr.heap.size 55 2 (.slice A6 (pre.length + 1) c6) (pre.length + 1) (pre.flatMap prC ++ [.int .i64 x.1, .int .i64 x.2])) (hg : (W.alloc (.cells #[.int .i64 x.1, .int .i64 x.2] 55)).grownBy w6 (Value.slice A pre.length c).ownBlock) :
    KeepsFrom Wr.heap.size W (w6.setCell ⟨Ba, 0, none⟩ (.slice A6 (pre.length + 1) c6)) ∧ CI w Wr Ba A6 c6 (pre ++ [x]) (w6.setCell ⟨Ba, 0, none⟩ (.slice A6 (pre.length + 1) c6)) := by
  have ha := below_new W (.cells #[.int .i64 x.1, .int .i64 x.2] 55)
  have hO := own_later h.own ha
  have hz : Wr.heap.size ≤ (W.alloc (.cells #[.int .i64 x.1, .int .i64 x.2] 55)).heap.size := Nat.le_trans h.kept.size ha.size
  have hB : Below Wr.heap.size W w6 := below_app (ha.mono h.kept.size) hO hg (Nat.le_refl _) hz
  have hR6 : Blk w6 Ba 23 [.slice A pre.length c] := h.box.below hB hBa
  have hset : w6.grownBy (w6.setCell ⟨Ba, 0, none⟩ (.slice A6 (pre.length + 1) c6)) (some Ba) := only_setCell (only_refl _ _) (.inl rfl) _
  have hK1 : KeepsFrom Wr.heap.size (W.alloc (.cells #[.int .i64 x.1, .int .i64 x.2] 55)) w6 := (KeepsOthers.of_grownBy hg (own_cells hO)).from _
  refine ⟨(((KeepsOthers.alloc W _).from _).trans hK1).trans ((KeepsOthers.setCell w6 _ _).from _), ⟨?_, ?_, ?_, (h.bel.trans (hB.mono (by omega))).setCell hBw _⟩⟩
  · have := hR6.set 0 (.slice A6 (pre.length + 1) c6)
    simpa using this
  · have := own_only hown hset hR6 (by decide)
    simpa using this
  · exact ⟨fun b hb hk => (hset.block b (Nat.lt_of_lt_of_le hb (Nat.le_trans h.kept.size hB.size)) (by intro e; injection e with e; exact hk e)).trans ((hB.block b hb).trans (h.kept.block b hb hk)), Nat.le_trans h.kept.size (Nat.le_trans hB.size hset.size)⟩
end

theorem pair_ok {a b : Int} (h : partB a b = true) : okPr (pairN a b) = true := by
  simp only [partB, siteB, Bool.and_eq_true, decide_eq_true_eq] at h
  unfold pairN
  rcases Int.lt_trichotomy a b with h1 | h1 | h1
  · rw [Int.min_eq_left (by omega), Int.max_eq_right (by omega)]
    simp only [okPr, partB, siteB, Bool.and_eq_true, decide_eq_true_eq]
    omega
  · omega
  · rw [Int.min_eq_right (by omega), Int.max_eq_left (by omega)]
    simp only [okPr, partB, siteB, Bool.and_eq_true, decide_eq_true_eq]
    omega
theorem pair_rng {p : Int × Int} (h : okPr p = true) : I64 p.1 ∧ I64 p.2 := by
  simp only [okPr, partB, siteB, Bool.and_eq_true, decide_eq_true_eq] at h
  unfold I64
  omega
theorem cut_fin {w Wb : World} {D : Nat} {q : Sl Pkt} {a : Sl (Int × Int)} {x : Nt × Int} (hb : Below w.heap.size w Wb) (hD : w.heap.size ≤ D) (hDo : Wb.heap[D]? = some (.deferred (some []))) (hq : PksIn ok q w) (ha : SlIn prC ok a Wb) (hr : ∀ y ∈ a.l, I64 y.1 ∧ I64 y.2) (hx : x = (⟨q.l.map Pkt.d, a.l⟩, 0)) :
    Ans ok w x (.returned (.tuple #[.agg #[.slice q.A q.l.length q.cap, .slice a.A a.l.length a.cap], .int .i64 0])) (Wb.putObj D (.deferred none)) := by
  have hb2 : Below w.heap.size w (Wb.putObj D (.deferred none)) := hb.trans (below_putObj hD)
  exact ⟨⟨q, a⟩, by rw [hx], by rw [hx]; rfl, ⟨hq.below hb2, (slin_own (β := Unit) (B := 0) a).putObj (s := ()) _ ha (Nat.zero_le _) hDo rfl, hr⟩, hb2⟩

theorem four (w : World) (c0 c1 c2 c3 : List Value) (t0 t1 t2 t3 : Nat) {W : World} (hW : W = (((w.alloc (.cells c0.toArray t0)).alloc (.cells c1.toArray t1)).alloc (.cells c2.toArray t2)).alloc (.cells c3.toArray t3)) :
    Blk W w.heap.size t0 c0 ∧ Blk W (w.heap.size + 1) t1 c1 ∧ Blk W (w.heap.size + 1 + 1) t2 c2 ∧ Blk W (w.heap.size + 1 + 1 + 1) t3 c3 ∧ W.heap.size = w.heap.size + 4 ∧ Below w.heap.size w W := by
  subst hW
  have b0 := (((Blk.new w t0 c0).alloc (.cells c1.toArray t1)).alloc (.cells c2.toArray t2)).alloc (.cells c3.toArray t3)
  have b1 := ((Blk.new (w.alloc (.cells c0.toArray t0)) t1 c1).alloc (.cells c2.toArray t2)).alloc (.cells c3.toArray t3)
  have b2 := (Blk.new ((w.alloc (.cells c0.toArray t0)).alloc (.cells c1.toArray t1)) t2 c2).alloc (.cells c3.toArray t3)
  have b3 := Blk.new (((w.alloc (.cells c0.toArray t0)).alloc (.cells c1.toArray t1)).alloc (.cells c2.toArray t2)) t3 c3
  simp only [World.size_alloc] at b1 b2 b3
  exact ⟨b0, b1, b2, b3, by simp only [World.size_alloc], (((below_new _ _).alloc (by simp) _).alloc (by simp only [World.size_alloc]; omega) _).alloc (by simp only [World.size_alloc]; omega) _⟩
theorem kept_put {ok : Nat → Prop} {W0 W : World} {l : Nat} {o' : Obj} (h : Kept ok W0 W) (hl : W0.heap.size ≤ l) : Kept ok W0 (W.putObj l o') :=
  ⟨fun b hb hk => (World.putObj_heap_other (by omega)).trans (h.block b hb hk), Nat.le_trans h.size (by simp [World.putObj])⟩

set_option maxRecDepth 100000 in
set_option maxHeartbeats 3200000 in
theorem cut_any (n : Net) (a b : Int) (on : Bool) (w : World) (hok : ∀ b, w.heap.size ≤ b → ok b) (hi : n.In ok w) : Calls Try.prog 18 #[n.v, .int .i64 a, .int .i64 b, .bool on] w (Ans ok w (n.d.cut a b on)) := by
  obtain ⟨⟨qA, ql, qc⟩, ⟨aA, al, ac⟩⟩ := n
  have hle : al.length ≤ ac := hi.a.a.le
  have hcap : ac ≤ 9223372036854775807 := hi.a.a.top
  have HB := hide (show Below w.heap.size w ((w.alloc (.cells #[.slice qA ql.length qc, .slice aA al.length ac] 25)).alloc (.cells #[.slice none 0 0, .slice none 0 0] 25)) from (below_new _ _).alloc (by simp) _)
  have HX0 := hide (show Blk ((w.alloc (.cells #[.slice qA ql.length qc, .slice aA al.length ac] 25)).alloc (.cells #[.slice none 0 0, .slice none 0 0] 25)) w.heap.size 25 [.slice qA ql.length qc, .slice aA al.length ac] from (Blk.new w 25 [.slice qA ql.length qc, .slice aA al.length ac]).alloc _)
  have b2 := Blk.new (w.alloc (.cells #[.slice qA ql.length qc, .slice aA al.length ac] 25)) 25 [.slice none 0 0, .slice none 0 0]
  simp only [World.size_alloc] at b2
  have HX2 := hide b2
  clear b2
  have HI := hide hi
  clear hi
  cases hc : (Net.d ⟨⟨qA, ql, qc⟩, ⟨aA, al, ac⟩⟩).chk with
  | false =>
    have HX := hide (show (Net.d ⟨⟨qA, ql, qc⟩, ⟨aA, al, ac⟩⟩).cut a b on = (Nt.zero, 60) by unfold Nt.cut; rw [hc]; rfl)
    have HC := hide (check_no hc ((w.alloc (.cells #[.slice qA ql.length qc, .slice aA al.length ac] 25)).alloc (.cells #[.slice none 0 0, .slice none 0 0] 25)) (HI.out.below HB.out))
    clear hc
    go_enter Try.func18, Try.ntmps18
    go_wp2_with fail
    refine HC.out.mono ?_
    rintro e w1 ⟨rfl, hb⟩
    have HK := hide (below_one HB.out hb)
    have HRR := hide (HX2.out.below hb HX2.out.lt)
    clear hb
    go_wp2_with (refine wpList_store_row rfl 25 (.tmp 8) (.tmp 16) rfl (w.heap.size + 1) #[.slice none 0 0, .slice none 0 0] rfl rfl 25 _ HRR.out Try.size25 rfl (one25 _ _ _ _ _ _) ?_)
    exact bodyPost_ret (v := .tuple #[Net.zero.v, .int .i64 60]) (results_cell_row_tmp rfl _ _ (w.heap.size + 1) 25 #[.slice none 0 0, .slice none 0 0] (0, 0) _ (.int .i64 60) rfl rfl (setRow_heap _ _ _ _ _ _ HRR.out) Try.underlying25 rfl Try.size25) rfl (Ans.zero HX.out (below_setRow HK.out (by omega) _))
  | true =>
    have HC := hide (check_ok hc ((w.alloc (.cells #[.slice qA ql.length qc, .slice aA al.length ac] 25)).alloc (.cells #[.slice none 0 0, .slice none 0 0] 25)) (HI.out.below HB.out))
    cases hp : partB a b with
    | false =>
      have HX := hide (show (Net.d ⟨⟨qA, ql, qc⟩, ⟨aA, al, ac⟩⟩).cut a b on = (Nt.zero, 1) by unfold Nt.cut; rw [hc, hp]; rfl)
      have HE := hide (fun W => parties_is hp W)
      clear hc hp
      go_enter Try.func18, Try.ntmps18
      go_wp2_with fail
      refine HC.out.mono ?_
      rintro e w1 ⟨rfl, hb⟩
      have HK := hide (below_one HB.out hb)
      have HRR := hide (HX2.out.below hb HX2.out.lt)
      clear hb
      go_wp2_with fail
      refine (HE.out _).mono ?_
      rintro e w2 ⟨rfl, rfl⟩
      go_wp2_with (refine wpList_store_row rfl 25 (.tmp 8) (.tmp 21) rfl (w.heap.size + 1) #[.slice none 0 0, .slice none 0 0] rfl rfl 25 _ HRR.out Try.size25 rfl (one25 _ _ _ _ _ _) ?_)
      exact bodyPost_ret (v := .tuple #[Net.zero.v, .int .i64 1]) (results_cell_row_tmp rfl _ _ (w.heap.size + 1) 25 #[.slice none 0 0, .slice none 0 0] (0, 0) _ (.int .i64 1) rfl rfl (setRow_heap _ _ _ _ _ _ HRR.out) Try.underlying25 rfl Try.size25) rfl (Ans.zero HX.out (below_setRow HK.out (by omega) _))
    | true =>
      have HE := hide (fun W => parties_is hp W)
      have hap : apB al = true := by simp only [Nt.chk, Bool.and_eq_true] at hc; exact hc.2
      have hpr : okPr (pairN a b) = true := pair_ok hp
      have HX := hide (show (Net.d ⟨⟨qA, ql, qc⟩, ⟨aA, al, ac⟩⟩).cut a b on = (⟨ql.map Pkt.d, if on then sortL (al.filter (notP (pairN a b)) ++ [pairN a b]) else al.filter (notP (pairN a b))⟩, 0) by
        unfold Nt.cut
        rw [hc, hp]
        cases on
        · exact congrArg (fun x => (Nt.mk _ x, (0 : Int))) (cut_off hap (pairN a b)).symm
        · exact congrArg (fun x => (Nt.mk _ x, (0 : Int))) (cut_on hap (pairN a b) hpr).symm)
      have HAL := hide (ap_len hap)
      have HRG := hide (show I64 (pairN a b).1 ∧ I64 (pairN a b).2 from pair_rng hpr)
      have HA0 := hide (show PrsIn (fun b => b < w.heap.size) ⟨aA, al, ac⟩ w from HI.out.a.weak fun b hb _ => hb)
      clear hc hp hap
      have HPO := hide (fun W => pairOf_any a b W)
      clear hpr
      generalize hpp : pairN a b = p at *
      clear hpp
      refine (callsIn_wide (n := 4)).1 ?_
      refine callsIn_of_wp_marks Try.func18 rfl trivial ?_ rfl
      simp only [Try.ntmps18, List.size_toArray, List.length_cons, List.length_nil, Nat.reduceAdd, Nat.reduceSub, Array.replicate_succ, Array.replicate_zero, List.push_toArray, List.append_toArray, List.nil_append, List.cons_append]
      gi_wp2_with (first | (refine ⟨trivial, ?_⟩; gi_at_call 13; refine (callsIn_wide.2 HC.out).mono ?_; rintro e w1 ⟨rfl, hb⟩; have HK := hide (below_one HB.out hb); have HY0 := hide (HX0.out.below hb HX0.out.lt); have HY1 := hide (HX2.out.below hb HX2.out.lt); clear hb) | (refine ⟨trivial, ?_⟩; gi_at_call 34; refine (callsIn_wide.2 (HE.out _)).mono ?_; rintro e w2 ⟨rfl, rfl⟩; skip) | (refine ⟨trivial, ?_⟩; gi_at_call 35; refine (callsIn_wide.2 (HPO.out _)).mono ?_; rintro e w3 ⟨rfl, hb⟩; have HK3 := hide (below_one HK.out hb); have HZ0 := hide (HY0.out.below hb HY0.out.lt); have HZ1 := hide (HY1.out.below hb HY1.out.lt); have k1 := fun o o2 => ((HZ0.out.alloc o).alloc o2).c2.2; clear hb) | (refine ⟨trivial, ?_⟩; gi_at_call 36; refine (callsIn_wide.2 (others_any _ _ _ _ _)).mono ?_; rintro e w5 ⟨rfl, hw5⟩; have HW5 := hide hw5; clear hw5 k1))
      obtain ⟨H0, H1, H2, H3, hz5, hb5⟩ := four w3 [.int .i64 p.1, .int .i64 p.2] [.slice none 0 0] [.slice aA al.length ac] [.int .i64 p.1, .int .i64 p.2] 55 23 23 55 HW5.out
      have HP5 := hide H0
      have HC1 := hide (And.intro H2 H3)
      have HZ5 := hide hz5
      have HV0 := hide (HZ0.out.below hb5 HZ0.out.lt)
      have HV1 := hide (HZ1.out.below hb5 HZ1.out.lt)
      have HK5 := hide (below_one HK3.out hb5)
      have HZW := hide HK5.out.size
      have HW3 := hide HK3.out.size
      have HCI0 := hide (show CI w w5 (w3.heap.size + 1) none 0 [] w5 from ⟨H1, ⟨by simp, .inl ⟨rfl, rfl⟩⟩, Kept.refl _, HK5.out⟩)
      have HLT := hide (show w.heap.size + 1 < w3.heap.size from HZ1.out.lt)
      clear H0 H1 H2 H3 hz5 hb5 HW5 HZ0 HZ1 HY0 HY1 HX0 HX2 HC HE HPO HK HB
      have hle2 : al.length ≤ 9223372036854775807 := by omega
      obtain ⟨i55, hi55⟩ := hinfo55
      have HI55 := hide hi55
      clear hi55
      refine wp_rangeR2 rfl (by omega) (gf := 46) (lb := #[.pointer (some ⟨w3.heap.size + 1 + 1, 0, none⟩), .pointer (some ⟨w3.heap.size + 1 + 1 + 1, 0, none⟩)]) rfl trivial (enters_of Try.func46 (by kernel_rfl) rfl)
        (others_gives (ok := fun b => b < w.heap.size) (4 - 1) (by omega) (w3.heap.size + 1 + 1) (w3.heap.size + 1 + 1 + 1) aA al ac p w5 (fun A B => Kept (fun b => b ≠ w3.heap.size + 1) w5 A → Kept (fun b => b ≠ w3.heap.size + 1) w5 B)
          (fun W h => ⟨(HA0.out.below HK5.out).keep ((h (Kept.refl _)).mono (fun b _ hk => by have := HW3.out; omega)), (HC1.out.1.kept (h (Kept.refl _)) (by omega)).cell 0, (HC1.out.2.kept (h (Kept.refl _)) (by omega)).c2⟩) (fun A B C h k q => k (h q)) (fun A B h q => q.trans (.below h)) hle2)
        (fun h k q => k (h q)) (fun W l o o' hl _ _ q => kept_put q hl) (Below.refl _ _) (fun _ => rfl)
        (fun pre W => ∃ A c, CI w w5 (w3.heap.size + 1) A c pre W) (ci_own w w5 _ HZW.out (Nat.le_refl _)) ⟨none, 0, HCI0.out⟩
        (fun pre x a' W => ∃ A c Bx, w5.heap.size ≤ Bx ∧ Blk W Bx 55 [.int .i64 x.1, .int .i64 x.2] ∧ CI w w5 (w3.heap.size + 1) A c pre W ∧ a' = { tmps := #[.agg #[.slice qA ql.length qc, .slice aA al.length ac], .int .i64 a, .int .i64 b, .bool on, .pointer (some ⟨w.heap.size, 0, none⟩), undef, undef, undef, .pointer (some ⟨w.heap.size + 1, 0, none⟩), .int .i64 0, .pointer (some ⟨w3.heap.size, 0, none⟩), .pointer (some ⟨w3.heap.size + 1, 0, none⟩), .pointer (some ⟨Bx, 0, none⟩), .agg #[.slice qA ql.length qc, .slice aA al.length ac], .int .i64 0, .bool false, undef, .int .i64 a, .int .i64 b, .bool true, .bool false, undef, .int .i64 a, .int .i64 b, prV p, .pointer (some ⟨w.heap.size, 1, none⟩), .slice aA al.length ac, .agg #[.int .i64 p.1, .int .i64 p.2], .func (.func 46) #[] #[.pointer (some ⟨w3.heap.size + 1 + 1, 0, none⟩), .pointer (some ⟨w3.heap.size + 1 + 1 + 1, 0, none⟩)], prV x, undef, undef, undef, undef, undef, undef, undef, undef, undef, undef, undef, undef, undef, undef], defers := [] })
        (fun pre x a' _ X Y row ⟨A, c, Bx, h1, h2, h3, h4⟩ hg hr => ⟨A, c, Bx, h1, (blk_own (β := Unit) _ _ _).from _ () X Y row h2 hg hr, ci_own1 w w5 _ A c pre HZW.out (Nat.le_refl _) () X Y row h3 hg hr, h4⟩) ?assign ?body ?done
      case assign =>
        rintro l pre ⟨x1, x2⟩ X K ⟨A, c, hI⟩ - hK
        have HII := hide hI
        have hsz := HII.out.kept.size
        clear hI
        gi_wp2
        exact hK _ _ ((KeepsOthers.alloc _ _).from _) (fun q => q.trans (.below (below_new X _))) ⟨A, c, X.heap.size, hsz, Blk.new X 55 [.int .i64 x1, .int .i64 x2], HII.out.below (below_new X _), rfl⟩
      case body =>
        rintro l pre ⟨x1, x2⟩ a' X ⟨A, c, Bx, hBx, hB, hI, rfl⟩ hpl
        have hal := HAL.out
        have HO := hide hI
        obtain ⟨d0, d1⟩ := hB.c2
        simp only at d0 d1
        have k0 : X.cell? ⟨w3.heap.size + 1, 0, none⟩ = some (.slice A pre.length c) := hI.box.cell 0
        have HOW := hide (own_later hI.own (below_new X (.cells #[.int .i64 x1, .int .i64 x2] 55)))
        have hzW : w5.heap.size ≤ (X.alloc (.cells #[.int .i64 x1, .int .i64 x2] 55)).heap.size := by have := hI.kept.size; simp; omega
        have HNC := hide (show ∀ j u, [Value.int .i64 x1, .int .i64 x2][j]? = some u → (X.alloc (.cells #[.int .i64 x1, .int .i64 x2] 55)).cell? ((⟨X.heap.size, 0, none⟩ : Addr).add j) = some u from fun j u hu => new_cells X 55 [.int .i64 x1, .int .i64 x2] _ rfl j u hu)
        have HXB := hide hI.box
        have HXS := hide hI.kept.size
        have HBL := hide (show w3.heap.size + 1 < w5.heap.size by have := HZ5.out; omega)
        clear hB hI
        dsimp only
        gi_wp2_with (gi_at_builtin; refine wpListIn_append_own _ rfl (.tmp 30) (.tmp 32) 23 rfl w5.heap.size 55 i55 _ 2 16 Try.underlying23 HI55.out.1 HI55.out.2.1 HI55.out.2.2.1 HI55.out.2.2.2 rfl (by omega) _ pre.length (pre.flatMap prC) rfl HOW.out ⟨X.heap.size, 0, none⟩ 1 1 [.int .i64 x1, .int .i64 x2] rfl rfl HNC.out (by simp [Value.oneCell']) (by unfold maxLen; omega) (by omega) hzW ?_; intro v' w6 hown hg _; obtain ⟨A6, c6, rfl⟩ := own_form hown; have HOWN := hide hown; have HGR := hide (show (X.alloc (.cells #[.int .i64 x1, .int .i64 x2] 55)).grownBy w6 (Value.slice A pre.length c).ownBlock from hg); have HR6 := hide (HXB.out.below (below_app ((below_new X (.cells #[.int .i64 x1, .int .i64 x2] 55)).mono HXS.out) HOW.out hg (Nat.le_refl _) hzW) HBL.out); have k1 : w6.cell? ⟨w3.heap.size + 1, 0, none⟩ = some (.slice A pre.length c) := HR6.out.cell 0; have f1 := HR6.out.free 0; clear hown hg)
        obtain ⟨m1, m2⟩ := HO.out.more (x := (x1, x2)) HBL.out (by have := HW3.out; omega) HOWN.out HGR.out
        exact ⟨m1, fun _ => m2.kept, A6, c6, m2⟩
      case done =>
        rintro D xs W hD hS ⟨A, c, hI⟩ hK
        have HXS := hide hS
        have HO := hide hI
        have HDK := hide hK
        have HDS := hide hD
        have hlt := HLT.out
        have hw3 := HW3.out
        have hz5 := HZ5.out
        have HVA := hide (HV0.out.kept hI.kept (by omega))
        have HVB := hide (HV1.out.kept hI.kept (by omega))
        have HPA := hide (HP5.out.kept hI.kept (by omega))
        have k0 : W.cell? ⟨w3.heap.size + 1, 0, none⟩ = some (.slice A xs.length c) := hI.box.cell 0
        have hal := HAL.out
        have hxl : xs.length ≤ 276 := by rw [hS]; exact Nat.le_trans (List.length_filter_le _ _) HAL.out
        obtain ⟨c0, c1⟩ := HVA.out.c2
        clear hS hI hK hD
        cases on with
        | false =>
          have f1 := HVA.out.free 1
          have HA5 := hide (HVA.out.set 1 (.slice A xs.length c))
          simp only [List.set_cons_zero, List.set_cons_succ] at HA5
          have HR5 := hide (HVB.out.apart (p := ⟨w.heap.size, 1, none⟩) (by simp) (.slice A xs.length c))
          obtain ⟨e0, e1⟩ := HA5.out.c2
          have HD5 := hide (show ((W.setCell ⟨w.heap.size, 1, none⟩ (.slice A xs.length c)).setRow (w.heap.size + 1) #[.slice qA ql.length qc, .slice A xs.length c]).heap[D]? = some (.deferred (some [])) from (setRow_other _ _ _ _ (by have := HDS.out; omega)).trans ((heap_setCell_other W ⟨w.heap.size, 1, none⟩ D _ (by simp only; have := HDS.out; omega)).trans HDK.out))
          have HSI := hide (own_in (ok := fun b => ok b ∧ w5.heap.size ≤ b) HO.out.own rfl (fun b hb => ⟨hok b (by omega), hb⟩))
          have HKP := hide (show Kept (fun b => ok b ∧ w5.heap.size ≤ b) W ((W.setCell ⟨w.heap.size, 1, none⟩ (.slice A xs.length c)).setRow (w.heap.size + 1) #[.slice qA ql.length qc, .slice A xs.length c]) from (Kept.only (X := w.heap.size) (only_setCell (only_refl _ _) (.inl rfl) _) (fun h => by have := h.2; omega)).trans (Kept.row (fun h => by have := h.2; omega) _))
          have HBL2 := hide (show Below w.heap.size w ((W.setCell ⟨w.heap.size, 1, none⟩ (.slice A xs.length c)).setRow (w.heap.size + 1) #[.slice qA ql.length qc, .slice A xs.length c]) from below_setRow (HO.out.bel.setCell (p := ⟨w.heap.size, 1, none⟩) (Nat.le_refl _) _) (by omega) _)
          gi_wp2_with (refine wpListIn_store_row rfl 25 (.tmp 8) (.tmp 43) rfl (w.heap.size + 1) #[.slice qA ql.length qc, .slice A xs.length c] rfl rfl 25 _ HR5.out Try.size25 rfl (one25 _ _ _ _ _ _) ?_)
          refine ⟨by simp, .inl ⟨_, _, rfl, run_takeDeferred HD5.out, ?_⟩⟩
          refine ⟨_, results_cell_row_tmp rfl _ _ (w.heap.size + 1) 25 #[.slice qA ql.length qc, .slice A xs.length c] (0, 0) _ (.int .i64 0) rfl rfl ((World.putObj_heap_other (by have := HDS.out; have := HLT.out; have := HZ5.out; omega)).trans (setRow_heap _ _ _ _ _ _ HR5.out)) Try.underlying25 rfl Try.size25, ?_⟩
          exact cut_fin (a := ⟨A, xs, c⟩) HBL2.out (by have := HDS.out; omega) HD5.out HI.out.q ((HSI.out.keep HKP.out).weak fun b _ h => h.1) (fun y hy => HI.out.a.r y (List.mem_filter.1 (HXS.out ▸ hy : y ∈ al.filter (notP p))).1) (by rw [HX.out, HXS.out]; rfl)
        | true =>
          obtain ⟨g0, g1⟩ := HPA.out.c2
          have HOW := hide (own_later HO.out.own (below_new W (.cells #[.int .i64 p.1, .int .i64 p.2] 55)))
          have hzW : w5.heap.size ≤ (W.alloc (.cells #[.int .i64 p.1, .int .i64 p.2] 55)).heap.size := by have := HO.out.kept.size; simp; omega
          have HNC := hide (show ∀ j u, [Value.int .i64 p.1, .int .i64 p.2][j]? = some u → (W.alloc (.cells #[.int .i64 p.1, .int .i64 p.2] 55)).cell? ((⟨W.heap.size, 0, none⟩ : Addr).add j) = some u from fun j u hu => new_cells W 55 [.int .i64 p.1, .int .i64 p.2] _ rfl j u hu)
          have HBL := hide (show w3.heap.size + 1 < w5.heap.size by omega)
          gi_wp2_with (gi_at_builtin; refine wpListIn_append_own _ rfl (.tmp 35) (.tmp 37) 23 rfl w5.heap.size 55 i55 _ 2 16 Try.underlying23 HI55.out.1 HI55.out.2.1 HI55.out.2.2.1 HI55.out.2.2.2 rfl (by omega) _ xs.length (xs.flatMap prC) rfl HOW.out ⟨W.heap.size, 0, none⟩ 1 1 [.int .i64 p.1, .int .i64 p.2] rfl rfl HNC.out (by simp [Value.oneCell']) (by unfold maxLen; omega) (by omega) hzW ?_; intro v' w6 hown hg _; obtain ⟨g, c6, rfl, hgb, hgl⟩ := hown.form (by omega); have HOWN := hide hown; have HGR := hide (show (W.alloc (.cells #[.int .i64 p.1, .int .i64 p.2] 55)).grownBy w6 (Value.slice A xs.length c).ownBlock from hg); have HR6 := hide (HO.out.box.below (below_app ((below_new W (.cells #[.int .i64 p.1, .int .i64 p.2] 55)).mono HO.out.kept.size) HOW.out hg (Nat.le_refl _) hzW) HBL.out); have k1 : w6.cell? ⟨w3.heap.size + 1, 0, none⟩ = some (.slice A xs.length c) := HR6.out.cell 0; have f6 := HR6.out.free 0; have HGB := hide (And.intro hgb hgl); clear hown hg hgb hgl)
          have HOR := hide (own_later HO.out.own (below_new W (.cells #[.int .i64 p.1, .int .i64 p.2] 55)))
          have HD6 := hide (show w6.heap[D]? = some (.deferred (some [])) from (HGR.out.block D (by have := (Array.getElem?_eq_some_iff.1 HDK.out).1; simp; omega) (fun e => by
            have h1 := own_cells HOR.out D (.deferred (some [])) e.symm ((Below.heap_alloc _ _ _ (Array.getElem?_eq_some_iff.1 HDK.out).1).trans HDK.out)
            cases h1)).trans ((Below.heap_alloc _ _ _ (Array.getElem?_eq_some_iff.1 HDK.out).1).trans HDK.out))
          have HB6 := hide (show Below w5.heap.size W w6 from below_app ((below_new W (.cells #[.int .i64 p.1, .int .i64 p.2] 55)).mono HO.out.kept.size) HOW.out HGR.out (Nat.le_refl _) hzW)
          have HO7 := hide (own_only HOWN.out (w' := (w6.setCell ⟨w3.heap.size + 1, 0, none⟩ (.slice (some ⟨g, 0, none⟩) (xs.length + 1) c6))) (only_setCell (only_refl _ _) (.inl rfl) _) HR6.out (by decide))
          have HGN := hide (show g ≠ D from fun e => by
            obtain ⟨cs, hcs⟩ := own_blk HOWN.out
            have h1 : w6.heap[g]? = _ := hcs
            rw [e, HD6.out] at h1
            cases h1)
          have HSO := hide (sort_any (ok := fun b => ok b ∧ w5.heap.size ≤ b) w5.heap.size c6 g (xs.length + 1) (xs ++ [p]) (w6.setCell ⟨w3.heap.size + 1, 0, none⟩ (.slice (some ⟨g, 0, none⟩) (xs.length + 1) c6)) (by simp) (by omega) (by rw [List.flatMap_append]; exact HO7.out) ⟨hok g (by have := HGB.out; omega), by have := HGB.out; omega⟩)
          have HR7 := hide (HR6.out.set 0 (.slice (some ⟨g, 0, none⟩) (xs.length + 1) c6))
          simp only [List.set_cons_zero] at HR7
          clear HO7 k1 f6
          gi_wp2_with (first | (refine ⟨trivial, ?_⟩; gi_at_call 37; refine (callsIn_wide.2 HSO.out).mono ?_; rintro e w8 ⟨rfl, hsi, hg8⟩; have HSI := hide hsi; have HG8 := hide hg8; have k8 : w8.cell? ⟨w3.heap.size + 1, 0, none⟩ = some (.slice (some ⟨g, 0, none⟩) (xs.length + 1) c6) := (HR7.out.only hg8 (by have := HGB.out; omega)).cell 0; have HA8 := hide ((((HVA.out.below HB6.out (by omega)).apart (p := ⟨w3.heap.size + 1, 0, none⟩) (by simp only; omega) (.slice (some ⟨g, 0, none⟩) (xs.length + 1) c6)).only hg8 (by have := HGB.out; omega))); have HR8 := hide ((((HVB.out.below HB6.out (by omega)).apart (p := ⟨w3.heap.size + 1, 0, none⟩) (by simp only; omega) (.slice (some ⟨g, 0, none⟩) (xs.length + 1) c6)).only hg8 (by have := HGB.out; omega))); have f8 := HA8.out.free 1; have m0 := HA8.out.c2.1; have m1 := HA8.out.c2.2; have HA9 := hide (HA8.out.set 1 (.slice (some ⟨g, 0, none⟩) (xs.length + 1) c6)); have e0 := HA9.out.c2.1; have e1 := HA9.out.c2.2; have HR5 := hide (HR8.out.apart (p := ⟨w.heap.size, 1, none⟩) (by simp) (.slice (some ⟨g, 0, none⟩) (xs.length + 1) c6)); clear hsi hg8) | (refine wpListIn_store_row rfl 25 (.tmp 8) (.tmp 43) rfl (w.heap.size + 1) #[.slice qA ql.length qc, .slice (some ⟨g, 0, none⟩) (xs.length + 1) c6] rfl rfl 25 _ HR5.out Try.size25 rfl (one25 _ _ _ _ _ _) ?_))
          have HD5 := hide (show ((w8.setCell ⟨w.heap.size, 1, none⟩ (.slice (some ⟨g, 0, none⟩) (xs.length + 1) c6)).setRow (w.heap.size + 1) #[.slice qA ql.length qc, .slice (some ⟨g, 0, none⟩) (xs.length + 1) c6]).heap[D]? = some (.deferred (some [])) from (setRow_other _ _ _ _ (by have := HDS.out; omega)).trans ((heap_setCell_other w8 ⟨w.heap.size, 1, none⟩ D _ (by simp only; have := HDS.out; omega)).trans ((HG8.out.block D (by have := (Array.getElem?_eq_some_iff.1 HD6.out).1; simpa [World.setCell] using this) (by intro e; injection e with e; exact HGN.out e.symm)).trans ((heap_setCell_other w6 ⟨w3.heap.size + 1, 0, none⟩ D _ (by simp only; have := HDS.out; omega)).trans HD6.out))))
          have HKP := hide (show Kept (fun b => ok b ∧ w5.heap.size ≤ b) w8 ((w8.setCell ⟨w.heap.size, 1, none⟩ (.slice (some ⟨g, 0, none⟩) (xs.length + 1) c6)).setRow (w.heap.size + 1) #[.slice qA ql.length qc, .slice (some ⟨g, 0, none⟩) (xs.length + 1) c6]) from (Kept.only (X := w.heap.size) (only_setCell (only_refl _ _) (.inl rfl) _) (fun h => by have := h.2; omega)).trans (Kept.row (fun h => by have := h.2; omega) _))
          have HBL8 := hide (show Below w.heap.size w w8 from below_of_only ((HO.out.bel.trans (HB6.out.mono HZW.out)).setCell (p := ⟨w3.heap.size + 1, 0, none⟩) (by simp only; omega) (.slice (some ⟨g, 0, none⟩) (xs.length + 1) c6)) HG8.out (by have := HGB.out; omega))
          have HBL2 := hide (show Below w.heap.size w ((w8.setCell ⟨w.heap.size, 1, none⟩ (.slice (some ⟨g, 0, none⟩) (xs.length + 1) c6)).setRow (w.heap.size + 1) #[.slice qA ql.length qc, .slice (some ⟨g, 0, none⟩) (xs.length + 1) c6]) from below_setRow (HBL8.out.setCell (p := ⟨w.heap.size, 1, none⟩) (Nat.le_refl _) _) (by omega) _)
          have HSL := hide (show (sortL (xs ++ [p])).length = xs.length + 1 by simp [sortL])
          refine ⟨by simp, .inl ⟨_, _, rfl, run_takeDeferred HD5.out, ?_⟩⟩
          refine ⟨_, results_cell_row_tmp rfl _ _ (w.heap.size + 1) 25 #[.slice qA ql.length qc, .slice (some ⟨g, 0, none⟩) (xs.length + 1) c6] (0, 0) _ (.int .i64 0) rfl rfl ((World.putObj_heap_other (by have := HDS.out; omega)).trans (setRow_heap _ _ _ _ _ _ HR5.out)) Try.underlying25 rfl Try.size25, ?_⟩
          have HFN := cut_fin (ok := ok) (a := ⟨some ⟨g, 0, none⟩, sortL (xs ++ [p]), c6⟩) HBL2.out (by have := HDS.out; omega) HD5.out HI.out.q ((HSI.out.keep HKP.out).weak fun b _ h => h.1) (fun y hy => by
            have h1 : y ∈ xs ++ [p] := List.mem_mergeSort.1 hy
            rcases List.mem_append.1 h1 with h1 | h1
            · exact HI.out.a.r y (List.mem_filter.1 (HXS.out ▸ h1 : y ∈ al.filter (notP p))).1
            · obtain rfl : y = p := by simpa using h1
              exact HRG.out) (x := (Net.d ⟨⟨qA, ql, qc⟩, ⟨aA, al, ac⟩⟩).cut a b true) (by rw [HX.out, HXS.out]; rfl)
          simp only [HSL.out] at HFN
          exact HFN
end Go.Proofs.Ythmaakiibgdigaa
