/- SamePacket, Same, Few. -/
import Derived.Test.YthmaakiibgdigaaIdx
import Derived.Test.YthmaakiibgdigaaPl4
import Derived.Test.YthmaakiibgdigaaApp
import Derived.Laws.IdiomStrings
import Derived.Shelf.Bytes.SlSmallAll
namespace Go.Proofs.Ythmaakiibgdigaa
open Go.RowKit
variable {ok : Nat → Prop}

abbrev str (l : List UInt8) : ByteArray := ⟨l.toArray⟩
theorem SlIn.conv {s : Sec} {W : World} (h : s.In ok W) : (convert 26 9 (.slice s.A s.l.length s.cap)).run Try.prog W = .ok (.string (str s.l)) W := by
  obtain ⟨A, l, cap⟩ := s
  cases l with
  | nil => exact run_convert_bytes_zero W 26 5 Try.underlying26 Try.underlying5 A cap 9 Try.underlying9
  | cons c l =>
    have h2 := h.cels
    rw [fl_bs] at h2
    obtain ⟨b, o, e, hlt, hc⟩ := h2.at (k := 0) (by simp [bs])
    simp only at e
    subst e
    refine run_convert_bytes_back (P := Try.prog) W 26 9 5 ⟨b, o, .none⟩ cap (c :: l) Try.underlying26 Try.underlying5 Try.underlying9 fun j hj => ?_
    rw [Addr.add_mid]
    have := hc j (by rw [bs_len]; exact hj)
    rw [bs_get] at this
    exact this
theorem str_list (l : List UInt8) : (str l).toList = l := by simp [ByteArray.toList_eq]
theorem str_ne (a b : List UInt8) : ((str a).toList == (str b).toList) = (decide (a = b)) := by
  rw [str_list, str_list]
  by_cases h : a = b
  · subst h
    rw [decide_eq_true rfl, beq_self_eq_true]
  · rw [decide_eq_false h]
    exact beq_eq_false_iff_ne.2 h

set_option maxRecDepth 10000 in
set_option maxHeartbeats 1600000 in
theorem samePk_any (p q : Pkt) (w : World) (hp : p.In ok w) (hq : q.In ok w) : Calls Try.prog 22 #[p.v, q.v] w fun e w' => e = .returned (.bool (decide (p.d = q.d))) ∧ Below w.heap.size w w' := by
  have hv1 := fun o o' => ((hp.s.below (below_new w o)).below (below_new _ o')).conv
  have hv2 := fun o o' => ((hq.s.below (below_new w o)).below (below_new _ o')).conv
  obtain ⟨f1, t1, ⟨A1, l1, c1⟩⟩ := p
  obtain ⟨f2, t2, ⟨A2, l2, c2⟩⟩ := q
  have HB := hide (below_two w (.cells #[.int .i64 f1, .int .i64 t1, .slice A1 l1.length c1] 28) (.cells #[.int .i64 f2, .int .i64 t2, .slice A2 l2.length c2] 28))
  replace hv1 := hv1 (.cells #[.int .i64 f1, .int .i64 t1, .slice A1 l1.length c1] 28) (.cells #[.int .i64 f2, .int .i64 t2, .slice A2 l2.length c2] 28)
  replace hv2 := hv2 (.cells #[.int .i64 f1, .int .i64 t1, .slice A1 l1.length c1] 28) (.cells #[.int .i64 f2, .int .i64 t2, .slice A2 l2.length c2] 28)
  simp only at hv1 hv2
  have hne := str_ne l1 l2
  have HD := hide (show (Pkt.d ⟨f1, t1, ⟨A1, l1, c1⟩⟩ = Pkt.d ⟨f2, t2, ⟨A2, l2, c2⟩⟩) ↔ f1 = f2 ∧ t1 = t2 ∧ l1 = l2 by simp [Pkt.d])
  clear hp hq
  by_cases h1 : f1 = f2
  · have e1 : (f1 == f2) = true := by simpa using h1
    by_cases h2 : t1 = t2
    · have e2 : (t1 == t2) = true := by simpa using h2
      by_cases h3 : l1 = l2
      · have HF := hide (decide_eq_true (HD.out.2 ⟨h1, h2, h3⟩))
        rw [decide_eq_true h3] at hne
        clear h1 h2 h3
        generalize str l1 = s1 at hv1 hne
        generalize str l2 = s2 at hv2 hne
        go_enter Try.func22, Try.ntmps22
        go_wp2_with fail
        go_ret
        exact ⟨by rw [HF.out]; rfl, HB.out⟩
      · have HF := hide (decide_eq_false (fun h => h3 (HD.out.1 h).2.2))
        rw [decide_eq_false h3] at hne
        clear h1 h2 h3
        generalize str l1 = s1 at hv1 hne
        generalize str l2 = s2 at hv2 hne
        go_enter Try.func22, Try.ntmps22
        go_wp2_with fail
        go_ret
        exact ⟨by rw [HF.out]; rfl, HB.out⟩
    · have e2 : (t1 == t2) = false := beq_eq_false_iff_ne.2 h2
      have HF := hide (decide_eq_false (fun h => h2 (HD.out.1 h).2.1))
      clear h1 h2 hv1 hv2 hne
      go_enter Try.func22, Try.ntmps22
      go_wp2_with fail
      go_ret
      exact ⟨by rw [HF.out]; rfl, HB.out⟩
  · have e1 : (f1 == f2) = false := beq_eq_false_iff_ne.2 h1
    have HF := hide (decide_eq_false (fun h => h1 (HD.out.1 h).1))
    clear h1 hv1 hv2 hne
    go_enter Try.func22, Try.ntmps22
    go_wp2_with fail
    go_ret
    exact ⟨by rw [HF.out]; rfl, HB.out⟩
theorem samePk_is {p q : Pkt} {b : Bool} (h : decide (p.d = q.d) = b) (w : World) (hp : p.In ok w) (hq : q.In ok w) : Calls Try.prog 22 #[p.v, q.v] w fun e w' => e = .returned (.bool b) ∧ Below w.heap.size w w' := h ▸ samePk_any p q w hp hq

set_option maxRecDepth 10000 in
theorem few_any (n : Net) (w : World) (hi : n.In ok w) : Calls Try.prog 10 #[n.v] w fun e w' => e = .returned (.bool (decide (n.q.l.length ≤ 40) && decide (n.a.l.length ≤ 40))) ∧ Below w.heap.size w w' := by
  obtain ⟨⟨qA, ql, qc⟩, ⟨aA, al, ac⟩⟩ := n
  have hle : ql.length ≤ qc := hi.q.q.le
  have hcap : qc ≤ 9223372036854775807 := hi.q.q.top
  have hle2 : al.length ≤ ac := hi.a.a.le
  have hcap2 : ac ≤ 9223372036854775807 := hi.a.a.top
  have HB := hide (below_new w (.cells #[.slice qA ql.length qc, .slice aA al.length ac] 25))
  clear hi
  by_cases h1 : ql.length ≤ 40
  · have HF1 := hide (decide_eq_true h1)
    have h1' : (ql.length : Int) ≤ 40 := by omega
    by_cases h2 : al.length ≤ 40
    · have HF := hide (show (decide (ql.length ≤ 40) && decide (al.length ≤ 40)) = true by rw [HF1.out, decide_eq_true h2]; rfl)
      have h2' : (al.length : Int) ≤ 40 := by omega
      clear h1 h2
      generalize (decide (ql.length ≤ 40) && decide (al.length ≤ 40)) = r at *
      go_enter Try.func10, Try.ntmps10
      go_wp2_with fail
      go_ret
      exact ⟨by rw [HF.out]; rfl, HB.out⟩
    · have HF := hide (show (decide (ql.length ≤ 40) && decide (al.length ≤ 40)) = false by rw [HF1.out, decide_eq_false h2]; rfl)
      have h2' : decide ((al.length : Int) ≤ 40) = false := decide_eq_false (by omega)
      clear h1 h2
      generalize (decide (ql.length ≤ 40) && decide (al.length ≤ 40)) = r at *
      go_enter Try.func10, Try.ntmps10
      go_wp2_with fail
      go_ret
      exact ⟨by rw [HF.out]; rfl, HB.out⟩
  · have HF := hide (show (decide (ql.length ≤ 40) && decide (al.length ≤ 40)) = false by rw [decide_eq_false h1]; rfl)
    have h1' : decide ((ql.length : Int) ≤ 40) = false := decide_eq_false (by omega)
    clear h1
    generalize (decide (ql.length ≤ 40) && decide (al.length ≤ 40)) = r at *
    go_enter Try.func10, Try.ntmps10
    go_wp2_with fail
    go_ret
    exact ⟨by rw [HF.out]; rfl, HB.out⟩
theorem few_is {n : Net} {b : Bool} (h : (decide (n.q.l.length ≤ 40) && decide (n.a.l.length ≤ 40)) = b) (w : World) (hi : n.In ok w) : Calls Try.prog 10 #[n.v] w fun e w' => e = .returned (.bool b) ∧ Below w.heap.size w w' := h ▸ few_any n w hi

set_option maxRecDepth 100000 in
set_option maxHeartbeats 3200000 in
theorem same_any (a b : Net) (w : World) (ha : a.In ok w) (hb : b.In ok w) (h : a.d = b.d) : Calls Try.prog 15 #[a.v, b.v] w fun e w' => e = .returned (.bool true) ∧ Below w.heap.size w w' := by
  obtain ⟨⟨qA, ql, qc⟩, ⟨aA, al, ac⟩⟩ := a
  obtain ⟨⟨qA', ql', qc'⟩, ⟨aA', al', ac'⟩⟩ := b
  simp only [Net.d, Nt.mk.injEq] at h
  obtain ⟨hq, rfl⟩ := h
  have HA := hide ha
  have HB := hide hb
  have hle1 : ql.length ≤ qc := ha.q.q.le
  have hcap1 : qc ≤ 9223372036854775807 := ha.q.q.top
  have hle2 : al.length ≤ ac := ha.a.a.le
  have hcap2 : ac ≤ 9223372036854775807 := ha.a.a.top
  have l1 : ql'.length = ql.length := by have := congrArg List.length hq; simpa using this.symm
  have HE1 := hide (show ∀ k (h : k < ql.length) (h' : k < ql'.length), (ql[k]).d = (ql'[k]).d from fun k h h' => by
    have e : (ql.map Pkt.d)[k]? = (ql'.map Pkt.d)[k]? := by rw [hq]
    simpa [h, h'] using e)
  have L1 := hide l1
  have HK := hide (below_two w (.cells #[.slice qA ql.length qc, .slice aA al.length ac] 25) (.cells #[.slice qA' ql'.length qc', .slice aA' al.length ac'] 25))
  have b1 := (Blk.new w 25 [.slice qA ql.length qc, .slice aA al.length ac]).alloc (.cells #[.slice qA' ql'.length qc', .slice aA' al.length ac'] 25)
  have b2 := Blk.new (w.alloc (.cells #[.slice qA ql.length qc, .slice aA al.length ac] 25)) 25 [.slice qA' ql'.length qc', .slice aA' al.length ac']
  rw [World.size_alloc] at b2
  have HX1 := hide b1
  have HX2 := hide b2
  have n1 : ((ql.length : Int) != ql'.length) = false := by simp [l1]
  have n2 : ((al.length : Int) != al.length) = false := by simp
  clear ha hb hq l1 b1 b2
  go_enter Try.func15, Try.ntmps15
  go_wp2_with fail
  generalize hw2 : ((w.alloc (.cells #[.slice qA ql.length qc, .slice aA al.length ac] 25)).alloc (.cells #[.slice qA' ql'.length qc', .slice aA' al.length ac'] 25)) = w2 at *
  clear hw2
  go_loopw [5] (fun i wr => ∃ k : Nat, k ≤ ql.length ∧ i = .int .i64 k ∧ Hid (Below w2.heap.size w2 wr)) (fun i _ => ql.length - (intOf i).toNat)
  case atStart => exact ⟨0, Nat.zero_le _, rfl, hide (Below.refl _ _)⟩
  case round =>
    obtain ⟨k, hk, rfl, hb⟩ := hrel
    have HY1 := hide (HX1.out.below hb.out HX1.out.lt)
    have HY2 := hide (HX2.out.below hb.out HX2.out.lt)
    have HBB := hide (below_one HK.out hb.out)
    obtain ⟨c0, c1⟩ := HY1.out.c2
    by_cases hlt : k < ql.length
    · have hlt' : k < ql'.length := by have := L1.out; omega
      have hi0 : (k : Int) < ql.length := by omega
      have hi1 : (k : Int) < ql'.length := by omega
      obtain ⟨b, o, hsa, hb1, d0, d1, d2⟩ := (HA.out.q.below HBB.out).at hlt
      obtain ⟨b', o', hsa', hb2, e0, e1, e2⟩ := (HB.out.q.below HBB.out).at hlt'
      simp only at hsa hsa'
      have HC := hide (fun W (hW : Below w.heap.size w W) => samePk_is (decide_eq_true (HE1.out k hlt hlt')) W ((HA.out.q.below hW).p _ (List.getElem_mem hlt)) ((HB.out.q.below hW).p _ (List.getElem_mem hlt')))
      subst hsa hsa'
      have HD1 := hide (And.intro hb1 (And.intro d0 (And.intro d1 d2)))
      have HD2 := hide (And.intro hb2 (And.intro e0 (And.intro e1 e2)))
      clear hb1 hb2 d0 d1 d2 e0 e1 e2
      generalize ql[k] = s at *
      generalize ql'[k] = s' at *
      go_wp2_with fail
      clear c0 c1
      refine wp_region_plan4 (fun w' => Below wr.heap.size wr w') (.take 0 (.take 1 (.take 2 (.take 3 (.take 4 (.take 5 (.take 6 (.take 7 (.take 8 (.take 9 (.run 10 (.take 11 .done)))))))))))) (by kernel_rfl) (by kernel_rfl) ((Below.refl _ _).drew) ?_
      have HF0 := hide (show Below wr.heap.size wr wr.drew from (Below.refl _ _).drew)
      generalize wr.drew = wD at HF0 ⊢
      (refine plan4_take (o := ?_) (v := ?_) (by simp only [List.getElem?_toArray, List.getElem?_cons_zero]; rfl) (yields_run (by rfl) ?_) ?_; rotate_left; (focus (intro w' hw'; skip; go_simp <;> with_reducible rfl)); (simp only [Act.put, List.setIfInBounds_toArray, List.set_cons_zero, List.set_cons_succ]))
      (refine plan4_take (o := ?_) (v := ?_) (by simp only [List.getElem?_toArray, List.getElem?_cons_succ, List.getElem?_cons_zero]; rfl) (yields_run (by rfl) ?_) ?_; rotate_left; (focus (intro w' hw'; have c0 := (hw'.cell (p := ⟨w.heap.size, 0, none⟩) HY1.out.lt).trans HY1.out.c2.1; go_simp <;> with_reducible rfl)); (simp only [Act.put, List.setIfInBounds_toArray, List.set_cons_zero, List.set_cons_succ]))
      (refine plan4_take (o := ?_) (v := ?_) (by simp only [List.getElem?_toArray, List.getElem?_cons_succ, List.getElem?_cons_zero]; rfl) (yields_run (by rfl) ?_) ?_; rotate_left; (focus (intro w' hw'; skip; go_simp <;> with_reducible rfl)); (simp only [Act.put, List.setIfInBounds_toArray, List.set_cons_zero, List.set_cons_succ]))
      (refine plan4_take (o := ?_) (v := ?_) (by simp only [List.getElem?_toArray, List.getElem?_cons_succ, List.getElem?_cons_zero]; rfl) (yields_run (by rfl) ?_) ?_; rotate_left; (focus (intro w' hw'; skip; go_simp <;> with_reducible rfl)); (simp only [Act.put, List.setIfInBounds_toArray, List.set_cons_zero, List.set_cons_succ]))
      (refine plan4_take (o := ?_) (v := ?_) (by simp only [List.getElem?_toArray, List.getElem?_cons_succ, List.getElem?_cons_zero]; rfl) (yields_run (by rfl) ?_) ?_; rotate_left; (focus (intro w' hw'; have d0 := (hw'.cell (p := ⟨b, o + k * 3, none⟩) HD1.out.1).trans HD1.out.2.1; have d1 := (hw'.cell (p := ⟨b, o + k * 3 + 1, none⟩) HD1.out.1).trans HD1.out.2.2.1; have d2 := (hw'.cell (p := ⟨b, o + k * 3 + 2, none⟩) HD1.out.1).trans HD1.out.2.2.2; go_simp <;> with_reducible rfl)); (simp only [Act.put, List.setIfInBounds_toArray, List.set_cons_zero, List.set_cons_succ]))
      (refine plan4_take (o := ?_) (v := ?_) (by simp only [List.getElem?_toArray, List.getElem?_cons_succ, List.getElem?_cons_zero]; rfl) (yields_run (by rfl) ?_) ?_; rotate_left; (focus (intro w' hw'; skip; go_simp <;> with_reducible rfl)); (simp only [Act.put, List.setIfInBounds_toArray, List.set_cons_zero, List.set_cons_succ]))
      (refine plan4_take (o := ?_) (v := ?_) (by simp only [List.getElem?_toArray, List.getElem?_cons_succ, List.getElem?_cons_zero]; rfl) (yields_run (by rfl) ?_) ?_; rotate_left; (focus (intro w' hw'; have c0 := (hw'.cell (p := ⟨w.heap.size + 1, 0, none⟩) HY2.out.lt).trans HY2.out.c2.1; go_simp <;> with_reducible rfl)); (simp only [Act.put, List.setIfInBounds_toArray, List.set_cons_zero, List.set_cons_succ]))
      (refine plan4_take (o := ?_) (v := ?_) (by simp only [List.getElem?_toArray, List.getElem?_cons_succ, List.getElem?_cons_zero]; rfl) (yields_run (by rfl) ?_) ?_; rotate_left; (focus (intro w' hw'; skip; go_simp <;> with_reducible rfl)); (simp only [Act.put, List.setIfInBounds_toArray, List.set_cons_zero, List.set_cons_succ]))
      (refine plan4_take (o := ?_) (v := ?_) (by simp only [List.getElem?_toArray, List.getElem?_cons_succ, List.getElem?_cons_zero]; rfl) (yields_run (by rfl) ?_) ?_; rotate_left; (focus (intro w' hw'; skip; go_simp <;> with_reducible rfl)); (simp only [Act.put, List.setIfInBounds_toArray, List.set_cons_zero, List.set_cons_succ]))
      (refine plan4_take (o := ?_) (v := ?_) (by simp only [List.getElem?_toArray, List.getElem?_cons_succ, List.getElem?_cons_zero]; rfl) (yields_run (by rfl) ?_) ?_; rotate_left; (focus (intro w' hw'; have d0 := (hw'.cell (p := ⟨b', o' + k * 3, none⟩) HD2.out.1).trans HD2.out.2.1; have d1 := (hw'.cell (p := ⟨b', o' + k * 3 + 1, none⟩) HD2.out.1).trans HD2.out.2.2.1; have d2 := (hw'.cell (p := ⟨b', o' + k * 3 + 2, none⟩) HD2.out.1).trans HD2.out.2.2.2; go_simp <;> with_reducible rfl)); (simp only [Act.put, List.setIfInBounds_toArray, List.set_cons_zero, List.set_cons_succ]))
      refine plan4_run (o := ?_) (by simp only [List.getElem?_toArray, List.getElem?_cons_succ, List.getElem?_cons_zero]; rfl) ?_
      intro R HR
      go_wp2_with fail
      (with_reducible refine (HC.out _ (HBB.out.trans (HF0.out.mono HBB.out.size))).mono ?_)
      rintro e v10 ⟨rfl, hb2⟩
      have HF1 := hide (below_one HF0.out hb2)
      clear hb2
      go_wp2_with fail
      refine HR.out _ _ HF1.out ?_
      clear HR
      (refine plan4_take (o := ?_) (v := ?_) (by simp only [List.getElem?_toArray, List.getElem?_cons_succ, List.getElem?_cons_zero]; rfl) (yields_run (by rfl) ?_) ?_; rotate_left; (focus (intro w' hw'; skip; go_simp <;> with_reducible rfl)); (simp only [Act.put, List.setIfInBounds_toArray, List.set_cons_zero, List.set_cons_succ]))
      refine plan4_done ?_
      go_wp2_with fail
      go_roundw
      case rel => exact ⟨k + 1, by omega, by go_num, hide (below_one hb.out HF1.out)⟩
      case measure => simp [intOf]; omega
    · obtain rfl : k = ql.length := by omega
      clear hlt
      go_wp2_with fail
      go_loopw [6] (fun i wr => ∃ k : Nat, k ≤ al.length ∧ i = .int .i64 k ∧ Hid (Below w2.heap.size w2 wr)) (fun i _ => al.length - (intOf i).toNat)
      case atStart => exact ⟨0, Nat.zero_le _, rfl, hb⟩
      case round =>
        clear c0 c1 HY1 HY2 HBB hb hk
        obtain ⟨k, hk, rfl, hb⟩ := hrel
        have HBB := hide (below_one HK.out hb.out)
        obtain ⟨c0, c1⟩ := (HX1.out.below hb.out HX1.out.lt).c2
        obtain ⟨c2, c3⟩ := (HX2.out.below hb.out HX2.out.lt).c2
        by_cases hlt : k < al.length
        · have hi0 : (k : Int) < al.length := by omega
          obtain ⟨b, o, hsa, hb1, d0, d1⟩ := (HA.out.a.below HBB.out).at hlt
          obtain ⟨b', o', hsa', hb2, e0, e1⟩ := (HB.out.a.below HBB.out).at hlt
          simp only at hsa hsa' d0 d1 e0 e1
          subst hsa hsa'
          rcases hq : al[k] with ⟨q1, q2⟩
          rw [hq] at d0 d1 e0 e1
          clear hq
          have hq : ∀ W, (binOp .neq 55 (.agg #[.int .i64 q1, .int .i64 q2]) (.agg #[.int .i64 q1, .int .i64 q2])).run Try.prog W = .ok (.bool false) W := fun W => by
            have := neq_pr (q1, q2) (q1, q2) W
            rwa [beq_self_eq_true] at this
          go_wp2_with fail
          go_quiet (fail)
          go_wp2_with fail
          go_roundw
          case rel => exact ⟨k + 1, by omega, by go_num, hide (below_drewN hb.out _)⟩
          case measure => simp [intOf]; omega
        · obtain rfl : k = al.length := by omega
          clear hlt
          go_wp2_with fail
          go_ret
          exact ⟨rfl, HBB.out⟩
end Go.Proofs.Ythmaakiibgdigaa
