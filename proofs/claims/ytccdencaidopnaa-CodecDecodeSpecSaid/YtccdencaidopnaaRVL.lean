/- The reference's reader: Value: lists. -/
import Derived.Test.YtccdencaidopnaaRVR
import Derived.Test.YtccdencaidopnaaPlanT
namespace Go.Proofs.Ytccdencaidopnaa
open Go.RowKit
theorem own_slice {w : World} {base e size n : Nat} {v : Value} {xs : List Value} (h : w.ownsRow base e size v n xs) : ∃ A N C, v = .slice A N C := by
  rcases h.2 with ⟨rfl, _⟩ | ⟨g, cap, cur, rfl, _⟩
  · exact ⟨_, _, _, rfl⟩
  · exact ⟨_, _, _, rfl⟩
theorem plan3_named {P : Program} {ops : Array Oper} {Q : Exit → Act → World → Prop} {S : World → Prop} {p : Plan3} {a : Act} {w : World} (h : ∀ W, Hid (W = w) → wpPlan3 P ops Q S p a W) : wpPlan3 P ops Q S p a w := h w rfl


set_option maxRecDepth 10000 in
set_option maxHeartbeats 4000000 in
theorem rvalue_list (d : Nat) (hd16 : d ≤ 16) (ih : ∀ d', d = d' + 1 → RVAt d') (R : Nat) (a : Option Addr) (l : List UInt8) (cap at' : Nat) (n : Int) (w : World) (hn : n = 16 - (d : Int)) (hr : RR R a l cap at' false w) (hl : l.length ≤ 1000000000) (hcap : l.length ≤ cap) (hcap' : cap ≤ 9223372036854775807) (hat : at' < l.length) (h1 : l[at'].toNat = 3) :
    Calls Try.prog 37 #[.pointer (some ⟨R, 0, none⟩), .int .i64 n] w (RVPost R d a l cap at' w) := by
  obtain ⟨i0, hi, hz0, hz1, hz2⟩ := info_parts Try.info24
  have HINF := hide (And.intro hi (And.intro hz0 (And.intro hz1 hz2)))
  clear hi hz0 hz1 hz2
  obtain ⟨b, o, rfl, hbR, hblt, _⟩ := hr.bytes at' hat
  have HBL := hide hblt
  clear hbR hblt
  have IH := hide ih
  have hr4 := hr.alloc Z24
  have HC := hide (next_ok R _ l cap at' false _ hr4 hl hat)
  have HCN := hide (drop_cons hat)
  have hRX : w.heap.size ≠ R := by have := hr.lt; omega
  have HRW := hide hr.lt
  have HX := hide (show ResB (w.alloc Z24) w.heap.size from heap_alloc_new w _)
  generalize l[at'] = c at *
  have HK := hide (show c = 3 from byte_eq (n := 3) h1)
  have b1 : ((c.toNat : Int) == 1) = false := by simp; omega
  have b2 : ((c.toNat : Int) == 2) = false := by simp; omega
  have b3 : ((c.toNat : Int) == 3) = true := by simp; omega
  have HAT := hide hat
  have HNN := hide hn
  clear h1 ih hn
  go_enter Try.func37, Try.ntmps37
  go_wp2_with fail
  refine HC.out.mono ?_
  rintro e w1 ⟨rfl, hr1, hg1⟩
  go_wp2_with fail
  refine (number_any R _ l cap (at' + 1) w1 hr1 (by omega) hl).mono ?_
  rintro e w2 ⟨⟨u, m, rfl, hu, hlu, hm, hr2⟩ | ⟨⟨u0, m, rfl, hu0, hu1, hm, hr2⟩, hno⟩, hg2⟩
  · have HX2 := hide ((HX.out.only hg1 hRX).only hg2 hRX)
    have HG := hide (only_trans (only_trans (only_alloc (only_refl w (some R)) Z24) hg1) hg2)
    have HR2 := hide hr2
    have hmm : at' ≤ m := by
      have h1 := congrArg List.length hlu
      rw [List.length_append, List.length_drop, List.length_drop] at h1
      omega
    have HD := hide (show l.drop at' = 3 :: (numeral u ++ l.drop m) by rw [HCN.out, HK.out, hlu])
    clear hlu hg1 hg2 hr1 hr2
    obtain ⟨y0, y1, y2, yf⟩ := HR2.out.cells
    by_cases hur : u ≤ l.length - m
    · by_cases hd0 : d = 0
      · have hd : decide ((l.length : Int) - (m : Int) < (u : Int)) = false := by simp; omega
        have hn16 : (n == 16) = true := by have := HNN.out; simp; omega
        have HE := hide (show ∀ (t : VT) (rest : List UInt8), t.wf = true → t.dep ≤ d → t.fits → l.drop at' ≠ t.enc ++ rest from fun t r hw hdp hf h => by
          rw [HD.out] at h
          have hk := cons_enc hw h
          have hk3 : t.kind = 3 := by simpa using hk
          rw [VT.dep_eq, if_pos hk3] at hdp
          omega)
        go_wp2_with fail
        go_quiet (fail)
        have HR3 : Hid (RR R (some ⟨b, o, none⟩) l cap m false (w2.drewN nq)) := hide ⟨HR2.out.block, HR2.out.bytes⟩
        have HM := hide HR3.out.mark
        have HX3 := hide ((show ResB (w2.drewN nq) w.heap.size from HX2.out).only HM.out.2 hRX)
        have HG3 := hide (only_trans HG.out (show w2.grownBy (w2.drewN nq) (some R) from ⟨rfl, rfl, rfl, Nat.le_refl _, fun _ _ _ => rfl⟩))
        obtain ⟨⟨x0, x1, x2, x3⟩, xf⟩ := HX3.out.cells
        go_wp2_with fail
        refine bodyPost_ret (v := .agg #[.int .i64 0, .int .i64 0, .string ⟨#[]⟩, .slice none 0 0]) (by simp [results, Try.results37, go_sem, x0, x1, x2, x3]) rfl ?_
        exact ⟨.inr ⟨⟨_, m, rfl, ⟨0, 0, ⟨#[]⟩, none, 0, 0, rfl⟩, hm, HM.out.1.put4 HX3.out hRX _ _ _ _⟩, HE.out⟩, put4_only (only_trans HG3.out HM.out.2) (Nat.le_refl _) _ _ _ _⟩
      · have hd : decide ((l.length : Int) - (m : Int) < (u : Int)) = false := by simp; omega
        have hn16 : (n == 16) = false := by have := HNN.out; simp; omega
        have hnr : 0 ≤ n ∧ n ≤ 15 := by have := HNN.out; omega
        obtain ⟨d', rfl⟩ : ∃ d', d = d' + 1 := ⟨d - 1, by omega⟩
        have HI := hide (IH.out d' rfl)
        clear IH
        have HSW := hide (show w.heap.size < w2.heap.size by have := (Array.getElem?_eq_some_iff.1 HX2.out).1; exact this)
        go_wp2_with fail
        go_quiet (fail)
        have HRA : Hid (RR R (some ⟨b, o, none⟩) l cap m false ((w2.drewN nq).alloc Z24)) := hide ((show RR R (some ⟨b, o, none⟩) l cap m false (w2.drewN nq) from ⟨HR2.out.block, HR2.out.bytes⟩).alloc Z24)
        have HX8 := hide (show ResB ((w2.drewN nq).alloc Z24) w2.heap.size from heap_alloc_new (w2.drewN nq) _)
        have HSZ8 : Hid (((put4 ((w2.drewN nq).alloc Z24) w2.heap.size (.int .i64 3) (.int .i64 0) (.string ⟨#[]⟩) (.slice none 0 0)) : World).heap.size = w2.heap.size + 1) := hide (by rw [put4_size]; simp)
        have HRL : Hid (RR R (some ⟨b, o, none⟩) l cap m false (put4 ((w2.drewN nq).alloc Z24) w2.heap.size (.int .i64 3) (.int .i64 0) (.string ⟨#[]⟩) (.slice none 0 0))) := hide (HRA.out.put4 HX8.out (by have := HRW.out; have := HSW.out; omega) _ _ _ _)
        have HBL8 : Hid (B8 (put4 ((w2.drewN nq).alloc Z24) w2.heap.size (.int .i64 3) (.int .i64 0) (.string ⟨#[]⟩) (.slice none 0 0)) w2.heap.size (.slice none 0 0)) := hide (HX8.out.put _ _ _ _)
        have HXL : Hid (w.heap.size < w2.heap.size) := HSW
        have HXW : Hid (ResB (put4 ((w2.drewN nq).alloc Z24) w2.heap.size (.int .i64 3) (.int .i64 0) (.string ⟨#[]⟩) (.slice none 0 0)) w.heap.size) := hide ((put4_block _ _ _ _ _ _ _ (by have := HSW.out; omega)).trans ((Below.heap_alloc _ _ _ HSW.out).trans HX2.out))
        have HGL : Hid (w.grownBy (put4 ((w2.drewN nq).alloc Z24) w2.heap.size (.int .i64 3) (.int .i64 0) (.string ⟨#[]⟩) (.slice none 0 0)) (some R)) := hide (put4_only (only_alloc (only_drewN HG.out nq) _) (Nat.le_of_lt HSW.out) _ _ _ _)
        obtain ⟨⟨x0, x1, x2, x3⟩, xf⟩ := HX8.out.cells
        go_wp2_with fail
        clear x0 x1 x2 x3 xf y0 y1 y2 yf hd hn16 HRA HX8 HX2 HG HR2 HCN HC HX hr hr4
        go_loopw [9] (fun i wr => ∃ (k : Nat) (x : Value), i = .int .u64 k ∧ k ≤ u ∧ Hid (B8 wr w2.heap.size x ∧ ResB wr w.heap.size ∧ w.grownBy wr (some R) ∧ w2.heap.size + 1 ≤ wr.heap.size) ∧ ((∃ els p, Hid (LO R (some ⟨b, o, none⟩) l cap m d' (w2.heap.size + 1) k x els p wr)) ∨ Hid (LB R (some ⟨b, o, none⟩) l cap at' (d' + 1) x wr))) (fun i _ => u - (intOf i).toNat)
        case atStart => exact ⟨0, .slice none 0 0, rfl, Nat.zero_le _, hide ⟨HBL8.out, HXW.out, HGL.out, Nat.le_of_eq HSZ8.out.symm⟩, .inl ⟨[], m, hide ⟨rfl, rfl, Nat.le_refl _, hm, rfl, fun i h => by simp at h, Els.nil _ _ _, World.ownsRow_nil _ (w2.heap.size + 1) 24 4, HRL.out⟩⟩⟩
        case round =>
          clear HBL8 HXW HGL HSZ8 HRL
          obtain ⟨k, x, rfl, hku, HW, hor⟩ := hrel
          rcases hor with ⟨els, p, HLO⟩ | HLB
          · obtain ⟨y0, y1, y2, yf⟩ := HLO.out.rr.cells
            by_cases hlt : k < u
            · have hul : u ≤ l.length := by omega
              go_wp2_with fail
              clear y0 y1 y2 yf
              refine wp_region_plan3 (fun _ => True) (.take 0 (.take 2 (.take 3 (.take 4 (.both 1 (.run 5 (.run 6 (.run 7 (.take 8 (.run 9 .done))))) 5 (.both 1 (.run 6 (.run 7 (.take 8 (.run 9 .done)))) 6 (.run 1 (.run 7 (.take 8 (.run 9 .done)))))))))) (by kernel_rfl) (by kernel_rfl) trivial ?_
              refine plan3_named ?_
              intro Wd HWd
              have HLO' : Hid (LO R (some ⟨b, o, none⟩) l cap m d' (w2.heap.size + 1) k x els p Wd) := by
                have e : Wd = wr.drew := HWd.out
                subst e
                exact hide ⟨HLO.out.len, HLO.out.eq, HLO.out.le, HLO.out.pl, HLO.out.wf, HLO.out.dep, fun t ht => ⟨((HLO.out.there t ht).1).move (fun _ _ => rfl), (HLO.out.there t ht).2⟩, HLO.out.own.drew, HLO.out.rr.drew⟩
              have HB8 : Hid (B8 Wd w2.heap.size x) := by
                have e : Wd = wr.drew := HWd.out
                subst e
                exact hide HW.out.1
              have HXR : Hid (ResB Wd w.heap.size ∧ w.heap.size < Wd.heap.size) := by
                have e : Wd = wr.drew := HWd.out
                subst e
                exact hide ⟨HW.out.2.1, (Array.getElem?_eq_some_iff.1 HW.out.2.1).1⟩
              have HGW : Hid (w.grownBy Wd (some R)) := by
                have e : Wd = wr.drew := HWd.out
                subst e
                exact hide (only_drew HW.out.2.2.1)
              have HB0 : Hid (w2.heap.size + 1 ≤ Wd.heap.size) := by
                have e : Wd = wr.drew := HWd.out
                subst e
                exact hide HW.out.2.2.2
              have hx : Wd.cell? ⟨w2.heap.size, 3, none⟩ = some x := HB8.out.cells.1.2.2.2
              clear HWd HLO HW
              have HLO := HLO'
              clear HLO'
              (refine plan3_take (o := ?_) (v := ?_) (by simp only [List.getElem?_toArray, List.getElem?_cons_zero]; rfl) (yields_run (by rfl) ?_) ?_; rotate_left; (focus (intro w' _; go_simp <;> with_reducible rfl)); (simp only [Act.put, List.setIfInBounds_toArray, List.set_cons_zero, List.set_cons_succ]))
              (refine plan3_take (o := ?_) (v := ?_) (by simp only [List.getElem?_toArray, List.getElem?_cons_succ, List.getElem?_cons_zero]; rfl) (yields_run (by rfl) ?_) ?_; rotate_left; (focus (intro w' _; go_simp <;> with_reducible rfl)); (simp only [Act.put, List.setIfInBounds_toArray, List.set_cons_zero, List.set_cons_succ]))
              (refine plan3_take (o := ?_) (v := ?_) (by simp only [List.getElem?_toArray, List.getElem?_cons_succ, List.getElem?_cons_zero]; rfl) (yields_run (by rfl) ?_) ?_; rotate_left; (focus (intro w' _; go_simp <;> with_reducible rfl)); (simp only [Act.put, List.setIfInBounds_toArray, List.set_cons_zero, List.set_cons_succ]))
              (refine plan3_take (o := ?_) (v := ?_) (by simp only [List.getElem?_toArray, List.getElem?_cons_succ, List.getElem?_cons_zero]; rfl) (yields_run (by rfl) ?_) ?_; rotate_left; (focus (intro w' _; go_simp <;> with_reducible rfl)); (simp only [Act.put, List.setIfInBounds_toArray, List.set_cons_zero, List.set_cons_succ]))
              refine plan3_both (o1 := ?_) (o2 := ?_) (by simp only [List.getElem?_toArray, List.getElem?_cons_succ, List.getElem?_cons_zero]; rfl) (by simp only [List.getElem?_toArray, List.getElem?_cons_succ, List.getElem?_cons_zero]; rfl) ?_ ?_
              · intro R0 HR
                go_wp2_with fail
                refine HR.out _ _ trivial ?_
                clear HR
                refine plan3_run (o := ?_) (by simp only [List.getElem?_toArray, List.getElem?_cons_succ, List.getElem?_cons_zero]; rfl) ?_
                intro R0 HR
                clear hx
                go_wp2_with fail
                refine (HI.out R _ l cap p (n + 1) Wd (by have := HNN.out; omega) HLO.out.rr HLO.out.pl hl hcap hcap').mono ?_
                rintro e Wc1 he
                obtain ⟨kk, mm, ss, AA, NN, CC, q, bd, rfl, hone⟩ := he.one
                have HON : Hid (RVOne R d' (some ⟨b, o, none⟩) l cap p Wd kk mm ss AA NN CC q bd Wc1) := hide hone
                have HB8' : Hid (B8 Wc1 w2.heap.size x) := hide ((hone.2.2.1.block _ HB8.out.lt (fun e => by have := HRW.out; have := HSW.out; injection e with e; omega)).trans HB8.out)
                have hx : Wc1.cell? ⟨w2.heap.size, 3, none⟩ = some x := HB8'.out.cells.1.2.2.2
                clear HB8 hone he
                have HB8 := HB8'
                clear HB8'
                go_wp2_with fail
                refine HR.out _ _ trivial ?_
                clear HR
                refine plan3_run (o := ?_) (by simp only [List.getElem?_toArray, List.getElem?_cons_succ, List.getElem?_cons_zero]; rfl) ?_
                intro R0 HR
                go_wp2_with fail
                refine HR.out _ _ trivial ?_
                clear HR
                refine plan3_named ?_
                intro Wc2 HWn
                have HEQ : Hid (Wc2 = Wc1.alloc (.cells #[.int .i64 kk, .int .i64 mm, .string ss, .slice AA NN CC] 24)) := HWn
                have HB8' : Hid (B8 Wc2 w2.heap.size x) := by
                  have e : Wc2 = Wc1.alloc (.cells #[.int .i64 kk, .int .i64 mm, .string ss, .slice AA NN CC] 24) := HWn.out
                  rw [e]
                  exact hide ((Below.heap_alloc _ _ _ HB8.out.lt).trans HB8.out)
                have hx : Wc2.cell? ⟨w2.heap.size, 3, none⟩ = some x := HB8'.out.cells.1.2.2.2
                clear HB8 HWn
                have HB8 := HB8'
                clear HB8'
                refine plan3_run (o := ?_) (by simp only [List.getElem?_toArray, List.getElem?_cons_succ, List.getElem?_cons_zero]; rfl) ?_
                intro R0 HR
                clear hx
                obtain rfl : Wc2 = Wc1.alloc (.cells #[.int .i64 kk, .int .i64 mm, .string ss, .slice AA NN CC] 24) := HEQ.out
                have hown3 := HLO.out.own.kept HON.out.2.2.1 (.inr (fun e => by have := (HLO.out.own.lt R e).1; have := HRW.out; have := HSW.out; omega))
                have hsz3 := HON.out.2.2.1.size
                refine wpList_append_lies _ rfl (.tmp 129) (.tmp 134) 22 rfl (w2.heap.size + 1) 24 i0 _ 4 56 Try.underlying22 HINF.out.1 HINF.out.2.1 HINF.out.2.2.1 HINF.out.2.2.2 rfl (by decide) x k (cellsOf els) rfl (hown3.alloc _) ⟨Wc1.heap.size, 0, none⟩ 1 1 [.int .i64 kk, .int .i64 mm, .string ss, .slice AA NN CC] rfl rfl (World.news_of_block (cs := #[.int .i64 kk, .int .i64 mm, .string ss, .slice AA NN CC]) (t := 24) (fr := (0, 0)) (heap_alloc_new Wc1 _)) (by simp [Value.oneCell']) (by omega) (by unfold maxLen; omega) (by omega) (by have := HB0.out; simp; omega) (Wc1.heap.size + 1) (by simp) ?_
                intro g cp w4 hown4 hg4 hat4 _
                have HFIN := hide (And.intro hown4 (And.intro hg4 hat4))
                have HB8' : Hid (B8 w4 w2.heap.size x) := hide ((hg4.block _ HB8.out.lt (fun e => by have := (HLO.out.own.lt _ e.symm).1; omega)).trans HB8.out)
                have HXX : Hid (ResB w4 w.heap.size) := hide ((hg4.block _ (by have := HXR.out.2; simp; omega) (fun e => by have := (HLO.out.own.lt _ e.symm).1; have := HXL.out; omega)).trans ((Below.heap_alloc _ _ _ (by have := HXR.out.2; omega)).trans ((HON.out.2.2.1.block _ (by have := HXR.out.2; omega) (fun e => by injection e with e; exact hRX e)).trans HXR.out.1)))
                have HGG : Hid (w.grownBy w4 (some R)) := hide (own_only (only_alloc (only_trans HGW.out HON.out.2.2.1) _) hg4 (fun k' e => by have := (HLO.out.own.lt k' e).1; have := HXL.out; omega))
                have HSS : Hid (w2.heap.size + 1 ≤ w4.heap.size) := hide (by have h0 := HB0.out; have h1 := hg4.size; have h2 := HON.out.2.2.1.size; simp at h1; omega)
                clear hown4 hg4 hat4 hown3 hsz3 HB8
                have HB8 := HB8'
                clear HB8'
                refine HR.out _ _ trivial ?_
                clear HR
                (simp only [Act.put, List.setIfInBounds_toArray, List.set_cons_zero, List.set_cons_succ])
                (refine plan3_take (o := ?_) (v := ?_) (by simp only [List.getElem?_toArray, List.getElem?_cons_succ, List.getElem?_cons_zero]; rfl) (yields_run (by rfl) ?_) ?_; rotate_left; (focus (intro w' _; go_simp <;> with_reducible rfl)); (simp only [Act.put, List.setIfInBounds_toArray, List.set_cons_zero, List.set_cons_succ]))
                refine plan3_run (o := ?_) (by simp only [List.getElem?_toArray, List.getElem?_cons_succ, List.getElem?_cons_zero]; rfl) ?_
                intro R0 HR
                obtain ⟨⟨_, _, _, hx⟩, hxf⟩ := HB8.out.cells
                go_wp2_with fail
                refine HR.out _ _ trivial ?_
                clear HR hx hxf
                refine plan3_done ?_
                have HOR := hide (LO.round HLO.out HON.out (by have := HRW.out; have := HSW.out; omega) (Nat.lt_succ_self _) HB0.out (fun b' o' e => by injection e with e; injection e with e1 e2; have := HBL.out; have := HSW.out; omega) HFIN.out.1 HFIN.out.2.1 HFIN.out.2.2 HD.out hu hlt)
                have HB8' := hide (HB8.out.set (.slice (some ⟨g, 0, none⟩) (k + 1) cp))
                have HXX' : Hid (ResB (w4.setCell ⟨w2.heap.size, 3, none⟩ (.slice (some ⟨g, 0, none⟩) (k + 1) cp)) w.heap.size) := hide ((Below.heap_setCell _ _ _ _ (show w.heap.size ≠ w2.heap.size by have := HXL.out; omega)).trans HXX.out)
                have HGG' : Hid (w.grownBy (w4.setCell ⟨w2.heap.size, 3, none⟩ (.slice (some ⟨g, 0, none⟩) (k + 1) cp)) (some R)) := hide (only_setCell HGG.out (.inr (show w.heap.size ≤ w2.heap.size by have := HXL.out; omega)) _)
                have HSS' : Hid (w2.heap.size + 1 ≤ (w4.setCell ⟨w2.heap.size, 3, none⟩ (.slice (some ⟨g, 0, none⟩) (k + 1) cp)).heap.size) := hide (by have := HSS.out; simpa using this)
                clear HB8 HXX HGG HSS HFIN HON HLO HB0 HGW HXR
                go_wp2_with fail
                go_roundw
                case rel => exact ⟨k + 1, (.slice (some ⟨g, 0, none⟩) (k + 1) cp), by go_num, by omega, hide ⟨HB8'.out, HXX'.out, HGG'.out, HSS'.out⟩, HOR.out.elim (fun ⟨e, p', h⟩ => .inl ⟨e, p', hide h⟩) (fun h => .inr (hide h))⟩
                case measure => simp [intOf]; omega
              · intro R0 HR
                clear hx
                go_wp2_with fail
                refine (HI.out R _ l cap p (n + 1) Wd (by have := HNN.out; omega) HLO.out.rr HLO.out.pl hl hcap hcap').mono ?_
                rintro e Wc3 he
                obtain ⟨kk, mm, ss, AA, NN, CC, q, bd, rfl, hone⟩ := he.one
                have HON : Hid (RVOne R d' (some ⟨b, o, none⟩) l cap p Wd kk mm ss AA NN CC q bd Wc3) := hide hone
                have HB8' : Hid (B8 Wc3 w2.heap.size x) := hide ((hone.2.2.1.block _ HB8.out.lt (fun e => by have := HRW.out; have := HSW.out; injection e with e; omega)).trans HB8.out)
                have hx : Wc3.cell? ⟨w2.heap.size, 3, none⟩ = some x := HB8'.out.cells.1.2.2.2
                clear HB8 hone he
                have HB8 := HB8'
                clear HB8'
                go_wp2_with fail
                refine HR.out _ _ trivial ?_
                clear HR
                refine plan3_both (o1 := ?_) (o2 := ?_) (by simp only [List.getElem?_toArray, List.getElem?_cons_succ, List.getElem?_cons_zero]; rfl) (by simp only [List.getElem?_toArray, List.getElem?_cons_succ, List.getElem?_cons_zero]; rfl) ?_ ?_
                · intro R0 HR
                  go_wp2_with fail
                  refine HR.out _ _ trivial ?_
                  clear HR
                  refine plan3_run (o := ?_) (by simp only [List.getElem?_toArray, List.getElem?_cons_succ, List.getElem?_cons_zero]; rfl) ?_
                  intro R0 HR
                  go_wp2_with fail
                  refine HR.out _ _ trivial ?_
                  clear HR
                  refine plan3_named ?_
                  intro Wc4 HWn
                  have HEQ : Hid (Wc4 = Wc3.alloc (.cells #[.int .i64 kk, .int .i64 mm, .string ss, .slice AA NN CC] 24)) := HWn
                  have HB8' : Hid (B8 Wc4 w2.heap.size x) := by
                    have e : Wc4 = Wc3.alloc (.cells #[.int .i64 kk, .int .i64 mm, .string ss, .slice AA NN CC] 24) := HWn.out
                    rw [e]
                    exact hide ((Below.heap_alloc _ _ _ HB8.out.lt).trans HB8.out)
                  have hx : Wc4.cell? ⟨w2.heap.size, 3, none⟩ = some x := HB8'.out.cells.1.2.2.2
                  clear HB8 HWn
                  have HB8 := HB8'
                  clear HB8'
                  refine plan3_run (o := ?_) (by simp only [List.getElem?_toArray, List.getElem?_cons_succ, List.getElem?_cons_zero]; rfl) ?_
                  intro R0 HR
                  clear hx
                  obtain rfl : Wc4 = Wc3.alloc (.cells #[.int .i64 kk, .int .i64 mm, .string ss, .slice AA NN CC] 24) := HEQ.out
                  have hown3 := HLO.out.own.kept HON.out.2.2.1 (.inr (fun e => by have := (HLO.out.own.lt R e).1; have := HRW.out; have := HSW.out; omega))
                  have hsz3 := HON.out.2.2.1.size
                  refine wpList_append_lies _ rfl (.tmp 129) (.tmp 134) 22 rfl (w2.heap.size + 1) 24 i0 _ 4 56 Try.underlying22 HINF.out.1 HINF.out.2.1 HINF.out.2.2.1 HINF.out.2.2.2 rfl (by decide) x k (cellsOf els) rfl (hown3.alloc _) ⟨Wc3.heap.size, 0, none⟩ 1 1 [.int .i64 kk, .int .i64 mm, .string ss, .slice AA NN CC] rfl rfl (World.news_of_block (cs := #[.int .i64 kk, .int .i64 mm, .string ss, .slice AA NN CC]) (t := 24) (fr := (0, 0)) (heap_alloc_new Wc3 _)) (by simp [Value.oneCell']) (by omega) (by unfold maxLen; omega) (by omega) (by have := HB0.out; simp; omega) (Wc3.heap.size + 1) (by simp) ?_
                  intro g cp w4 hown4 hg4 hat4 _
                  have HFIN := hide (And.intro hown4 (And.intro hg4 hat4))
                  have HB8' : Hid (B8 w4 w2.heap.size x) := hide ((hg4.block _ HB8.out.lt (fun e => by have := (HLO.out.own.lt _ e.symm).1; omega)).trans HB8.out)
                  have HXX : Hid (ResB w4 w.heap.size) := hide ((hg4.block _ (by have := HXR.out.2; simp; omega) (fun e => by have := (HLO.out.own.lt _ e.symm).1; have := HXL.out; omega)).trans ((Below.heap_alloc _ _ _ (by have := HXR.out.2; omega)).trans ((HON.out.2.2.1.block _ (by have := HXR.out.2; omega) (fun e => by injection e with e; exact hRX e)).trans HXR.out.1)))
                  have HGG : Hid (w.grownBy w4 (some R)) := hide (own_only (only_alloc (only_trans HGW.out HON.out.2.2.1) _) hg4 (fun k' e => by have := (HLO.out.own.lt k' e).1; have := HXL.out; omega))
                  have HSS : Hid (w2.heap.size + 1 ≤ w4.heap.size) := hide (by have h0 := HB0.out; have h1 := hg4.size; have h2 := HON.out.2.2.1.size; simp at h1; omega)
                  clear hown4 hg4 hat4 hown3 hsz3 HB8
                  have HB8 := HB8'
                  clear HB8'
                  refine HR.out _ _ trivial ?_
                  clear HR
                  (simp only [Act.put, List.setIfInBounds_toArray, List.set_cons_zero, List.set_cons_succ])
                  (refine plan3_take (o := ?_) (v := ?_) (by simp only [List.getElem?_toArray, List.getElem?_cons_succ, List.getElem?_cons_zero]; rfl) (yields_run (by rfl) ?_) ?_; rotate_left; (focus (intro w' _; go_simp <;> with_reducible rfl)); (simp only [Act.put, List.setIfInBounds_toArray, List.set_cons_zero, List.set_cons_succ]))
                  refine plan3_run (o := ?_) (by simp only [List.getElem?_toArray, List.getElem?_cons_succ, List.getElem?_cons_zero]; rfl) ?_
                  intro R0 HR
                  obtain ⟨⟨_, _, _, hx⟩, hxf⟩ := HB8.out.cells
                  go_wp2_with fail
                  refine HR.out _ _ trivial ?_
                  clear HR hx hxf
                  refine plan3_done ?_
                  have HOR := hide (LO.round HLO.out HON.out (by have := HRW.out; have := HSW.out; omega) (Nat.lt_succ_self _) HB0.out (fun b' o' e => by injection e with e; injection e with e1 e2; have := HBL.out; have := HSW.out; omega) HFIN.out.1 HFIN.out.2.1 HFIN.out.2.2 HD.out hu hlt)
                  have HB8' := hide (HB8.out.set (.slice (some ⟨g, 0, none⟩) (k + 1) cp))
                  have HXX' : Hid (ResB (w4.setCell ⟨w2.heap.size, 3, none⟩ (.slice (some ⟨g, 0, none⟩) (k + 1) cp)) w.heap.size) := hide ((Below.heap_setCell _ _ _ _ (show w.heap.size ≠ w2.heap.size by have := HXL.out; omega)).trans HXX.out)
                  have HGG' : Hid (w.grownBy (w4.setCell ⟨w2.heap.size, 3, none⟩ (.slice (some ⟨g, 0, none⟩) (k + 1) cp)) (some R)) := hide (only_setCell HGG.out (.inr (show w.heap.size ≤ w2.heap.size by have := HXL.out; omega)) _)
                  have HSS' : Hid (w2.heap.size + 1 ≤ (w4.setCell ⟨w2.heap.size, 3, none⟩ (.slice (some ⟨g, 0, none⟩) (k + 1) cp)).heap.size) := hide (by have := HSS.out; simpa using this)
                  clear HB8 HXX HGG HSS HFIN HON HLO HB0 HGW HXR
                  go_wp2_with fail
                  go_roundw
                  case rel => exact ⟨k + 1, (.slice (some ⟨g, 0, none⟩) (k + 1) cp), by go_num, by omega, hide ⟨HB8'.out, HXX'.out, HGG'.out, HSS'.out⟩, HOR.out.elim (fun ⟨e, p', h⟩ => .inl ⟨e, p', hide h⟩) (fun h => .inr (hide h))⟩
                  case measure => simp [intOf]; omega
                · intro R0 HR
                  go_wp2_with fail
                  refine HR.out _ _ trivial ?_
                  clear HR
                  refine plan3_named ?_
                  intro Wc5 HWn
                  have HEQ : Hid (Wc5 = Wc3.alloc (.cells #[.int .i64 kk, .int .i64 mm, .string ss, .slice AA NN CC] 24)) := HWn
                  have HB8' : Hid (B8 Wc5 w2.heap.size x) := by
                    have e : Wc5 = Wc3.alloc (.cells #[.int .i64 kk, .int .i64 mm, .string ss, .slice AA NN CC] 24) := HWn.out
                    rw [e]
                    exact hide ((Below.heap_alloc _ _ _ HB8.out.lt).trans HB8.out)
                  have hx : Wc5.cell? ⟨w2.heap.size, 3, none⟩ = some x := HB8'.out.cells.1.2.2.2
                  clear HB8 HWn
                  have HB8 := HB8'
                  clear HB8'
                  refine plan3_run (o := ?_) (by simp only [List.getElem?_toArray, List.getElem?_cons_succ, List.getElem?_cons_zero]; rfl) ?_
                  intro R0 HR
                  go_wp2_with fail
                  refine HR.out _ _ trivial ?_
                  clear HR
                  refine plan3_run (o := ?_) (by simp only [List.getElem?_toArray, List.getElem?_cons_succ, List.getElem?_cons_zero]; rfl) ?_
                  intro R0 HR
                  clear hx
                  obtain rfl : Wc5 = Wc3.alloc (.cells #[.int .i64 kk, .int .i64 mm, .string ss, .slice AA NN CC] 24) := HEQ.out
                  have hown3 := HLO.out.own.kept HON.out.2.2.1 (.inr (fun e => by have := (HLO.out.own.lt R e).1; have := HRW.out; have := HSW.out; omega))
                  have hsz3 := HON.out.2.2.1.size
                  refine wpList_append_lies _ rfl (.tmp 129) (.tmp 134) 22 rfl (w2.heap.size + 1) 24 i0 _ 4 56 Try.underlying22 HINF.out.1 HINF.out.2.1 HINF.out.2.2.1 HINF.out.2.2.2 rfl (by decide) x k (cellsOf els) rfl (hown3.alloc _) ⟨Wc3.heap.size, 0, none⟩ 1 1 [.int .i64 kk, .int .i64 mm, .string ss, .slice AA NN CC] rfl rfl (World.news_of_block (cs := #[.int .i64 kk, .int .i64 mm, .string ss, .slice AA NN CC]) (t := 24) (fr := (0, 0)) (heap_alloc_new Wc3 _)) (by simp [Value.oneCell']) (by omega) (by unfold maxLen; omega) (by omega) (by have := HB0.out; simp; omega) (Wc3.heap.size + 1) (by simp) ?_
                  intro g cp w4 hown4 hg4 hat4 _
                  have HFIN := hide (And.intro hown4 (And.intro hg4 hat4))
                  have HB8' : Hid (B8 w4 w2.heap.size x) := hide ((hg4.block _ HB8.out.lt (fun e => by have := (HLO.out.own.lt _ e.symm).1; omega)).trans HB8.out)
                  have HXX : Hid (ResB w4 w.heap.size) := hide ((hg4.block _ (by have := HXR.out.2; simp; omega) (fun e => by have := (HLO.out.own.lt _ e.symm).1; have := HXL.out; omega)).trans ((Below.heap_alloc _ _ _ (by have := HXR.out.2; omega)).trans ((HON.out.2.2.1.block _ (by have := HXR.out.2; omega) (fun e => by injection e with e; exact hRX e)).trans HXR.out.1)))
                  have HGG : Hid (w.grownBy w4 (some R)) := hide (own_only (only_alloc (only_trans HGW.out HON.out.2.2.1) _) hg4 (fun k' e => by have := (HLO.out.own.lt k' e).1; have := HXL.out; omega))
                  have HSS : Hid (w2.heap.size + 1 ≤ w4.heap.size) := hide (by have h0 := HB0.out; have h1 := hg4.size; have h2 := HON.out.2.2.1.size; simp at h1; omega)
                  clear hown4 hg4 hat4 hown3 hsz3 HB8
                  have HB8 := HB8'
                  clear HB8'
                  refine HR.out _ _ trivial ?_
                  clear HR
                  (simp only [Act.put, List.setIfInBounds_toArray, List.set_cons_zero, List.set_cons_succ])
                  (refine plan3_take (o := ?_) (v := ?_) (by simp only [List.getElem?_toArray, List.getElem?_cons_succ, List.getElem?_cons_zero]; rfl) (yields_run (by rfl) ?_) ?_; rotate_left; (focus (intro w' _; go_simp <;> with_reducible rfl)); (simp only [Act.put, List.setIfInBounds_toArray, List.set_cons_zero, List.set_cons_succ]))
                  refine plan3_run (o := ?_) (by simp only [List.getElem?_toArray, List.getElem?_cons_succ, List.getElem?_cons_zero]; rfl) ?_
                  intro R0 HR
                  obtain ⟨⟨_, _, _, hx⟩, hxf⟩ := HB8.out.cells
                  go_wp2_with fail
                  refine HR.out _ _ trivial ?_
                  clear HR hx hxf
                  refine plan3_done ?_
                  have HOR := hide (LO.round HLO.out HON.out (by have := HRW.out; have := HSW.out; omega) (Nat.lt_succ_self _) HB0.out (fun b' o' e => by injection e with e; injection e with e1 e2; have := HBL.out; have := HSW.out; omega) HFIN.out.1 HFIN.out.2.1 HFIN.out.2.2 HD.out hu hlt)
                  have HB8' := hide (HB8.out.set (.slice (some ⟨g, 0, none⟩) (k + 1) cp))
                  have HXX' : Hid (ResB (w4.setCell ⟨w2.heap.size, 3, none⟩ (.slice (some ⟨g, 0, none⟩) (k + 1) cp)) w.heap.size) := hide ((Below.heap_setCell _ _ _ _ (show w.heap.size ≠ w2.heap.size by have := HXL.out; omega)).trans HXX.out)
                  have HGG' : Hid (w.grownBy (w4.setCell ⟨w2.heap.size, 3, none⟩ (.slice (some ⟨g, 0, none⟩) (k + 1) cp)) (some R)) := hide (only_setCell HGG.out (.inr (show w.heap.size ≤ w2.heap.size by have := HXL.out; omega)) _)
                  have HSS' : Hid (w2.heap.size + 1 ≤ (w4.setCell ⟨w2.heap.size, 3, none⟩ (.slice (some ⟨g, 0, none⟩) (k + 1) cp)).heap.size) := hide (by have := HSS.out; simpa using this)
                  clear HB8 HXX HGG HSS HFIN HON HLO HB0 HGW HXR
                  go_wp2_with fail
                  go_roundw
                  case rel => exact ⟨k + 1, (.slice (some ⟨g, 0, none⟩) (k + 1) cp), by go_num, by omega, hide ⟨HB8'.out, HXX'.out, HGG'.out, HSS'.out⟩, HOR.out.elim (fun ⟨e, p', h⟩ => .inl ⟨e, p', hide h⟩) (fun h => .inr (hide h))⟩
                  case measure => simp [intOf]; omega
            · obtain rfl : k = u := by omega
              obtain ⟨t, ht, he, hin, hk3, hn0, hs0, hw, hdp, hbl⟩ := list_end HLO.out.own HLO.out.len HLO.out.there HLO.out.wf HLO.out.dep (by have := HLO.out.len; have := HLO.out.pl; omega)
              obtain ⟨AA, NN, CC, rfl⟩ := own_slice HLO.out.own
              have HTE := hide (show l.drop at' = t.enc ++ l.drop p by rw [HD.out, list_enc hk3, he, HLO.out.len, HLO.out.eq]; simp)
              have fin : ∀ W : World, W = put4 wr w.heap.size (.int .i64 3) (.int .i64 0) (.string ⟨#[]⟩) (.slice AA NN CC) → RVPost R (d' + 1) (some ⟨b, o, none⟩) l cap at' w (.returned (.agg #[.int .i64 3, .int .i64 0, .string ⟨#[]⟩, .slice AA NN CC])) W := by
                rintro W rfl
                refine ⟨.inl ⟨t, p, by rw [VT.val, hk3, hn0, hs0, ← ht], ?_, hw, hdp, ?_, HTE.out, Nat.le_trans hmm HLO.out.le, HLO.out.pl, HLO.out.rr.put4 HW.out.2.1 hRX _ _ _ _⟩, put4_only HW.out.2.2.1 (Nat.le_refl _) _ _ _ _⟩
                · exact hin.move fun b hb => put4_block _ _ _ _ _ _ _ (by have := (hbl b hb).1; have := HXL.out; omega)
                · intro b hb
                  rw [put4_size]
                  have := hbl b hb
                  have := HXL.out
                  omega
              have HFI := hide fin
              clear fin ht he hin hk3 hn0 hs0 hw hdp hbl HTE
              obtain ⟨⟨z0, z1, z2, z3⟩, zf⟩ := HW.out.1.cells
              obtain ⟨⟨x0, x1, x2, x3⟩, xf⟩ := HW.out.2.1.cells
              go_wp2_with fail
              refine bodyPost_ret (v := .agg #[.int .i64 3, .int .i64 0, .string ⟨#[]⟩, .slice AA NN CC]) (by simp [results, Try.results37, go_sem, x0, x1, x2, x3]) rfl ?_
              exact HFI.out _ rfl
          · obtain ⟨p, hp, hrb⟩ := HLB.out.rr
            obtain ⟨y0, y1, y2, yf⟩ := hrb.cells
            obtain ⟨AA, NN, CC, rfl⟩ := HLB.out.form
            obtain ⟨⟨z0, z1, z2, z3⟩, zf⟩ := HW.out.1.cells
            obtain ⟨⟨x0, x1, x2, x3⟩, xf⟩ := HW.out.2.1.cells
            have HRB := hide hrb
            clear hrb
            by_cases hlt : k < u
            · go_wp2_with fail
              refine bodyPost_ret (v := .agg #[.int .i64 3, .int .i64 0, .string ⟨#[]⟩, .slice AA NN CC]) (by simp [results, Try.results37, go_sem, x0, x1, x2, x3]) rfl ?_
              exact ⟨.inr ⟨⟨_, p, rfl, ⟨_, _, _, _, _, _, rfl⟩, hp, HRB.out.put4 HW.out.2.1 hRX _ _ _ _⟩, HLB.out.no⟩, put4_only HW.out.2.2.1 (Nat.le_refl _) _ _ _ _⟩
            · go_wp2_with fail
              refine bodyPost_ret (v := .agg #[.int .i64 3, .int .i64 0, .string ⟨#[]⟩, .slice AA NN CC]) (by simp [results, Try.results37, go_sem, x0, x1, x2, x3]) rfl ?_
              exact ⟨.inr ⟨⟨_, p, rfl, ⟨_, _, _, _, _, _, rfl⟩, hp, HRB.out.put4 HW.out.2.1 hRX _ _ _ _⟩, HLB.out.no⟩, put4_only HW.out.2.2.1 (Nat.le_refl _) _ _ _ _⟩
    · have hd : decide ((l.length : Int) - (m : Int) < (u : Int)) = true := by simp; omega
      have HE := hide (show ∀ (t : VT) (rest : List UInt8), t.wf = true → t.dep ≤ d → t.fits → l.drop at' ≠ t.enc ++ rest from fun t r hw _ hf h => by
        rw [HD.out] at h
        have hk := cons_enc hw h
        rw [list_enc (by simpa using hk)] at h
        simp at h
        rw [VT.fits_eq] at hf
        obtain ⟨h3, h4⟩ := numeral_prefix hu (by have := hf.2.2.1; omega) h
        have h5 := congrArg List.length h4
        have h6 := encs_len t.els
        simp at h5
        omega)
      go_wp2_with fail
      go_quiet (fail)
      have HR3 : Hid (RR R (some ⟨b, o, none⟩) l cap m false (w2.drewN nq)) := hide ⟨HR2.out.block, HR2.out.bytes⟩
      have HM := hide HR3.out.mark
      have HX3 := hide ((show ResB (w2.drewN nq) w.heap.size from HX2.out).only HM.out.2 hRX)
      have HG3 := hide (only_trans HG.out (show w2.grownBy (w2.drewN nq) (some R) from ⟨rfl, rfl, rfl, Nat.le_refl _, fun _ _ _ => rfl⟩))
      obtain ⟨⟨x0, x1, x2, x3⟩, xf⟩ := HX3.out.cells
      go_wp2_with fail
      refine bodyPost_ret (v := .agg #[.int .i64 0, .int .i64 0, .string ⟨#[]⟩, .slice none 0 0]) (by simp [results, Try.results37, go_sem, x0, x1, x2, x3]) rfl ?_
      exact ⟨.inr ⟨⟨_, m, rfl, ⟨0, 0, ⟨#[]⟩, none, 0, 0, rfl⟩, hm, HM.out.1.put4 HX3.out hRX _ _ _ _⟩, HE.out⟩, put4_only (only_trans HG3.out HM.out.2) (Nat.le_refl _) _ _ _ _⟩
  · have HX2 := hide ((HX.out.only hg1 hRX).only hg2 hRX)
    have HG := hide (only_trans (only_trans (only_alloc (only_refl w (some R)) Z24) hg1) hg2)
    have HE := hide (show ∀ (t : VT) (rest : List UInt8), t.wf = true → t.dep ≤ d → t.fits → l.drop at' ≠ t.enc ++ rest from fun t rest hw _ hf h => by
      rw [HCN.out] at h
      have hk := cons_enc hw h
      rw [HK.out] at hk h
      rw [list_enc (by simpa using hk)] at h
      simp at h
      rw [VT.fits_eq] at hf
      exact hno _ _ (by have := hf.2.2.1; omega) h)
    have HR2 := hide hr2
    clear hno hg1 hg2 hr1 hr2
    obtain ⟨y0, y1, y2, yf⟩ := HR2.out.cells
    go_wp2_with fail
    go_quiet (fail)
    have HR3 : Hid (RR R (some ⟨b, o, none⟩) l cap m true (w2.drewN nq)) := hide ⟨HR2.out.block, HR2.out.bytes⟩
    have HM := hide HR3.out.mark
    have HX3 := hide ((show ResB (w2.drewN nq) w.heap.size from HX2.out).only HM.out.2 hRX)
    have HG3 := hide (only_trans HG.out (show w2.grownBy (w2.drewN nq) (some R) from ⟨rfl, rfl, rfl, Nat.le_refl _, fun _ _ _ => rfl⟩))
    obtain ⟨⟨x0, x1, x2, x3⟩, xf⟩ := HX3.out.cells
    go_wp2_with fail
    refine bodyPost_ret (v := .agg #[.int .i64 0, .int .i64 0, .string ⟨#[]⟩, .slice none 0 0]) (by simp [results, Try.results37, go_sem, x0, x1, x2, x3]) rfl ?_
    exact ⟨.inr ⟨⟨_, m, rfl, ⟨0, 0, ⟨#[]⟩, none, 0, 0, rfl⟩, hm, HM.out.1.put4 HX3.out hRX _ _ _ _⟩, HE.out⟩, put4_only (only_trans HG3.out HM.out.2) (Nat.le_refl _) _ _ _ _⟩
end Go.Proofs.Ytccdencaidopnaa
