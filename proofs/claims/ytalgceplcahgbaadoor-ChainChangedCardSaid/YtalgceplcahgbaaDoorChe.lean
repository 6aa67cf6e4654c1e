/- Check; are two links equal? -/
import Derived.Test.YtalgceplcahgbaaDoorIsc
namespace Go.Proofs.YtalgceplcahgbaaDoor
open Go.RowKit Go.Shelf

set_option maxRecDepth 20000 in
theorem check_any (A : Option Addr) (l : List Lr) (cap : Nat) (w : World) (hT : Tab w) (hl : Lks w A l) (hc : l.length ≤ cap) (hc2 : cap ≤ 9223372036854775807) (hs : Short l) :
    Calls Tryd.prog 35 #[.slice A l.length cap] w fun e w' => e = .returned (.int .i64 (chkA hd0 hdL (lnks l))) ∧ Below w.heap.size w w' := by
  have HI := hide (isChain_any A l cap w hT hl hc hc2 hs)
  clear hT hl hs
  by_cases h1 : 1024 < l.length
  · have h1' : (1024 : Int) < ((l.length : Nat) : Int) := by omega
    have HE := hide (show chkA hd0 hdL (lnks l) = 2 by unfold chkA; rw [lnks_len, if_pos h1])
    clear h1 HI
    go_enter Tryd.func35, Tryd.ntmps35
    go_wp2_with fail
    go_ret
    exact ⟨by rw [HE.out]; rfl, Below.refl _ _⟩
  · have h1' : ¬ (1024 : Int) < ((l.length : Nat) : Int) := by omega
    have HE := hide (show chkA hd0 hdL (lnks l) = if chainB hd0 hdL (lnks l) then 0 else 80 by unfold chkA; rw [lnks_len, if_neg h1])
    clear h1
    cases hcb : chainB hd0 hdL (lnks l) with
    | true =>
      rw [hcb] at HI HE
      go_enter Tryd.func35, Tryd.ntmps35
      go_wp2_with fail
      refine HI.out.mono ?_
      rintro e w' ⟨rfl, hb⟩
      have HB := hide hb
      clear hb HI
      go_wp2_with fail
      go_ret
      exact ⟨by rw [HE.out]; rfl, HB.out⟩
    | false =>
      rw [hcb] at HI HE
      go_enter Tryd.func35, Tryd.ntmps35
      go_wp2_with fail
      refine HI.out.mono ?_
      rintro e w' ⟨rfl, hb⟩
      have HB := hide hb
      clear hb HI
      go_wp2_with fail
      go_ret
      exact ⟨by rw [HE.out]; rfl, HB.out⟩

theorem str_toList (l : List UInt8) : (str l).toList = l := by simp [str, ByteArray.toList_eq]
theorem str_eq (l m : List UInt8) : ((str l).toList == (str m).toList) = decide (l = m) := by
  rw [str_toList, str_toList]
  by_cases h : l = m
  · rw [h]; simp
  · rw [decide_eq_false h, beq_eq_false_iff_ne]; exact h
set_option maxRecDepth 20000 in
theorem equal_any (A B : Option Addr) (ca cb : Nat) (l m : List UInt8) (w : World) (hl : Sb w A l) (hm : Sb w B m) :
    Calls Tryd.prog 88 #[.slice A l.length ca, .slice B m.length cb] w fun e w' => e = .returned (.bool (decide (l = m))) ∧ w' = w := by
  have hv0 := sb_conv (cap := ca) hl
  have hv1 := sb_conv (cap := cb) hm
  have he := str_eq l m
  clear hl hm
  generalize decide (l = m) = v at he ⊢
  generalize str l = x at *
  generalize str m = y at *
  go_enter Tryd.func88, Tryd.ntmps88
  go_wp2_with fail
  go_ret
  exact ⟨rfl, rfl⟩

theorem run_eqlD {o : Oper} {a : Act} (x y : Operand) (T : TypeId) (ho : o.op = .binOp .eql 26 x y T) (X Y : List UInt8) (hx : a.eval x = dv X) (hy : a.eval y = dv Y) (h1 : X.length = 32) (h2 : Y.length = 32) (v : Bool) (hv : v = (X == Y)) (w : World) : (execOp a.eval o).run Tryd.prog w = .ok (.value (.bool v)) w := by
  unfold execOp
  simp only [ho, hx, hy, Sem.run_bind, run_eqGuard_agg w .eql 26 x y _ _ Tryd.eqGuardType26, Result.andThen_ok, eql_dv X Y h1 h2 w, Sem.run_pure, hv]
theorem wpList_eqlD {ops : Array Oper} {Q : Exit → Act → World → Prop} {o : Oper} {rest : List Oper} {a : Act} {w : World} (hw : Region.wanted o (yielded ops a.tmps) = true) (x y : Operand) (T : TypeId) (ho : o.op = .binOp .eql 26 x y T) (X Y : List UInt8) (hx : a.eval x = dv X) (hy : a.eval y = dv Y)
    (h1 : X.length = 32) (h2 : Y.length = 32) (v : Bool) (hv : v = (X == Y)) (h : wpList Tryd.prog ops Q rest (a.put o.dst (.bool v)) w) : wpList Tryd.prog ops Q (o :: rest) a w :=
  wpList_of_wp hw (by unfold Oper.wp; rw [run_eqlD x y T ho X Y hx hy h1 h2 v hv w]; exact h)
theorem wpList_load_midG {P : Program} {ops : Array Oper} {Q : Exit → Act → World → Prop} {o : Oper} {rest : List Oper} {a : Act} {w : World} (hw : Region.wanted o (yielded ops a.tmps) = true) (ty : TypeId) (x : Operand) (ho : o.op = .load ty x) (b of : Nat) (hx : a.eval x = .pointer (some ⟨b, of, none⟩)) (cs : List Value) (d : TypeDesc) (hc : w.rangeAt b of cs)
    (hu : P.underlying ty = some d) (hr : d.isRow = true) (hi : (P.info? ty).map (·.size) = some cs.length) (h : wpList P ops Q rest (a.put o.dst (.agg cs.toArray)) w) : wpList P ops Q (o :: rest) a w :=
  wpList_of_wp hw (wp_load_mid ty x ho b of hx cs d hc hu hr hi h)

theorem same_of {x y : Ln} : x.same y = (decide (x.node = y.node) && decide (x.no = y.no) && decide (x.prev = y.prev) && decide (x.data = y.data)) := rfl
set_option maxRecDepth 20000 in
set_option maxHeartbeats 3200000 in
theorem same_any (r s : Lr) (w : World) (hr : r.In w) (hs : s.In w) : Calls Tryd.prog 72 #[r.v, s.v] w fun e w' => e = .returned (.bool (r.x.same s.x)) ∧ Below w.heap.size w w' := by
  have HR := hide hr
  have HS := hide hs
  have HX := hide (Blk.new w 60 r.cs)
  have HB := hide (below_new w (.cells r.cs.toArray 60))
  clear hr hs
  generalize hw1 : w.alloc (.cells r.cs.toArray 60) = w1 at *
  have hz1 : w1.heap.size = w.heap.size + 1 := by rw [← hw1]; simp
  have HY := hide (Blk.new w1 60 s.cs)
  have HC := hide (below_new w1 (.cells s.cs.toArray 60))
  generalize hw2 : w1.alloc (.cells s.cs.toArray 60) = w2 at *
  rw [hz1] at HY
  have HX2 := hide (HX.out.below HC.out HX.out.lt)
  have HB2 := hide (below_one HB.out HC.out)
  have c0 : w2.cell? ⟨w.heap.size, 0, none⟩ = some (.int .i64 r.x.node) := (HX2.out.cell 0).trans r.c0
  have c1 : w2.cell? ⟨w.heap.size, 1, none⟩ = some (.int .i64 r.x.no) := (HX2.out.cell 1).trans r.c1
  have c34 : w2.cell? ⟨w.heap.size, 34, none⟩ = some r.dv := (HX2.out.cell 34).trans (Lr.c34 HR.out)
  have d0 : w2.cell? ⟨w.heap.size + 1, 0, none⟩ = some (.int .i64 s.x.node) := (HY.out.cell 0).trans s.c0
  have d1 : w2.cell? ⟨w.heap.size + 1, 1, none⟩ = some (.int .i64 s.x.no) := (HY.out.cell 1).trans s.c1
  have d34 : w2.cell? ⟨w.heap.size + 1, 34, none⟩ = some s.dv := (HY.out.cell 34).trans (Lr.c34 HS.out)
  have HRP := hide (show w2.rangeAt w.heap.size 2 (bc r.x.prev) from fun j v hv => by
    have hj := (List.getElem?_eq_some_iff.1 hv).1
    rw [bc_len, HR.out.p32] at hj
    rw [HX2.out.cell (2 + j), Lr.cp HR.out j hj]
    exact hv)
  have HSP := hide (show w2.rangeAt (w.heap.size + 1) 2 (bc s.x.prev) from fun j v hv => by
    have hj := (List.getElem?_eq_some_iff.1 hv).1
    rw [bc_len, HS.out.p32] at hj
    rw [HY.out.cell (2 + j), Lr.cp HS.out j hj]
    exact hv)
  have HS1 := hide (show (Tryd.prog.info? 26).map (·.size) = some (bc r.x.prev).length by rw [bc_len, HR.out.p32]; exact Tryd.size26)
  have HS2 := hide (show (Tryd.prog.info? 26).map (·.size) = some (bc s.x.prev).length by rw [bc_len, HS.out.p32]; exact Tryd.size26)
  have HEQ := hide (equal_any r.A s.A r.cap s.cap r.x.data s.x.data w2 ((HR.out.below HB2.out).src.sb) ((HS.out.below HB2.out).src.sb))
  have HSM := hide (same_of (x := r.x) (y := s.x))
  go_enter Tryd.func72, Tryd.ntmps72
  go_upto_region 1 with fail
  refine name_code ?_
  intro V hV
  obtain rfl : V = w2 := by rw [hV.out, ← hw2, ← hw1]
  clear hV hw1 hw2 hz1 HC HB HX
  by_cases h1 : r.x.node = s.x.node
  · have h1b : (r.x.node == s.x.node) = true := by simp [h1]
    by_cases h2 : r.x.no = s.x.no
    · have h2b : (r.x.no == s.x.no) = true := by simp [h2]
      by_cases h3 : r.x.prev = s.x.prev
      · have HVE := hide (show true = (r.x.prev == s.x.prev) by simp [h3])
        have HRS := hide (show r.x.same s.x = decide (r.x.data = s.x.data) by rw [HSM.out]; simp [h1, h2, h3])
        clear h1 h2 h3
        go_wp2_with (first | (refine wpList_load_midG rfl 26 (.tmp 18) rfl w.heap.size 2 rfl (bc r.x.prev) _ HRP.out Tryd.underlying26 rfl HS1.out ?_) | (refine wpList_load_midG rfl 26 (.tmp 20) rfl (w.heap.size + 1) 2 rfl (bc s.x.prev) _ HSP.out Tryd.underlying26 rfl HS2.out ?_) | (refine wpList_eqlD rfl (.tmp 19) (.tmp 21) 26 rfl r.x.prev s.x.prev rfl rfl HR.out.p32 HS.out.p32 _ HVE.out ?_))
        refine HEQ.out.mono ?_
        rintro e w' ⟨rfl, rfl⟩
        go_wp2_with fail
        go_ret
        exact ⟨by rw [HRS.out]; rfl, HB2.out⟩
      · have HVE := hide (show false = (r.x.prev == s.x.prev) by simp [h3])
        have HRS := hide (show r.x.same s.x = false by rw [HSM.out]; simp [h3])
        clear h1 h2 h3
        go_wp2_with (first | (refine wpList_load_midG rfl 26 (.tmp 18) rfl w.heap.size 2 rfl (bc r.x.prev) _ HRP.out Tryd.underlying26 rfl HS1.out ?_) | (refine wpList_load_midG rfl 26 (.tmp 20) rfl (w.heap.size + 1) 2 rfl (bc s.x.prev) _ HSP.out Tryd.underlying26 rfl HS2.out ?_) | (refine wpList_eqlD rfl (.tmp 19) (.tmp 21) 26 rfl r.x.prev s.x.prev rfl rfl HR.out.p32 HS.out.p32 _ HVE.out ?_))
        go_ret
        exact ⟨by rw [HRS.out]; rfl, HB2.out⟩
    · have h2b : (r.x.no == s.x.no) = false := by simpa using h2
      have HRS := hide (show r.x.same s.x = false by rw [HSM.out]; simp [h2])
      clear h1 h2
      go_wp2_with fail
      go_ret
      exact ⟨by rw [HRS.out]; rfl, HB2.out⟩
  · have h1b : (r.x.node == s.x.node) = false := by simpa using h1
    have HRS := hide (show r.x.same s.x = false by rw [HSM.out]; simp [h1])
    clear h1
    go_wp2_with fail
    go_ret
    exact ⟨by rw [HRS.out]; rfl, HB2.out⟩
end Go.Proofs.YtalgceplcahgbaaDoor
