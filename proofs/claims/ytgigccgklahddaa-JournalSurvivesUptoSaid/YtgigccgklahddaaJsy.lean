/- Sync of the program: the plain function, and its errors. -/
import Derived.Test.YtgigccgklahddaaWtt
import Derived.Test.YtgigccgklahddaaSyt
namespace Go.Proofs.Ytgigccgklahddaa
open Go.RowKit
variable {n0 : Nat}

/-- What Sync answers. -/
def jsyncB (j : Jk) (d : Dk) : Jk × Dk × Int :=
  if jchk j = 0 then
    if cdk d = 0 then
      if j.many = d.sec.length then
        if recordsB d.sec = j.recs.take j.synced.toNat ∧ genM d.sec 0 < 4294967295 then
          if j.synced = j.recs.length then (j, d, 0)
          else
            let y := (⟨d.sec, writesP (usedB (j.recs.take j.synced.toNat)) (genM d.sec 0 + 1) ((j.recs.drop j.synced.toNat).flatMap piecesB), d.left, d.stp⟩ : Dk).sync
            if y.2 = 0 then (⟨j.recs, j.many, j.recs.length⟩, y.1, 0) else (Jk.zero, y.1, y.2)
        else (Jk.zero, Dk.zero, 50)
      else (Jk.zero, Dk.zero, 1)
    else (Jk.zero, Dk.zero, cdk d)
  else (Jk.zero, Dk.zero, jchk j)
def JSAns (n0 : Nat) (w : World) (x : Jk × Dk × Int) (e : Ending) (w' : World) : Prop :=
  ∃ (j : Jr) (d : Dsk), e = .returned (.tuple #[j.v, d.v, .int .i64 x.2.2]) ∧ j.k = x.1 ∧ d.d = x.2.1 ∧ j.In n0 w' ∧ d.In n0 w' ∧ Below w.heap.size w w'
theorem JSAns.zero {w w' : World} {x : Jk × Dk × Int} {n : Int} (hx : x = (Jk.zero, Dk.zero, n)) (hb : Below w.heap.size w w') : JSAns n0 w x (.returned (.tuple #[Jr.zero.v, Dsk.zero.v, .int .i64 n])) w' := by
  subst hx
  exact ⟨Jr.zero, Dsk.zero, rfl, rfl, rfl, Jr.zero_in _, Dsk.zero_in _, hb⟩
theorem results_cells_tmp {P : Program} {fn : Func} {p q u : Tmp} {ty ty2 : TypeId} (h : fn.results = #[.cell p ty, .cell q ty2, .tmp u]) (tmps : Array Value) (w : World) (g g2 : Nat) (t t2 : TypeId) (cs cs2 : Array Value) (d d2 : TypeDesc) (x : Value)
    (hp : tmps.getD p undef = .pointer (some ⟨g, 0, none⟩)) (hq : tmps.getD q undef = .pointer (some ⟨g2, 0, none⟩)) (hx : tmps.getD u undef = x) (hg : w.heap[g]? = some (.cells cs t (0, 0))) (hg2 : w.heap[g2]? = some (.cells cs2 t2 (0, 0)))
    (hu : P.underlying ty = some d) (hd : (match d with | .struct _ | .array _ _ => true | _ => false) = true) (hi : (P.info? ty).map (·.size) = some cs.size)
    (hu2 : P.underlying ty2 = some d2) (hd2 : (match d2 with | .struct _ | .array _ _ => true | _ => false) = true) (hi2 : (P.info? ty2).map (·.size) = some cs2.size) :
    (results fn tmps).run P w = .ok (.tuple #[.agg cs, .agg cs2, x]) w := by
  have hp' : tmps[p]?.getD undef = .pointer (some ⟨g, 0, none⟩) := by simpa using hp
  have hq' : tmps[q]?.getD undef = .pointer (some ⟨g2, 0, none⟩) := by simpa using hq
  have hx' : tmps[u]?.getD undef = x := by simpa using hx
  simp [results, h, hp', hq', hx', asAddr, run_loadVar_row w g t ty cs (0, 0) d hg hu hd hi, run_loadVar_row w g2 t2 ty2 cs2 (0, 0) d2 hg2 hu2 hd2 hi2]

/-- Sync's boxes. -/
structure JB (w : World) (j : Jr) (d : Dsk) (W : World) : Prop where
  b0 : Blk W w.heap.size 29 j.cs
  b1 : Blk W (w.heap.size + 1) 25 d.cs
  b2 : Blk W (w.heap.size + 2) 29 [.slice none 0 0, .int .i64 0, .int .i64 0]
  b3 : Blk W (w.heap.size + 3) 25 [.slice none 0 0, .slice none 0 0, .int .i64 0, .bool false]
  bel : Below w.heap.size w W
section
variable {w W W' : World} {j : Jr} {d : Dsk}
theorem JB.below (h : JB w j d W) (hb : Below W.heap.size W W') : JB w j d W' :=
  ⟨h.b0.below hb h.b0.lt, h.b1.below hb h.b1.lt, h.b2.below hb h.b2.lt, h.b3.below hb h.b3.lt, below_one h.bel hb⟩
def jw0 (w : World) (j : Jr) (d : Dsk) : World := (((w.alloc (.cells j.cs.toArray 29)).alloc (.cells d.cs.toArray 25)).alloc (.cells #[.slice none 0 0, .int .i64 0, .int .i64 0] 29)).alloc (.cells #[.slice none 0 0, .slice none 0 0, .int .i64 0, .bool false] 25)
theorem JB.new (w : World) (j : Jr) (d : Dsk) : JB w j d (jw0 w j d) := by
  have q0 := (((Blk.new w 29 j.cs).alloc (.cells d.cs.toArray 25)).alloc (.cells #[.slice none 0 0, .int .i64 0, .int .i64 0] 29)).alloc (.cells #[.slice none 0 0, .slice none 0 0, .int .i64 0, .bool false] 25)
  have q1 := ((Blk.new (w.alloc (.cells j.cs.toArray 29)) 25 d.cs).alloc (.cells #[.slice none 0 0, .int .i64 0, .int .i64 0] 29)).alloc (.cells #[.slice none 0 0, .slice none 0 0, .int .i64 0, .bool false] 25)
  have q2 := (Blk.new ((w.alloc (.cells j.cs.toArray 29)).alloc (.cells d.cs.toArray 25)) 29 [.slice none 0 0, .int .i64 0, .int .i64 0]).alloc (.cells #[.slice none 0 0, .slice none 0 0, .int .i64 0, .bool false] 25)
  have q3 := Blk.new (((w.alloc (.cells j.cs.toArray 29)).alloc (.cells d.cs.toArray 25)).alloc (.cells #[.slice none 0 0, .int .i64 0, .int .i64 0] 29)) 25 [.slice none 0 0, .slice none 0 0, .int .i64 0, .bool false]
  simp only [World.size_alloc] at q1 q2 q3
  have hb : Below w.heap.size w (jw0 w j d) := (((below_new w _).alloc (by simp) _).alloc (by simp; omega) _).alloc (by simp; omega) _
  exact ⟨q0, q1, q2, q3, hb⟩
/-- Both results are zero. -/
theorem JB.nought (h : JB w j d W) : Blk (((W.setRow (w.heap.size + 1 + 1) #[.slice none 0 0, .int .i64 0, .int .i64 0])).setRow (w.heap.size + 1 + 1 + 1) #[.slice none 0 0, .slice none 0 0, .int .i64 0, .bool false]) (w.heap.size + 1 + 1) 29 [.slice none 0 0, .int .i64 0, .int .i64 0] ∧
    Blk (((W.setRow (w.heap.size + 1 + 1) #[.slice none 0 0, .int .i64 0, .int .i64 0])).setRow (w.heap.size + 1 + 1 + 1) #[.slice none 0 0, .slice none 0 0, .int .i64 0, .bool false]) (w.heap.size + 1 + 1 + 1) 25 [.slice none 0 0, .slice none 0 0, .int .i64 0, .bool false] ∧
    Below w.heap.size w (((W.setRow (w.heap.size + 1 + 1) #[.slice none 0 0, .int .i64 0, .int .i64 0])).setRow (w.heap.size + 1 + 1 + 1) #[.slice none 0 0, .slice none 0 0, .int .i64 0, .bool false]) :=
  ⟨(h.b2.row _).far (by omega) _, (h.b3.far (by omega) _).row _, below_setRow (below_setRow h.bel (by omega) _) (by omega) _⟩
end

set_option maxRecDepth 100000 in
set_option maxHeartbeats 1600000 in
theorem jsync_e1 (j : Jr) (d : Dsk) (w : World) (hj : j.In n0 w) (h : jchk j.k ≠ 0) : Calls Try.prog 21 #[j.v, d.v] w (JSAns n0 w (jsyncB j.k d.d)) := by
  have HB := hide (JB.new w j d)
  have HC := hide (jcheck_any j _ (hj.below HB.out.bel))
  have HX := hide (show jsyncB j.k d.d = (Jk.zero, Dk.zero, jchk j.k) by unfold jsyncB; rw [if_neg h])
  have h' : (jchk j.k != 0) = true := by simpa using h
  obtain ⟨A, rs, cap, many, synced⟩ := j
  generalize jchk _ = m at *
  clear hj h
  go_enter Try.func21, Try.ntmps21
  go_wp2_with fail
  refine HC.out.mono ?_
  rintro e w1 ⟨rfl, hb⟩
  have HB1 := hide (HB.out.below hb)
  have HB2 := hide (HB1.out.nought)
  have HR := hide (HB1.out.b3.far (Y := w.heap.size + 1 + 1) (by omega) #[.slice none 0 0, .int .i64 0, .int .i64 0])
  clear hb
  go_wp2_with (first | (refine wpList_store_row rfl 29 (.tmp 4) (.tmp 13) rfl (w.heap.size + 1 + 1) #[.slice none 0 0, .int .i64 0, .int .i64 0] rfl rfl 29 _ HB1.out.b2 Try.size29 rfl (one29 _ _ _ _ _) ?_) | (refine wpList_store_row rfl 25 (.tmp 5) (.tmp 14) rfl (w.heap.size + 1 + 1 + 1) #[.slice none 0 0, .slice none 0 0, .int .i64 0, .bool false] rfl rfl 25 _ HR.out Try.size25 rfl (one25 _ _ _ _ _ _ _ _) ?_))
  exact bodyPost_ret (v := .tuple #[Jr.zero.v, Dsk.zero.v, .int .i64 m]) (results_cells_tmp rfl _ _ (w.heap.size + 1 + 1) (w.heap.size + 1 + 1 + 1) 29 25 _ _ _ _ (.int .i64 m) rfl rfl rfl HB2.out.1 HB2.out.2.1 Try.underlying29 rfl Try.size29 Try.underlying25 rfl Try.size25) rfl (JSAns.zero HX.out HB2.out.2.2)
set_option maxRecDepth 100000 in
set_option maxHeartbeats 1600000 in
theorem jsync_e2 (j : Jr) (d : Dsk) (w : World) (hj : j.In n0 w) (hd : d.In n0 w) (h : jchk j.k = 0) (h2 : cdk d.d ≠ 0) : Calls Try.prog 21 #[j.v, d.v] w (JSAns n0 w (jsyncB j.k d.d)) := by
  have HB := hide (JB.new w j d)
  have HC := hide (jcheck_any j _ (hj.below HB.out.bel))
  have HCD := hide (fun W (hW : Below w.heap.size w W) => checkDisk_any d W (hd.below hW))
  have HX := hide (show jsyncB j.k d.d = (Jk.zero, Dk.zero, cdk d.d) by unfold jsyncB; rw [if_pos h, if_neg h2])
  have h' : (cdk d.d != 0) = true := by simpa using h2
  rw [h] at HC
  obtain ⟨A, rs, cap, many, synced⟩ := j
  generalize cdk _ = m at *
  clear hj hd h h2
  go_enter Try.func21, Try.ntmps21
  go_wp2_with fail
  refine HC.out.mono ?_
  rintro e w0 ⟨rfl, hb⟩
  have HB0 := hide (HB.out.below hb)
  obtain ⟨c0, c1, c2, c3⟩ := HB0.out.b1.c4
  clear hb
  go_wp2_with fail
  refine (HCD.out _ HB0.out.bel).mono ?_
  rintro e w1 ⟨rfl, hb⟩
  have HB1 := hide (HB0.out.below hb)
  have HB2 := hide (HB1.out.nought)
  have HR := hide (HB1.out.b3.far (Y := w.heap.size + 1 + 1) (by omega) #[.slice none 0 0, .int .i64 0, .int .i64 0])
  clear hb c0 c1 c2 c3
  go_wp2_with (first | (refine wpList_store_row rfl 29 (.tmp 4) (.tmp 20) rfl (w.heap.size + 1 + 1) #[.slice none 0 0, .int .i64 0, .int .i64 0] rfl rfl 29 _ HB1.out.b2 Try.size29 rfl (one29 _ _ _ _ _) ?_) | (refine wpList_store_row rfl 25 (.tmp 5) (.tmp 21) rfl (w.heap.size + 1 + 1 + 1) #[.slice none 0 0, .slice none 0 0, .int .i64 0, .bool false] rfl rfl 25 _ HR.out Try.size25 rfl (one25 _ _ _ _ _ _ _ _) ?_))
  exact bodyPost_ret (v := .tuple #[Jr.zero.v, Dsk.zero.v, .int .i64 m]) (results_cells_tmp rfl _ _ (w.heap.size + 1 + 1) (w.heap.size + 1 + 1 + 1) 29 25 _ _ _ _ (.int .i64 m) rfl rfl rfl HB2.out.1 HB2.out.2.1 Try.underlying29 rfl Try.size29 Try.underlying25 rfl Try.size25) rfl (JSAns.zero HX.out HB2.out.2.2)
set_option maxRecDepth 100000 in
set_option maxHeartbeats 1600000 in
theorem jsync_e3 (j : Jr) (d : Dsk) (w : World) (hj : j.In n0 w) (hd : d.In n0 w) (h : jchk j.k = 0) (h2 : cdk d.d = 0) (h3 : j.many ≠ d.ss.length) : Calls Try.prog 21 #[j.v, d.v] w (JSAns n0 w (jsyncB j.k d.d)) := by
  have HB := hide (JB.new w j d)
  have HC := hide (jcheck_any j _ (hj.below HB.out.bel))
  have HCD := hide (fun W (hW : Below w.heap.size w W) => checkDisk_any d W (hd.below hW))
  have HX := hide (show jsyncB j.k d.d = (Jk.zero, Dk.zero, 1) by
    unfold jsyncB
    rw [if_pos h, if_pos h2, if_neg]
    show ¬ (j.many = ((secD d.ss).length : Nat))
    rw [secD_len]
    exact h3)
  have h' : (j.many != (d.ss.length : Int)) = true := by simpa using h3
  rw [h] at HC
  rw [h2] at HCD
  obtain ⟨A, rs, cap, many, synced⟩ := j
  simp only at h'
  clear hj hd h h2 h3
  go_enter Try.func21, Try.ntmps21
  go_wp2_with fail
  refine HC.out.mono ?_
  rintro e w0 ⟨rfl, hb⟩
  have HB0 := hide (HB.out.below hb)
  obtain ⟨c0, c1, c2, c3⟩ := HB0.out.b1.c4
  clear hb
  go_wp2_with fail
  refine (HCD.out _ HB0.out.bel).mono ?_
  rintro e w1 ⟨rfl, hb⟩
  have HB1 := hide (HB0.out.below hb)
  have HB2 := hide (HB1.out.nought)
  have HR := hide (HB1.out.b3.far (Y := w.heap.size + 1 + 1) (by omega) #[.slice none 0 0, .int .i64 0, .int .i64 0])
  have d0 := HB1.out.b1.c4.1
  have j1 := HB1.out.b0.cell 1
  simp only [List.getElem?_cons_zero, List.getElem?_cons_succ] at j1
  clear hb c0 c1 c2 c3
  go_wp2_with (first | (refine wpList_store_row rfl 29 (.tmp 4) (.tmp 29) rfl (w.heap.size + 1 + 1) #[.slice none 0 0, .int .i64 0, .int .i64 0] rfl rfl 29 _ HB1.out.b2 Try.size29 rfl (one29 _ _ _ _ _) ?_) | (refine wpList_store_row rfl 25 (.tmp 5) (.tmp 30) rfl (w.heap.size + 1 + 1 + 1) #[.slice none 0 0, .slice none 0 0, .int .i64 0, .bool false] rfl rfl 25 _ HR.out Try.size25 rfl (one25 _ _ _ _ _ _ _ _) ?_))
  exact bodyPost_ret (v := .tuple #[Jr.zero.v, Dsk.zero.v, .int .i64 1]) (results_cells_tmp rfl _ _ (w.heap.size + 1 + 1) (w.heap.size + 1 + 1 + 1) 29 25 _ _ _ _ (.int .i64 1) rfl rfl rfl HB2.out.1 HB2.out.2.1 Try.underlying29 rfl Try.size29 Try.underlying25 rfl Try.size25) rfl (JSAns.zero HX.out HB2.out.2.2)
end Go.Proofs.Ytgigccgklahddaa
