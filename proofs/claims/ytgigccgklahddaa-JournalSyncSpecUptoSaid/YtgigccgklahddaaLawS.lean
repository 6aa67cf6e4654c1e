/- JournalSyncSpec: for every journal and disk, Sync matches the reference. Where what comes in is of bulk at most 1048576. -/
import Derived.Test.YtgigccgklahddaaSan
import Derived.Test.YtgigccgklahddaaRs2
import Derived.Test.YtgigccgklahddaaOpu
import Derived.Deep.CondSized
namespace Go.Proofs.Ytgigccgklahddaa
open Go.RowKit
variable {n0 : Nat}

/-- The reference's Sync, whatever it is given. -/
theorem jrsync_any (j : Jr) (d : Dsk) (w : World) (hn0 : n0 ≤ w.heap.size) (hj : j.In n0 w) (hd : d.In n0 w) : Calls Try.prog 22 #[j.v, d.v] w (JSAns n0 w (jsyncB j.k d.d)) := by
  by_cases h : jchk j.k = 0
  · by_cases h2 : d.d.valid = true
    · by_cases h3 : d.stp = true
      · exact rsync_e3 j d w hj hd h h2 h3
      · replace h3 : d.stp = false := by simpa using h3
        by_cases h4 : j.many = d.ss.length
        · by_cases h5 : d.ps.length = 0
          · exact rsync_go j d w hn0 hj hd h h2 h3 h5 h4
          · exact rsync_e4 j d w hj hd h h2 h3 (.inr ⟨h4, by omega⟩)
        · exact rsync_e4 j d w hj hd h h2 h3 (.inl h4)
    · exact rsync_e2 j d w hj hd h (by simpa using h2)
  · exact rsync_e1 j d w hj h
set_option maxRecDepth 100000 in
set_option maxHeartbeats 6400000 in
theorem jsspec_walk (j : Jr) (d : Dsk) (w : World) (hj : j.Came w) (hd : d.In w.heap.size w) :
    Calls Try.prog 5 #[j.v, d.v] w fun e w' => e = .returned (.bool true) ∧ Below w.heap.size w w' := by
  obtain ⟨A2, l2, c2, m2, s2⟩ := j
  have HJ := hide hj
  have HD := hide hd
  have HBX := hide ((Blk.new w 29 [.slice A2 l2.length c2, .int .i64 m2, .int .i64 s2]).alloc (.cells d.cs.toArray 25))
  have HBD := hide (Blk.new (w.alloc (.cells #[.slice A2 l2.length c2, .int .i64 m2, .int .i64 s2] 29)) 25 d.cs)
  rw [World.size_alloc] at HBD
  have HW := hide (show Below w.heap.size w ((w.alloc (.cells #[.slice A2 l2.length c2, .int .i64 m2, .int .i64 s2] 29)).alloc (.cells d.cs.toArray 25)) from (below_new w _).alloc (by simp) _)
  clear hj hd
  go_enter Try.func5, Try.ntmps5
  go_wp2_with fail
  refine (sane_any _).mono ?_
  rintro e w1 ⟨rfl, hb⟩
  have HF1 := hide (below_one HW.out hb)
  have HB1 := hide (HBX.out.below hb HBX.out.lt)
  have HD1 := hide (HBD.out.below hb HBD.out.lt)
  clear hb HBX HBD HW
  obtain ⟨q0, q1, q2⟩ := HB1.out.c3
  obtain ⟨p0, p1, p2, p3⟩ := HD1.out.c4
  have HFW := hide (few_any d A2 l2 c2 w1 (HD.out.below HF1.out) (fun k h => (HJ.out.recs.below HF1.out).at h) (Nat.le_trans HJ.out.bulk (by decide)))
  generalize hf : fewB d.d (secD l2) = f at HFW
  go_wp2_with fail
  refine HFW.out.mono ?_
  rintro e w2 ⟨rfl, hb⟩
  have HF2 := hide (below_one HF1.out hb)
  have HB2 := hide (HB1.out.below hb HB1.out.lt)
  have HD2 := hide (HD1.out.below hb HD1.out.lt)
  clear hb HB1 HD1 HF1 q0 q1 q2 p0 p1 p2 p3 HFW
  cases f with
  | false =>
    go_wp2_with fail
    go_ret
    exact ⟨rfl, HF2.out⟩
  | true =>
    have HI := hide (HJ.out.in (fewB_iff.1 hf).2.2)
    clear hf HJ
    obtain ⟨q0, q1, q2⟩ := HB2.out.c3
    obtain ⟨p0, p1, p2, p3⟩ := HD2.out.c4
    have HAP := hide (jsync_any ⟨A2, l2, c2, m2, s2⟩ d w2 HF2.out.size (HI.out.below HF2.out) (HD.out.below HF2.out))
    generalize HX : jsyncB (Jr.mk A2 l2 c2 m2 s2).k d.d = x at HAP
    go_wp2_with fail
    refine HAP.out.mono ?_
    rintro e w3 ⟨⟨A5, l5, c5, m5, s5⟩, y5, rfl, hk, hy, hi, hyi, hb⟩
    have HK5 := hide hk
    have HY5 := hide hy
    have HW3 := hide (show Below w3.heap.size w3 ((w3.alloc (.cells #[.slice A5 l5.length c5, .int .i64 m5, .int .i64 s5] 29)).alloc (.cells y5.cs.toArray 25)) from (below_new w3 _).alloc (by simp) _)
    have HF3 := hide (below_one (below_one HF2.out hb) HW3.out)
    have HB3 := hide ((HB2.out.below hb HB2.out.lt).below HW3.out (HB2.out.below hb HB2.out.lt).lt)
    have HD3 := hide ((HD2.out.below hb HD2.out.lt).below HW3.out (HD2.out.below hb HD2.out.lt).lt)
    have HB5 := hide ((Blk.new w3 29 [.slice A5 l5.length c5, .int .i64 m5, .int .i64 s5]).alloc (.cells y5.cs.toArray 25))
    have HE5 := hide (Blk.new (w3.alloc (.cells #[.slice A5 l5.length c5, .int .i64 m5, .int .i64 s5] 29)) 25 y5.cs)
    rw [World.size_alloc] at HE5
    have HI5 := hide (hi.below HW3.out)
    have HZ5 := hide (hyi.below HW3.out)
    clear hk hy hi hyi hb q0 q1 q2 p0 p1 p2 p3 HAP HB2 HD2 HF2 HW3
    obtain ⟨q0, q1, q2⟩ := HB3.out.c3
    obtain ⟨p0, p1, p2, p3⟩ := HD3.out.c4
    have HAP := hide (jrsync_any ⟨A2, l2, c2, m2, s2⟩ d _ HF3.out.size (HI.out.below HF3.out) (HD.out.below HF3.out))
    rw [HX] at HAP
    clear HX
    go_wp2_with fail
    refine HAP.out.mono ?_
    rintro e w4 ⟨⟨A7, l7, c7, m7, s7⟩, y7, rfl, hk, hy, hi, hyi, hb⟩
    have HK7 := hide hk
    have HY7 := hide hy
    have HW4 := hide (show Below w4.heap.size w4 ((w4.alloc (.cells #[.slice A7 l7.length c7, .int .i64 m7, .int .i64 s7] 29)).alloc (.cells y7.cs.toArray 25)) from (below_new w4 _).alloc (by simp) _)
    have HF5 := hide (below_one (below_one HF3.out hb) HW4.out)
    have HB55 := hide ((HB5.out.below hb HB5.out.lt).below HW4.out (HB5.out.below hb HB5.out.lt).lt)
    have HE55 := hide ((HE5.out.below hb HE5.out.lt).below HW4.out (HE5.out.below hb HE5.out.lt).lt)
    have HB75 := hide ((Blk.new w4 29 [.slice A7 l7.length c7, .int .i64 m7, .int .i64 s7]).alloc (.cells y7.cs.toArray 25))
    have HE75 := hide (Blk.new (w4.alloc (.cells #[.slice A7 l7.length c7, .int .i64 m7, .int .i64 s7] 29)) 25 y7.cs)
    rw [World.size_alloc] at HE75
    have HI55 := hide ((HI5.out.below hb).below HW4.out)
    have HZ55 := hide ((HZ5.out.below hb).below HW4.out)
    have HI75 := hide (hi.below HW4.out)
    have HZ75 := hide (hyi.below HW4.out)
    clear hk hy hi hyi hb q0 q1 q2 p0 p1 p2 p3 HAP HB3 HD3 HF3 HB5 HE5 HI5 HZ5 HW4
    obtain ⟨q0, q1, q2⟩ := HB55.out.c3
    obtain ⟨p0, p1, p2⟩ := HB75.out.c3
    have HSM := hide (jsame_any (Jr.mk A5 l5 c5 m5 s5) (Jr.mk A7 l7 c7 m7 s7) _ HI55.out HI75.out)
    rw [HK5.out, HK7.out, sameJ_self] at HSM
    have HDS := hide (fun W (hW : Below ((w4.alloc (.cells #[.slice A7 l7.length c7, .int .i64 m7, .int .i64 s7] 29)).alloc (.cells y7.cs.toArray 25)).heap.size ((w4.alloc (.cells #[.slice A7 l7.length c7, .int .i64 m7, .int .i64 s7] 29)).alloc (.cells y7.cs.toArray 25)) W) => same_any y5 y7 W (HZ55.out.below hW) (HZ75.out.below hW) (HY5.out.trans HY7.out.symm))
    go_wp2_with fail
    refine HSM.out.mono ?_
    rintro e w5 ⟨rfl, hb⟩
    have HF6 := hide (below_one HF5.out hb)
    have HS5 := hide (HDS.out w5 hb)
    obtain ⟨a0, a1, a2, a3⟩ := (HE55.out.below hb HE55.out.lt).c4
    obtain ⟨b0, b1, b2, b3⟩ := (HE75.out.below hb HE75.out.lt).c4
    clear hb q0 q1 q2 p0 p1 p2 HDS HSM
    go_wp2_with fail
    refine HS5.out.mono ?_
    rintro e w6 ⟨rfl, hb⟩
    have HF7 := hide (below_one HF6.out hb)
    clear hb a0 a1 a2 a3 b0 b1 b2 b3
    go_wp2_with fail
    go_ret
    exact ⟨rfl, HF7.out⟩
end Go.Proofs.Ytgigccgklahddaa

/- JournalSyncSpec: for every journal and disk, Sync matches the reference. Where what comes in is of bulk at most 1048576. -/
namespace Go.Proofs.Ytgigccgklahddaa.journalSyncSpec
open Go.ChangeShapes Go.WideShapes Go.ChangeAt Go.RowKit Go.Deep

set_option maxRecDepth 100000 in
theorem contract (H : Type) (enc : TypeId × Value → H) (W : World) (base : Nat) (args : Array Value) (ds gs : List (DataW H)) (before : List MemPlace)
    (hval0 : ∀ (j : Nat) t v, Try.f5.params[j]? = some t → args[j]? = some v → Value.okWide Try.prog W .any base t v)
    (hW : DataW.Whole enc Try.prog Try.f5.params.toList Rows.journalSyncSpecSpec.vars false W args.toList ds gs before) (hk : Rows.uptoSmall H (ds ++ gs) = true)
    (hsz0 : (DataW.weightsEach Try.prog (Try.f5.params.toList ++ []) (ds ++ gs)).all (· ≤ reachBytes) = true) :
    Calls Try.prog 5 args W fun e W' => ∃ v, e = .returned v ∧ Rows.journalSyncSpecSpec.post enc Try.prog Try.f5 false true false false W args v W' := by
  have hval : ∀ (j : Nat) t v, Try.f5.params[j]? = some t → args[j]? = some v → Value.okWide Try.prog W .any base t v := hval0
  have hW' := hW
  obtain ⟨p, q, hA0, hV, rfl, hfz, hnd⟩ := hW
  have hA : DataW.TrodAll enc Try.prog W 0 (fun _ => true) true Try.f5.params.toList args.toList ds p := hA0
  have hAk := hA
  have hsz : (DataW.weightsEach Try.prog (Try.f5.params.toList ++ []) (ds ++ gs)).all (· ≤ reachBytes) = true := hsz0
  obtain ⟨rfl, rfl⟩ := trodVars_none hV
  rw [Try.params5] at hA hval hsz
  obtain ⟨v0, vs0, d0, ds0, p0, q0, hargs, rfl, rfl, h0, w0⟩ := trodAll_cons hA
  obtain ⟨v1, vs1, d1, ds1, p1, q1, rfl, rfl, rfl, h1, w1⟩ := trodAll_cons w0
  obtain ⟨rfl, rfl, rfl⟩ := trodAll_nil w1
  obtain rfl : args = #[v0, v1] := by cases args; simp_all
  have hreach : ∀ (j : Nat) t d, ([29, 25] : List TypeId)[j]? = some t → ([d0, d1] : List (DataW H))[j]? = some d → Reach t d := by
    intro j t d ht hd n hn
    have := List.all_eq_true.1 hsz _ (DataW.weights_mem_each (j := j) (t := t) (d := d) (by simpa using ht) (by simpa using hd) n hn)
    simpa using this
  have hkk : Rows.uptoBulkAll ([d0, d1] ++ []) ≤ 1048576 := of_decide_eq_true hk
  have hbulk : ∀ (j : Nat) d, ([d0, d1] : List (DataW H))[j]? = some d → Rows.uptoBulk d ≤ 1048576 := fun j d hd => Nat.le_trans (bulk_mem (List.mem_append_left _ (List.mem_of_getElem? hd))) hkk
  obtain ⟨s0, rfl, n0⟩ := open_journalB (hval 0 29 v0 rfl rfl) h0 (hreach 0 29 d0 rfl rfl) (hbulk 0 d0 rfl)
  obtain ⟨s1, rfl, n1, x1⟩ := open_disk (hval 1 25 v1 rfl rfl) h1 (hreach 1 25 d1 rfl rfl)
  clear hA0 hval0
  simp only [List.append_nil] at hW' hAk
  refine (jsspec_walk s0 s1 W n0 n1).mono fun e W' ⟨he, hg⟩ => ?_
  subst he
  exact ⟨_, rfl, post_true rfl hW' hAk (by rw [Try.params5]; decide +kernel) (by kernel_rfl) rfl rfl rfl hg⟩

set_option maxRecDepth 100000 in
theorem lifted (os : Os) (started : os.Started) (H : Type) (enc : TypeId × Value → H) (F : Stop.Interp) :
    ReturnsInHanded {} Try.checked os 5 .any ((Rows.OpenSpec.upto Rows.journalSyncSpecSpec).pre6 enc Try.prog Try.f5 Rows.journalSyncSpecUptoRow.domain false) (((Rows.OpenSpec.upto Rows.journalSyncSpecSpec).at F).post enc Try.prog Try.f5 false true false false) := by
  refine returnsInHanded_of_cond_sized (C := Try.checked) (s := Rows.OpenSpec.upto Rows.journalSyncSpecSpec) (k := Rows.uptoSmall) rfl ownKnobNone started (by kernel_rfl) Try.func5
    (OpenSpec.witness (enc := enc) (C := Try.checked) (s := Rows.OpenSpec.upto Rows.journalSyncSpecSpec) (k := Rows.uptoSmall) rfl false ⟨#[], #[.agg #[.slice none 0 0, .int .i64 0, .int .i64 0], .agg #[.slice none 0 0, .slice none 0 0, .int .i64 0, .bool false]], []⟩ 8 (by kernel_rfl) (by kernel_rfl) (by kernel_rfl)
      (x := ([.agg [.nil, .lit (.int .i64 0), .lit (.int .i64 0)], .agg [.nil, .nil, .lit (.int .i64 0), .lit (.bool false)]], [], [])) (by kernel_rfl) rfl (by kernel_rfl)) ?_
  intro W base args ds gs before hval0 hW _ hk hsz0 _
  exact contract H enc W base args ds gs before hval0 hW hk hsz0

theorem over : Rows.journalSyncSpecUptoRow.holds Try.pinned (Rows.OpenSpec.upto Rows.journalSyncSpecSpec) :=
  OpenClaim.holds_of_cond 5 Try.f5 rfl rfl rfl rfl rfl rfl rfl ⟨rfl, rfl, rfl, rfl, rfl⟩ rfl rfl rfl rfl rfl (by kernel_rfl) Try.func5 (by kernel_rfl)
    (of_decide_eq_true (by kernel_rfl)) (by unfold Func.isWrapper; first | (rw [if_pos (by decide +kernel)]; kernel_rfl) | (rw [if_neg (by decide +kernel)]; exact ⟨rfl, rfl⟩))
    (fun os started H enc _ F => lifted os started H enc F)

/-- The statement. -/
theorem proved : Rows.JournalSyncSpecUptoSaid :=
  over
#print axioms proved
end Go.Proofs.Ytgigccgklahddaa.journalSyncSpec
