/- Append of the program. -/
import Derived.Test.YtgigccgklahddaaOcc
import Derived.Test.YtgigccgklahddaaRWri2
namespace Go.Proofs.Ytgigccgklahddaa
open Go.RowKit
variable {n0 : Nat}

def Jk.append (j : Jk) (b : List UInt8) : Jk × Int :=
  if j.ok = true then (if j.many - usedB j.recs < secN b.length then (Jk.zero, 2) else (⟨j.recs ++ [b], j.many, j.synced⟩, 0)) else (Jk.zero, 1)
/-- A call that answers a journal and an error. -/
def JAns (n0 : Nat) (w : World) (x : Jk × Int) (e : Ending) (w' : World) : Prop := ∃ j : Jr, e = .returned (.tuple #[j.v, .int .i64 x.2]) ∧ j.k = x.1 ∧ j.In n0 w' ∧ Below w.heap.size w w'
theorem JAns.zero {w w' : World} {x : Jk × Int} {n : Int} (hx : x = (Jk.zero, n)) (hb : Below w.heap.size w w') : JAns n0 w x (.returned (.tuple #[Jr.zero.v, .int .i64 n])) w' := by
  subst hx
  exact ⟨Jr.zero, rfl, rfl, Jr.zero_in _, hb⟩
theorem usedB_ge (l : List (List UInt8)) : l.length ≤ usedB l := by
  have key : ∀ k, k ≤ l.length → k ≤ usedB (l.take k) := by
    intro k
    induction k with
    | zero => intro _; exact Nat.zero_le _
    | succ k ih =>
      intro h
      rw [usedB_take (by omega)]
      have := ih (by omega)
      have := secN_pos (l[k]'(by omega)).length
      omega
  have := key l.length (Nat.le_refl _)
  rwa [List.take_length] at this
theorem one29 (a : Option Addr) (n c : Nat) (x y : Int) : (#[Value.slice a n c, .int .i64 x, .int .i64 y]).all (·.oneCell') = true := by simp [Value.oneCell']
theorem Try.size29 : (Try.prog.info? 29).map (·.size) = some 3 := by kernel_rfl

set_option maxRecDepth 100000 in
theorem clip22_any (A : Option Addr) (n cap : Nat) (w : World) (h : n ≤ cap) (hc : cap ≤ 9223372036854775807) (hA : A = none → n = 0 ∧ cap = 0) :
    Calls Try.prog 37 #[.slice A n cap] w fun e w' => e = .returned (.slice A n n) ∧ w = w' := by
  cases A with
  | none =>
    obtain ⟨rfl, rfl⟩ := hA rfl
    go_enter Try.func37, Try.ntmps37
    go_wp2_with fail
    go_ret
    exact ⟨rfl, rfl⟩
  | some a =>
    go_enter Try.func37, Try.ntmps37
    go_wp2_with fail
    go_ret
    exact ⟨rfl, rfl⟩
set_option maxRecDepth 100000 in
/-- Clone of whatever bytes. -/
theorem cloneS_any (s : Sec) (w : World) (hi : s.In n0 w) (hl : s.l.length ≤ 140737488355328) :
    Calls Try.prog 38 #[s.v] w fun e w' => ∃ c : Sec, e = .returned c.v ∧ c.l = s.l ∧ Below w.heap.size w w' ∧ c.Fresh w' := by
  obtain ⟨A, l, cap⟩ := s
  cases A with
  | none =>
    have hc := hi.nil rfl
    have hle := hi.le
    simp only at hc hle hl
    obtain rfl : l = [] := List.eq_nil_of_length_eq_zero (by omega)
    subst hc
    clear hi
    have hnl := fun w' => @Lib.run_eql_slice_nil Try.prog w' 35 5 none 0 0 0 0 Try.underlying35
    show Calls Try.prog 38 #[.slice none 0 0] w _
    go_enter Try.func38, Try.ntmps38
    go_wp2_with fail
    go_ret
    exact ⟨⟨none, [], 0⟩, rfl, rfl, Below.refl _ _, .inl ⟨rfl, rfl, rfl⟩⟩
  | some a =>
    by_cases h0 : l = []
    · subst h0
      have hnl := fun w' => @Lib.run_eql_slice_nil Try.prog w' 35 5 (some a) 0 cap 0 0 Try.underlying35
      obtain ⟨i5, HI5⟩ := hinfo5
      have HI5 := hide HI5
      have HO := hide (own_empty w w.heap.size 5 1 (Nat.le_refl _))
      have hz : w.heap.size ≤ (w.alloc (.cells #[] 5)).heap.size := by simp
      clear hi
      show Calls Try.prog 38 #[.slice (some a) 0 cap] w _
      go_enter Try.func38, Try.ntmps38
      go_wp2_with (at_builtin; refine wpList_app rfl (.tmp 5) (.tmp 6) 35 rfl w.heap.size 5 i5 _ 1 1 Try.underlying35 HI5.out rfl (by omega) _ 0 [] rfl HO.out (some a) 0 cap [] rfl (fun h => by cases h) rfl (fun ad e j u hu => by cases hu) (fun u hu => by cases hu) (by unfold maxLen; omega) (by omega) hz ?_; intro A2 cap2 w2 hown hg; rw [Nat.zero_add, List.nil_append] at hown; have HO2 := hide hown; have HK2 := hide (below_app (B := w.heap.size) (below_new w (.cells #[] 5)) HO.out hg (Nat.le_refl _) hz); clear hown hg)
      go_ret
      refine ⟨⟨A2, [], cap2⟩, rfl, rfl, HK2.out, ?_⟩
      rcases HO2.out.2 with ⟨h0, _⟩ | ⟨g, cap', cur, hv, _⟩
      · injection h0 with h1 h2 h3
        exact .inl ⟨h1, rfl, h3⟩
      · injection hv with h1 _ h3
        subst h1 h3
        obtain ⟨cs, hcs⟩ := own_blk HO2.out
        exact .inr ⟨g, cs, rfl, hcs, Nat.zero_le _, (own_caps HO2.out).2⟩
    · obtain ⟨b, o, e, -, -⟩ := hi.cels.at (k := 0) (by rw [bs_len]; exact List.length_pos_iff.2 h0)
      simp only [Option.some.injEq] at e
      subst e
      refine (cloneB_any b o l cap w hi hl).mono ?_
      rintro e w' ⟨A3, c, rfl, hown, hb⟩
      refine ⟨⟨A3, l, c⟩, rfl, rfl, hb, .inr ?_⟩
      obtain ⟨g, c', he, _, _⟩ := hown.form (List.length_pos_iff.2 h0)
      obtain ⟨rfl, rfl⟩ := slice_inj he
      obtain ⟨cs, hcs⟩ := own_blk hown
      exact ⟨g, cs, rfl, hcs, (own_caps hown).1, (own_caps hown).2⟩

set_option maxRecDepth 100000 in
set_option maxHeartbeats 6400000 in
theorem jappend_any (j : Jr) (b : Sec) (w : World) (hi : j.In n0 w) (hb : b.In n0 w) (hl : b.l.length ≤ 140737488355328) :
    Calls Try.prog 15 #[j.v, b.v] w (JAns n0 w (j.k.append b.l)) := by
  obtain ⟨A, rs, cap, many, synced⟩ := j
  have HI := hide hi
  have HI0 := hide hb
  have HLB := hide hl
  have HB := hide ((Blk.new w 29 [.slice A rs.length cap, .int .i64 many, .int .i64 synced]).alloc (.cells #[.slice none 0 0, .int .i64 0, .int .i64 0] 29))
  have HR := hide (Blk.new (w.alloc (.cells #[.slice A rs.length cap, .int .i64 many, .int .i64 synced] 29)) 29 [.slice none 0 0, .int .i64 0, .int .i64 0])
  rw [World.size_alloc] at HR
  have HW := hide (show Below w.heap.size w ((w.alloc (.cells #[.slice A rs.length cap, .int .i64 many, .int .i64 synced] 29)).alloc (.cells #[.slice none 0 0, .int .i64 0, .int .i64 0] 29)) from (below_new w _).alloc (by simp) _)
  have HC := hide (jcheck_any _ _ (hi.below HW.out))
  have c0 := HB.out.cell 0
  have c1 := HB.out.cell 1
  have c2 := HB.out.cell 2
  clear hi hb
  cases hk : (Jr.mk A rs cap many synced).k.ok with
  | false =>
    rw [jchk_no hk] at HC
    have HX := hide (show (Jr.mk A rs cap many synced).k.append b.l = (Jk.zero, 1) by unfold Jk.append; rw [if_neg (by simp [hk])])
    clear hk
    go_enter Try.func15, Try.ntmps15
    go_wp2_with fail
    refine HC.out.mono ?_
    rintro e w1 ⟨rfl, hb⟩
    have HF := hide (below_one HW.out hb)
    have HR1 := hide (HR.out.below hb HR.out.lt)
    clear hb
    go_wp2_with (refine wpList_store_row rfl 29 (.tmp 4) (.tmp 11) rfl (w.heap.size + 1) #[.slice none 0 0, .int .i64 0, .int .i64 0] rfl rfl 29 _ HR1.out Try.size29 rfl (one29 _ _ _ _ _) ?_)
    exact bodyPost_ret (v := .tuple #[Jr.zero.v, .int .i64 1]) (results_cell_row_tmp rfl _ _ (w.heap.size + 1) 29 #[.slice none 0 0, .int .i64 0, .int .i64 0] (0, 0) _ (.int .i64 1) rfl rfl (setRow_heap _ _ _ _ _ _ HR1.out) Try.underlying29 rfl Try.size29) rfl (JAns.zero HX.out (below_setRow HF.out (by omega) _))
  | true =>
    rw [jchk_yes hk] at HC
    obtain ⟨h1, h2, h3, h4, h5⟩ := ok_iff.1 hk
    replace h1 : 1 ≤ many := h1
    replace h2 : many ≤ 4096 := h2
    replace h5 : (usedB (secD rs) : Int) ≤ many := h5
    have hwr : IntKind.i64.wrap (many - (usedB (secD rs) : Int)) = many - usedB (secD rs) := wrap_i64 _ (by omega) (by omega)
    have HXF := hide (show (Jr.mk A rs cap many synced).k.append b.l = if many - usedB (secD rs) < secN b.l.length then (Jk.zero, 2) else (⟨secD rs ++ [b.l], many, synced⟩, 0) by
      unfold Jk.append
      rw [if_pos hk]
      rfl)
    have HSN := hide (show usedB (secD [b]) = secN b.l.length from usedB_one b.l)
    have HRL := hide (show rs.length ≤ 4096 by have := usedB_ge (secD rs); rw [secD_len] at this; omega)
    clear hk h3 h4
    go_enter Try.func15, Try.ntmps15
    go_wp2_with fail
    refine HC.out.mono ?_
    rintro e w1 ⟨rfl, hb⟩
    have HF := hide (below_one HW.out hb)
    have HR1 := hide (HR.out.below hb HR.out.lt)
    have HB1 := hide (HB.out.below hb HB.out.lt)
    clear hb HC c0 c1 c2
    go_upto_region 4 with (fail)
    have HB2 := hide (show ∀ W, Below w1.heap.size w1 W → Blk W w.heap.size 29 [.slice A rs.length cap, .int .i64 many, .int .i64 synced] from fun W hW => HB1.out.below hW HB1.out.lt)
    have HLF := hide (show ∀ W, Below w1.heap.size w1 W → Calls Try.prog 36 #[.agg #[.slice A rs.length cap, .int .i64 many, .int .i64 synced]] W fun e w' => e = .returned (.int .i64 (many - usedB (secD rs))) ∧ Below W.heap.size W w' from fun W hW => by
      have := left_any (Jr.mk A rs cap many synced) W (HI.out.below (below_one HF.out hW)) (by show usedB (secD rs) ≤ _; omega)
      simp only [hwr] at this
      exact this)
    have HOC := hide (show ∀ W X, Below w1.heap.size w1 W → Blk W X 35 [b.v] → Calls Try.prog 35 #[.slice (some ⟨X, 0, none⟩) 1 1] W fun e w' => e = .returned (.int .i64 (secN b.l.length : Nat)) ∧ W = w' from fun W X hW hX => by
      have := occupied_any (some ⟨X, 0, none⟩) [b] 1 W ⟨by have := Blk.cels (n0 := n0) (xs := secs [b]) (cs := []) (by rw [List.append_nil]; exact hX) (by omega); exact this, fun s hs => by obtain rfl : s = b := (by simpa using hs); exact HI0.out.below (below_one HF.out hW), by simp, by decide, fun e => by cases e⟩ (fun s hs => by obtain rfl : s = b := (by simpa using hs); exact HLB.out) (by simp)
      rw [HSN.out] at this
      exact this)
    have HBD := hide (show Below w1.heap.size w1 w1.drew from (Below.refl _ _).drew)
    refine wp_region_plan3 (fun w' => Below w1.heap.size w1 w') (.take 0 (.take 3 (.run 1 (.run 2 (.run 4 (.take 5 .done)))))) (by kernel_rfl) (by kernel_rfl) HBD.out ?_
    generalize w1.drew = wD at HBD ⊢
    (refine plan3_take (o := ?_) (v := ?_) (by simp only [List.getElem?_toArray, List.getElem?_cons_zero]; rfl) (yields_run (by rfl) ?_) ?_; rotate_left; (focus (intro w' hw'; have q0 := (HB2.out w' hw').cell 0; have q1 := (HB2.out w' hw').cell 1; have q2 := (HB2.out w' hw').cell 2; go_simp <;> with_reducible rfl)); (simp only [Act.put, List.setIfInBounds_toArray, List.set_cons_zero, List.set_cons_succ]))
    (refine plan3_take (o := ?_) (v := ?_) (by simp only [List.getElem?_toArray, List.getElem?_cons_succ, List.getElem?_cons_zero]; rfl) (yields_run (by rfl) ?_) ?_; rotate_left; (focus (intro w' hw'; have q0 := (HB2.out w' hw').cell 0; have q1 := (HB2.out w' hw').cell 1; have q2 := (HB2.out w' hw').cell 2; go_simp <;> with_reducible rfl)); (simp only [Act.put, List.setIfInBounds_toArray, List.set_cons_zero, List.set_cons_succ]))
    refine plan3_run (o := ?_) (by simp only [List.getElem?_toArray, List.getElem?_cons_succ, List.getElem?_cons_zero]; rfl) ?_
    intro R HRR
    have HB12 := hide (below_one HBD.out (below_new wD (.cells #[b.v] 35)))
    have HX12 := hide (Blk.new wD 35 [b.v])
    go_wp2_with fail
    refine HRR.out _ _ HB12.out ?_
    clear HRR
    refine plan3_run (o := ?_) (by simp only [List.getElem?_toArray, List.getElem?_cons_succ, List.getElem?_cons_zero]; rfl) ?_
    intro R HRR
    go_wp2_with fail
    (with_reducible refine (HOC.out _ _ HB12.out HX12.out).mono ?_)
    rintro e v13 ⟨rfl, rfl⟩
    go_wp2_with fail
    refine HRR.out _ _ HB12.out ?_
    clear HRR
    refine plan3_run (o := ?_) (by simp only [List.getElem?_toArray, List.getElem?_cons_succ, List.getElem?_cons_zero]; rfl) ?_
    intro R HRR
    go_wp2_with fail
    (with_reducible refine (HLF.out _ HB12.out).mono ?_)
    rintro e w3 ⟨rfl, hb⟩
    have HB14 := hide (below_one HB12.out hb)
    clear hb
    go_wp2_with fail
    refine HRR.out _ _ HB14.out ?_
    clear HRR
    have HB3 := HB14
    (refine plan3_take (o := ?_) (v := ?_) (by simp only [List.getElem?_toArray, List.getElem?_cons_succ, List.getElem?_cons_zero]; rfl) (yields_run (by rfl) ?_) ?_; rotate_left; (focus (intro w' _; go_simp <;> with_reducible rfl)); (simp only [Act.put, List.setIfInBounds_toArray, List.set_cons_zero, List.set_cons_succ]))
    refine plan3_done ?_
    have HR3 := hide (HR1.out.below HB3.out HR1.out.lt)
    have HJ3 := hide (HB2.out _ HB3.out)
    have HF3 := hide (below_one HF.out HB3.out)
    clear HB2 HLF HOC HBD HB1 HR1
    by_cases hs : many - (usedB (secD rs) : Int) < secN b.l.length
    · have HX := hide (show (Jr.mk A rs cap many synced).k.append b.l = (Jk.zero, 2) by rw [HXF.out, if_pos hs])
      go_wp2_with (refine wpList_store_row rfl 29 (.tmp 4) (.tmp 19) rfl (w.heap.size + 1) #[.slice none 0 0, .int .i64 0, .int .i64 0] rfl rfl 29 _ HR3.out Try.size29 rfl (one29 _ _ _ _ _) ?_)
      exact bodyPost_ret (v := .tuple #[Jr.zero.v, .int .i64 2]) (results_cell_row_tmp rfl _ _ (w.heap.size + 1) 29 #[.slice none 0 0, .int .i64 0, .int .i64 0] (0, 0) _ (.int .i64 2) rfl rfl (setRow_heap _ _ _ _ _ _ HR3.out) Try.underlying29 rfl Try.size29) rfl (JAns.zero HX.out (below_setRow HF3.out (by omega) _))
    · have hs' : (secN b.l.length : Int) ≤ many - (usedB (secD rs) : Int) := by omega
      have HX := hide (show (Jr.mk A rs cap many synced).k.append b.l = (⟨secD rs ++ [b.l], many, synced⟩, 0) by rw [HXF.out, if_neg hs])
      have HCL := hide (fun W => clip22_any A rs.length cap W HI.out.recs.le HI.out.recs.top (fun h => by
        have h3 := HI.out.recs.nil h
        have h4 := HI.out.recs.le
        simp only at h3 h4
        omega))
      have HCS := hide (fun W (hW : Below w.heap.size w W) => cloneS_any b W (HI0.out.below hW) HLB.out)
      have c0 := HJ3.out.cell 0
      have f0 := HJ3.out.free 0
      clear hs h1 h2 h5
      go_wp2_with fail
      refine (HCL.out _).mono ?_
      rintro e v' ⟨rfl, rfl⟩
      go_wp2_with fail
      refine (HCS.out _ HF3.out).mono ?_
      rintro e w4 ⟨c, rfl, hcl, hb4, hcm⟩
      have HCM := hide hcm
      have HCLN := hide hcl
      have HF4 := hide (below_one HF3.out hb4)
      have HJ4 := hide (HJ3.out.below hb4 HJ3.out.lt)
      have HR4 := hide (HR3.out.below hb4 HR3.out.lt)
      have hX5 := Blk.new w4 35 [c.v]
      have HOLD := hide (((HI.out.recs.cels.below HF4.out).below (below_new w4 (.cells #[c.v] 35))).opt)
      have HNEW := hide (show ∀ j u, [c.v][j]? = some u → (w4.alloc (.cells #[c.v] 35)).cell? ((⟨w4.heap.size, 0, none⟩ : Addr).add j) = some u from fun j u hu => by
        rw [Addr.add_mid, Nat.zero_add]
        exact (hX5.cell j).trans hu)
      have HLEN := hide (show (secs rs).length = rs.length * 1 by rw [secs_len, Nat.mul_one])
      have HNIL := hide (show A = none → rs.length = 0 ∧ rs.length = 0 from fun h => by
        have h3 := HI.out.recs.nil h
        have h4 := HI.out.recs.le
        simp only at h3 h4
        omega)
      have hvl := HRL.out
      obtain ⟨i35, hi0, hz0, hz1, hz2⟩ := hinfo35
      have HIN := hide (And.intro hi0 (And.intro hz0 (And.intro hz1 hz2)))
      have HJ5 := hide (HJ4.out.alloc (.cells #[c.v] 35))
      have HR5 := hide (HR4.out.alloc (.cells #[c.v] 35))
      have HF5 := hide (HF4.out.alloc HF4.out.size (.cells #[c.v] 35))
      clear hX5 hcl hb4 hcm hi0 hz0 hz1 hz2 c0 f0 HCL HCS
      go_upto_region 8 with (at_builtin; refine wpList_append_grows _ rfl (.tmp 23) (.tmp 26) 22 rfl 35 i35 _ 1 24 Try.underlying22 HIN.out.1 HIN.out.2.1 HIN.out.2.2.1 HIN.out.2.2.2 rfl (by omega) A rs.length rs.length (secs rs) rfl HNIL.out HLEN.out HOLD.out ⟨w4.heap.size, 0, none⟩ 1 1 [c.v] rfl rfl HNEW.out (by simp [Value.oneCell']) (by omega) (by unfold maxLen; omega) (by omega) ?_; intro v' w6 hown hg; obtain ⟨g, cap6, rfl, hbase, hlt⟩ := hown.form (by omega); have HO := hide hown; have HG := hide (only_none hg); have HJ6 := hide (HJ5.out.below (only_none hg) HJ5.out.lt); have HR6 := hide (HR5.out.below (only_none hg) HR5.out.lt); have HF6 := hide (below_one HF5.out (only_none hg)); have c0 := HJ6.out.cell 0; have f0 := HJ6.out.free 0; clear hown hg hbase hlt)
      have hJX : w6.grownBy (w6.setCell ⟨w.heap.size, 0, none⟩ (.slice (some ⟨g, 0, none⟩) (rs.length + 1) cap6)) (some w.heap.size) := only_setCell (only_refl _ _) (.inl rfl) _
      have HJ7 := hide (HJ6.out.set 0 (.slice (some ⟨g, 0, none⟩) (rs.length + 1) cap6))
      simp only [List.set_cons_zero] at HJ7
      have HR7 := hide (HR6.out.apart (p := ⟨w.heap.size, 0, none⟩) (by simp) (.slice (some ⟨g, 0, none⟩) (rs.length + 1) cap6))
      have HFF := hide (below_setRow (HF6.out.setCell (p := ⟨w.heap.size, 0, none⟩) (Nat.le_refl _) (.slice (some ⟨g, 0, none⟩) (rs.length + 1) cap6)) (g := w.heap.size + 1) (by omega) #[.slice (some ⟨g, 0, none⟩) (rs.length + 1) cap6, .int .i64 many, .int .i64 synced])
      have HCF := hide ((((HCM.out.below (below_new w4 (.cells #[c.v] 35))).below HG.out).only hJX HJ6.out (by omega)).only (only_setRow (only_refl _ _) (.inl rfl) #[.slice (some ⟨g, 0, none⟩) (rs.length + 1) cap6, .int .i64 many, .int .i64 synced]) HR7.out (by omega))
      obtain ⟨cs, hcs⟩ := own_blk HO.out
      have HRW := hide ((hcs.only hJX (hcs.ne HJ6.out (by omega))).only (only_setRow (only_refl _ _) (.inl rfl) #[.slice (some ⟨g, 0, none⟩) (rs.length + 1) cap6, .int .i64 many, .int .i64 synced]) ((hcs.only hJX (hcs.ne HJ6.out (by omega))).ne HR7.out (by omega)))
      clear hcs hJX
      go_wp2_with (first | (refine wpList_load_row rfl 29 (.tmp 2) rfl w.heap.size rfl 29 _ (0, 0) _ HJ7.out Try.underlying29 rfl Try.size29 ?_) | (refine wpList_store_row rfl 29 (.tmp 4) (.tmp 29) rfl (w.heap.size + 1) #[.slice (some ⟨g, 0, none⟩) (rs.length + 1) cap6, .int .i64 many, .int .i64 synced] rfl rfl 29 _ HR7.out Try.size29 rfl (one29 _ _ _ _ _) ?_))
      refine bodyPost_ret (v := .tuple #[.agg #[.slice (some ⟨g, 0, none⟩) (rs.length + 1) cap6, .int .i64 many, .int .i64 synced], .int .i64 0]) (results_cell_row_tmp rfl _ _ (w.heap.size + 1) 29 #[.slice (some ⟨g, 0, none⟩) (rs.length + 1) cap6, .int .i64 many, .int .i64 synced] (0, 0) _ (.int .i64 0) rfl rfl (setRow_heap _ _ _ _ _ _ HR7.out) Try.underlying29 rfl Try.size29) rfl ?_
      rw [HX.out]
      have hsv : secs (rs ++ [c]) = secs rs ++ [c.v] := by rw [secs_app]; rfl
      refine ⟨⟨some ⟨g, 0, none⟩, rs ++ [c], cap6, many, synced⟩, by simp [Jr.v], ?_, ⟨⟨?_, fun s hs => ?_, ?_, (own_caps HO.out).2, fun e => by cases e⟩, HI.out.many, HI.out.synced, fun s hs => ?_, ?_⟩, HFF.out⟩
      · show (⟨secD (rs ++ [c]), many, synced⟩ : Jk) = _
        rw [show secD (rs ++ [c]) = secD rs ++ [c.l] by simp [secD], HCLN.out]
      · show Cels n0 _ _ (secs (rs ++ [c]))
        rw [hsv]
        exact HRW.out.cels (by omega)
      · rcases List.mem_append.1 hs with hs | hs
        · exact (HI.out.recs.each s hs).below HFF.out
        · obtain rfl : s = c := by simpa using hs
          exact HCF.out.in
      · have := (own_caps HO.out).1
        show (rs ++ [c]).length ≤ cap6
        simpa using this
      · rcases List.mem_append.1 hs with hs | hs
        · exact HI.out.short s hs
        · obtain rfl : s = c := by simpa using hs
          rw [HCLN.out]
          exact HLB.out
      · show (rs ++ [c]).length ≤ 1000000
        have := HRL.out
        simp
        omega
end Go.Proofs.Ytgigccgklahddaa
