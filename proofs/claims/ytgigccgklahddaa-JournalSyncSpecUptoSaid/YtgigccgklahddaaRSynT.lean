/- Sync of the reference. -/
import Derived.Test.YtgigccgklahddaaRWri2
import Derived.Test.YtgigccgklahddaaSyt
import Derived.Deep.CutRange
import Derived.Deep.CutBlock
import Derived.Deep.Cut
namespace Go.Proofs.Ytgigccgklahddaa
open Go.RowKit
variable {n0 : Nat}

/-- A sector in a block of its own. -/
def Sec.Mine (s : Sec) (W : World) : Prop := ∃ B cs, s.A = some ⟨B, 0, none⟩ ∧ Blk W B 5 (bs s.l ++ cs) ∧ s.l.length ≤ s.cap ∧ s.cap ≤ 9223372036854775807
theorem Sec.Mine.below {s : Sec} {W W' : World} (h : s.Mine W) (hb : Below W.heap.size W W') : s.Mine W' := by
  obtain ⟨B, cs, h1, h2, h3⟩ := h
  exact ⟨B, cs, h1, h2.below hb h2.lt, h3⟩
theorem Sec.Mine.only {s : Sec} {W W' : World} {g T : Nat} {cs : List Value} (h : s.Mine W) (hg : W.grownBy W' (some g)) (hG : Blk W g T cs) (hT : T ≠ 5) : s.Mine W' := by
  obtain ⟨B, ds, h1, h2, h3⟩ := h
  exact ⟨B, ds, h1, h2.only hg (h2.ne hG (by omega)), h3⟩
theorem Sec.Mine.in {s : Sec} {W : World} (h : s.Mine W) : s.In n0 W := by
  obtain ⟨B, cs, h1, h2, h3, h4⟩ := h
  exact ⟨by rw [h1]; exact h2.cels (by omega), h3, h4, fun e => by rw [h1] at e; cases e⟩

/-- A row of sectors under way, the new disk's box, and the call's two. -/
structure RS (n0 : Nat) (d : Dsk) (w : World) (g X : Nat) (cur : List Sec) (rest x : List Value) (W : World) : Prop where
  sb : SB d w [.slice none 0 0, .slice none 0 0, .int .i64 0, .bool false] W
  row : Blk W g 35 (secs cur ++ rest)
  ge : w.heap.size ≤ g
  box : Blk W X 25 x
  far : w.heap.size + 1 < X
  each : ∀ s ∈ cur, s.In n0 w ∨ s.Mine W
section
variable {d : Dsk} {w : World} {g X : Nat} {cur : List Sec} {rest x : List Value} {W W' : World}
theorem RS.below (h : RS n0 d w g X cur rest x W) (hb : Below W.heap.size W W') : RS n0 d w g X cur rest x W' :=
  ⟨h.sb.below hb, h.row.below hb h.row.lt, h.ge, h.box.below hb h.box.lt, h.far, fun s hs => (h.each s hs).imp_right fun k => k.below hb⟩
theorem RS.put (h : RS n0 d w g X cur rest x W) {j : Nat} (hj : j < cur.length) {s : Sec} (hs : s.In n0 w ∨ s.Mine W) : RS n0 d w g X (cur.set j s) rest x (W.setCell ⟨g, j, none⟩ s.v) := by
  have hg : W.grownBy (W.setCell ⟨g, j, none⟩ s.v) (some g) := only_setCell (only_refl _ _) (.inl rfl) _
  refine ⟨h.sb.only h.row hg h.ge, ?_, h.ge, h.box.apart (h.box.ne h.row (by omega)) _, h.far, fun t ht => ?_⟩
  · have := h.row.set j s.v
    rwa [List.set_append_left _ _ (by rw [secs_len]; exact hj), ← secs_set] at this
  · rcases List.mem_or_eq_of_mem_set ht with ht | rfl
    · exact (h.each t ht).imp_right fun k => k.only hg h.row (by omega)
    · exact hs.imp_right fun k => k.only hg h.row (by omega)
theorem RS.set (h : RS n0 d w g X cur rest x W) (i : Nat) (v : Value) : RS n0 d w g X cur rest (x.set i v) (W.setCell ⟨X, i, none⟩ v) := by
  have hg : W.grownBy (W.setCell ⟨X, i, none⟩ v) (some X) := only_setCell (only_refl _ _) (.inl rfl) _
  have hf := h.far
  refine ⟨⟨h.sb.box.apart (by simp; omega) _, h.sb.res.apart (by simp; omega) _, h.sb.bel.setCell (by simp; omega) _⟩, h.row.apart (h.row.ne h.box (by omega)) _, h.ge, h.box.set i v, h.far, fun t ht => (h.each t ht).imp_right fun k => k.only hg h.box (by omega)⟩
theorem RS.fin (h : RS n0 d w g X cur rest x W) (cs : Array Value) {c : Nat} (hc : cur.length ≤ c ∧ c ≤ 9223372036854775807) : SecsIn n0 (some ⟨g, 0, none⟩) cur c (W.setRow (w.heap.size + 1) cs) ∧ Below w.heap.size w (W.setRow (w.heap.size + 1) cs) := by
  have hg : W.grownBy (W.setRow (w.heap.size + 1) cs) (some (w.heap.size + 1)) := only_setRow (only_refl _ _) (.inl rfl) _
  have hb : Below w.heap.size w (W.setRow (w.heap.size + 1) cs) := below_setRow h.sb.bel (by omega) _
  refine ⟨⟨(h.row.only hg (h.row.ne h.sb.res (by omega))).cels (by omega), fun s hs => ?_, hc.1, hc.2, fun e => (by cases e)⟩, hb⟩
  rcases h.each s hs with k | k
  · exact k.below hb
  · exact (k.only hg h.sb.res (by omega)).in
theorem rs_of {wD W0 : World} {A : Option Addr} {c : Nat} (hs : SB d w [.slice none 0 0, .slice none 0 0, .int .i64 0, .bool false] wD) (hi : d.In n0 w) (hn : 0 < d.ss.length) (hb : Below wD.heap.size wD W0) (hown : W0.ownsRow wD.heap.size 35 1 (.slice A d.ss.length c) d.ss.length (secs d.ss)) (hX : Blk W0 X 25 x) (hXg : wD.heap.size ≤ X) :
    ∃ g rest, A = some ⟨g, 0, none⟩ ∧ RS n0 d w g X d.ss rest [.slice A d.ss.length c, .slice none 0 0, .int .i64 d.left, .bool false] (W0.setRow X #[.slice A d.ss.length c, .slice none 0 0, .int .i64 d.left, .bool false]) ∧ d.ss.length ≤ c ∧ c ≤ 9223372036854775807 := by
  obtain ⟨g, c', he, _, _⟩ := hown.form hn
  obtain ⟨rfl, rfl⟩ := slice_inj he
  obtain ⟨rest, hrow⟩ := own_blk hown
  have h1 := hs.res.lt
  have hsb := hs.below hb
  have hge := (hown.lt g rfl).1
  have h2 := hs.bel.size
  refine ⟨g, rest, rfl, ⟨⟨hsb.box.far (by omega) _, hsb.res.far (by omega) _, below_setRow hsb.bel (by omega) _⟩, hrow.far (hrow.ne hX (by omega)) _, by omega, ?_, by omega, fun s hs' => .inl (hi.sec.each s hs')⟩, own_caps hown⟩
  exact hX.row _
end

set_option maxRecDepth 10000 in
set_option maxHeartbeats 3200000 in
theorem rsync_bad (d : Dsk) (w : World) (hi : d.In n0 w) (hr : d.d.runs = false) :
    Calls Try.prog 49 #[d.v] w (Ans n0 w d.d.sync) := by
  have HI := hide hi
  have HT := hide (two_below d w)
  have HB := hide (two_boxes d w)
  have HX := hide (show d.d.sync = (Dk.zero, 40) by simp [Dk.sync, hr])
  clear hi
  cases hv : d.d.valid with
  | false =>
    have HC := hide (rcheck_no (two d w) hv (HI.out.below HT.out))
    clear hv hr
    go_enter Try.func49, Try.ntmps49
    go_wp2_with fail
    refine HC.out.mono ?_
    rintro e w1 ⟨rfl, hb⟩
    have HK := hide (show Below w.heap.size w w1 from HT.out.trans (hb.mono HT.out.size))
    have HR := hide (HB.out.2.below hb HB.out.2.lt)
    clear hb
    go_wp2_with (refine wpList_store_row rfl 25 (.tmp 2) (.tmp 16) rfl (w.heap.size + 1) #[.slice none 0 0, .slice none 0 0, .int .i64 0, .bool false] rfl rfl 25 _ HR.out Try.size25 rfl (one25 _ _ _ _ _ _ _ _) ?_)
    exact bodyPost_ret (v := .tuple #[Dsk.zero.v, .int .i64 40]) (results_cell_row_tmp rfl _ _ (w.heap.size + 1) 25 #[.slice none 0 0, .slice none 0 0, .int .i64 0, .bool false] (0, 0) _ (.int .i64 40) rfl rfl (setRow_heap _ _ _ _ _ _ HR.out) Try.underlying25 rfl Try.size25) rfl (Ans.zero HX.out (below_setRow HK.out (by omega) _))
  | true =>
    have HC := hide (rcheck_ok (two d w) hv (HI.out.below HT.out))
    have HS : Hid (d.stp = true) := hide (by
      have h2 : d.d.stp = d.stp := rfl
      simpa [Dk.runs, hv, h2] using hr)
    clear hv hr
    go_enter Try.func49, Try.ntmps49
    go_wp2_with fail
    refine HC.out.mono ?_
    rintro e w1 ⟨rfl, hb⟩
    have HK := hide (show Below w.heap.size w w1 from HT.out.trans (hb.mono HT.out.size))
    have HR := hide (HB.out.2.below hb HB.out.2.lt)
    obtain ⟨c0, c1, c2, c3⟩ := (HB.out.1.below hb HB.out.1.lt).c4
    rw [HS.out] at c3
    clear hb
    go_wp2_with (refine wpList_store_row rfl 25 (.tmp 2) (.tmp 16) rfl (w.heap.size + 1) #[.slice none 0 0, .slice none 0 0, .int .i64 0, .bool false] rfl rfl 25 _ HR.out Try.size25 rfl (one25 _ _ _ _ _ _ _ _) ?_)
    exact bodyPost_ret (v := .tuple #[Dsk.zero.v, .int .i64 40]) (results_cell_row_tmp rfl _ _ (w.heap.size + 1) 25 #[.slice none 0 0, .slice none 0 0, .int .i64 0, .bool false] (0, 0) _ (.int .i64 40) rfl rfl (setRow_heap _ _ _ _ _ _ HR.out) Try.underlying25 rfl Try.size25) rfl (Ans.zero HX.out (below_setRow HK.out (by omega) _))

theorem perfLen (d : Dsk) (k : Nat) : (perf (secD d.ss) ((wrD d.ps).take k)).length = d.ss.length := by rw [perf_len, secD_len]

theorem cels_take {W : World} {l : List UInt8} {b o k : Nat} {ad : Addr} (e : some (⟨b, o, none⟩ : Addr) = some ad) (h : ∀ i (hi : i < (bs l).length), W.cell? ⟨b, o + i, none⟩ = some (bs l)[i]) : ∀ j u, (bs (l.take k))[j]? = some u → W.cell? (ad.add j) = some u := fun j u hu => by
  injection e with e
  subst e
  obtain ⟨hj, rfl⟩ := List.getElem?_eq_some_iff.1 hu
  have hj2 : j < (bs l).length := by rw [bs_len, List.length_take] at hj; rw [bs_len]; omega
  rw [Addr.add_mid, h j hj2]
  simp [bs]
theorem cels_drop {W : World} {l : List UInt8} {b o k : Nat} {ad : Addr} (e : some (⟨b, o + k, none⟩ : Addr) = some ad) (h : ∀ i (hi : i < (bs l).length), W.cell? ⟨b, o + i, none⟩ = some (bs l)[i]) : ∀ j u, (bs (l.drop k))[j]? = some u → W.cell? (ad.add j) = some u := fun j u hu => by
  injection e with e
  subst e
  obtain ⟨hj, rfl⟩ := List.getElem?_eq_some_iff.1 hu
  have hj2 : k + j < (bs l).length := by rw [bs_len, List.length_drop] at hj; rw [bs_len]; omega
  rw [Addr.add_mid, Nat.add_assoc, h _ hj2]
  simp [bs]

set_option maxRecDepth 100000 in
set_option maxHeartbeats 6400000 in
theorem rsync_all (d : Dsk) (w : World) (hi : d.In n0 w) (hr : d.d.runs = true) (hk : d.left = -1) :
    Calls Try.prog 49 #[d.v] w (Ans n0 w d.d.sync) := by
  obtain ⟨hs, ⟨hn1, hn2⟩, hsl, hpl, hpv, hl1, hl2⟩ := runs_facts hr
  have HI := hide hi
  have HT := hide (two_below d w)
  have HB := hide (two_boxes d w)
  have HC := hide (rcheck_ok (two d w) (show d.d.valid = true by
    have h2 : d.d.stp = d.stp := rfl
    simp [Dk.runs] at hr
    exact hr.2) (HI.out.below HT.out))
  have HS := hide hs
  have HN := hide hn1
  have HN2 := hide hn2
  have HSL := hide hsl
  have HPV := hide hpv
  have HPL := hide hpl
  have HL := hide (And.intro hl1 hl2)
  obtain ⟨i35, HI35⟩ := hinfo35
  have HI35 := hide HI35
  have HSN := hide (show d.sa = none → d.ss.length = 0 ∧ d.sc = 0 from fun h => by
    have h3 := HI.out.sec.nil h
    have h4 := HI.out.sec.le
    omega)
  have HWL := hide (wrD_len d.ps)
  have hk1 : decide (0 ≤ d.left) = false := decide_eq_false (by omega)
  have HX := hide (show d.d.sync = (⟨perf d.d.sec d.d.pen, [], -1, false⟩, 0) by simp [Dk.sync, hr, show d.d.left = d.left from rfl, hk])
  have HK := hide hk
  clear hk
  clear hi hr hs hn1 hn2 hsl hpl hpv hl1 hl2
  go_enter Try.func49, Try.ntmps49
  go_wp2_with fail
  refine HC.out.mono ?_
  rintro e w1 ⟨rfl, hb⟩
  have H1 := hide (show SB d w [.slice none 0 0, .slice none 0 0, .int .i64 0, .bool false] w1 from ⟨HB.out.1.below hb HB.out.1.lt, HB.out.2.below hb HB.out.2.lt, HT.out.trans (hb.mono HT.out.size)⟩)
  clear hb HB HT HC
  obtain ⟨c0, c1, c2, c3⟩ := H1.out.box.c4
  rw [HS.out] at c3
  go_upto_region 7 with (fail)
  have HD := hide (H1.out.below (Below.refl _ _).drew)
  clear c0 c1 c2 c3 H1
  go_cut [6] from 32 to 38 (fun p W => ∃ g X rest c, p = .pointer (some ⟨X, 0, none⟩) ∧ Hid (RS n0 d w g X d.ss rest [.slice (some ⟨g, 0, none⟩) d.ss.length c, .slice none 0 0, .int .i64 d.left, .bool false] W) ∧ Hid (d.ss.length ≤ c ∧ c ≤ 9223372036854775807))
  case first =>
    have HDB := hide (show ∀ W', Below w1.drew.heap.size w1.drew W' → Blk W' w.heap.size 25 d.cs from fun W' hW => HD.out.box.below hW HD.out.box.lt)
    refine wp_region_plan3 (fun w' => Below w1.drew.heap.size w1.drew w') (.take 1 (.take 2 (.take 4 (.take 5 (.both 0 (.both 3 (.take 6 (.run 7 (.run 8 .done))) 7 (.run 3 (.take 6 (.run 8 .done)))) 7 (.run 0 (.run 3 (.take 6 (.run 8 .done))))))))) (by kernel_rfl) (by kernel_rfl) (Below.refl _ _) ?_
    generalize w1.drew = wD at *
    have HB0 := hide (Below.refl wD.heap.size wD)
    (refine plan3_take (o := ?_) (v := ?_) (by simp only [List.getElem?_toArray, List.getElem?_cons_succ, List.getElem?_cons_zero]; rfl) (yields_run (by rfl) ?_) ?_; rotate_left; (focus (intro w' hw'; obtain ⟨q0, -, q2, -⟩ := (HDB.out w' hw').c4; go_simp <;> with_reducible rfl)); (simp only [Act.put, List.setIfInBounds_toArray, List.set_cons_zero, List.set_cons_succ]))
    (refine plan3_take (o := ?_) (v := ?_) (by simp only [List.getElem?_toArray, List.getElem?_cons_succ, List.getElem?_cons_zero]; rfl) (yields_run (by rfl) ?_) ?_; rotate_left; (focus (intro w' hw'; obtain ⟨q0, -, q2, -⟩ := (HDB.out w' hw').c4; go_simp <;> with_reducible rfl)); (simp only [Act.put, List.setIfInBounds_toArray, List.set_cons_zero, List.set_cons_succ]))
    (refine plan3_take (o := ?_) (v := ?_) (by simp only [List.getElem?_toArray, List.getElem?_cons_succ, List.getElem?_cons_zero]; rfl) (yields_run (by rfl) ?_) ?_; rotate_left; (focus (intro w' hw'; obtain ⟨q0, -, q2, -⟩ := (HDB.out w' hw').c4; go_simp <;> with_reducible rfl)); (simp only [Act.put, List.setIfInBounds_toArray, List.set_cons_zero, List.set_cons_succ]))
    (refine plan3_take (o := ?_) (v := ?_) (by simp only [List.getElem?_toArray, List.getElem?_cons_succ, List.getElem?_cons_zero]; rfl) (yields_run (by rfl) ?_) ?_; rotate_left; (focus (intro w' hw'; obtain ⟨q0, -, q2, -⟩ := (HDB.out w' hw').c4; go_simp <;> with_reducible rfl)); (simp only [Act.put, List.setIfInBounds_toArray, List.set_cons_zero, List.set_cons_succ]))
    refine plan3_both (o1 := ?_) (o2 := ?_) (by simp only [List.getElem?_toArray, List.getElem?_cons_zero]; rfl) (by simp only [List.getElem?_toArray, List.getElem?_cons_succ, List.getElem?_cons_zero]; rfl) ?_ ?_
    · intro R HR
      have HB2 := hide (below_one HB0.out (below_new wD (.cells #[] 35)))
      have HO2 := hide (own_empty wD wD.heap.size 35 1 HB0.out.size)
      try simp only [World.size_alloc] at HO2
      go_wp2_with fail
      refine HR.out _ _ HB2.out ?_
      clear HR
      refine plan3_both (o1 := ?_) (o2 := ?_) (by simp only [List.getElem?_toArray, List.getElem?_cons_succ, List.getElem?_cons_zero]; rfl) (by simp only [List.getElem?_toArray, List.getElem?_cons_succ, List.getElem?_cons_zero]; rfl) ?_ ?_
      · intro R HR
        have HN3 := hide ((HI.out.sec.cels.below (HD.out.bel.trans (HB2.out.mono HD.out.bel.size))).opt)
        have hz := HB2.out.size
        have hsl2 := HN2.out
        at_builtin
        refine wpList_app rfl (.tmp 32) (.tmp 34) 22 rfl wD.heap.size 35 i35 _ 1 24 Try.underlying22 HI35.out rfl (by omega) _ 0 [] rfl HO2.out d.sa d.ss.length d.sc (secs d.ss) rfl HSN.out (by rw [secs_len, Nat.mul_one]) HN3.out (secs_one _) (by unfold maxLen; omega) (by omega) hz ?_
        intro A3 cap3 w3 hown hg
        rw [Nat.zero_add, List.nil_append] at hown
        have HB3 := hide (below_app (B := wD.heap.size) HB2.out HO2.out hg (Nat.le_refl _) hz)
        have HO3 := hide hown
        clear hown hg
        simp only [Nat.zero_add]
        go_wp2_with fail
        refine HR.out _ _ HB3.out ?_
        clear HR hz hsl2
        (refine plan3_take (o := ?_) (v := ?_) (by simp only [List.getElem?_toArray, List.getElem?_cons_succ, List.getElem?_cons_zero]; rfl) (yields_run (by rfl) ?_) ?_; rotate_left; (focus (intro w' hw'; obtain ⟨q0, -, q2, -⟩ := (HDB.out w' hw').c4; go_simp <;> with_reducible rfl)); (simp only [Act.put, List.setIfInBounds_toArray, List.set_cons_zero, List.set_cons_succ]))
        refine plan3_run (o := ?_) (by simp only [List.getElem?_toArray, List.getElem?_cons_succ, List.getElem?_cons_zero]; rfl) ?_
        intro R HR
        have HB4 := hide (below_one HB3.out (below_new w3 (.cells #[.slice none 0 0, .slice none 0 0, .int .i64 0, .bool false] 25)))
        have HX4 := hide (Blk.new w3 25 [.slice none 0 0, .slice none 0 0, .int .i64 0, .bool false])
        have HG4 := hide HB3.out.size
        try simp only [World.size_alloc] at HX4 HG4
        have HO4 := hide (own_later HO3.out (below_new w3 (.cells #[.slice none 0 0, .slice none 0 0, .int .i64 0, .bool false] 25)))
        go_wp2_with fail
        refine HR.out _ _ HB4.out ?_
        clear HR
        refine plan3_run (o := ?_) (by simp only [List.getElem?_toArray, List.getElem?_cons_succ, List.getElem?_cons_zero]; rfl) ?_
        intro R HR
        have HF := hide (rs_of HD.out HI.out HN.out HB4.out HO4.out HX4.out HG4.out)
        have hsl2 := below_setRow HB4.out HG4.out #[.slice A3 d.ss.length cap3, .slice none 0 0, .int .i64 d.left, .bool false]
        have HSB := hide hsl2
        clear hsl2
        go_wp2_with (refine wpList_store_row rfl 25 (.tmp 6) (.tmp 38) rfl _ #[.slice A3 d.ss.length cap3, .slice none 0 0, .int .i64 d.left, .bool false] rfl rfl 25 _ HX4.out Try.size25 rfl (one25 _ _ _ _ _ _ _ _) ?_)
        refine HR.out _ _ HSB.out ?_
        clear HR
        refine plan3_done ?_
        obtain ⟨g, rest, hA, hF, hcc⟩ := HF.out
        go_wp2_with fail
        go_meet
        case rel =>
          rw [hA] at hF ⊢
          exact ⟨g, _, rest, _, rfl, hide hF, hide hcc⟩
      · intro R HR
        have HB3 := hide (below_one HB2.out (below_new (wD.alloc (.cells #[] 35)) (.cells #[.slice none 0 0, .slice none 0 0, .int .i64 0, .bool false] 25)))
        have HX3 := hide (Blk.new (wD.alloc (.cells #[] 35)) 25 [.slice none 0 0, .slice none 0 0, .int .i64 0, .bool false])
        have HG3 := hide HB2.out.size
        try simp only [World.size_alloc] at HX3 HG3
        have HO3 := hide (own_later HO2.out (below_new (wD.alloc (.cells #[] 35)) (.cells #[.slice none 0 0, .slice none 0 0, .int .i64 0, .bool false] 25)))
        go_wp2_with fail
        refine HR.out _ _ HB3.out ?_
        clear HR
        refine plan3_run (o := ?_) (by simp only [List.getElem?_toArray, List.getElem?_cons_succ, List.getElem?_cons_zero]; rfl) ?_
        intro R HR
        have HN4 := hide ((HI.out.sec.cels.below (HD.out.bel.trans (HB3.out.mono HD.out.bel.size))).opt)
        have hz := HB3.out.size
        have hsl2 := HN2.out
        at_builtin
        refine wpList_app rfl (.tmp 32) (.tmp 34) 22 rfl wD.heap.size 35 i35 _ 1 24 Try.underlying22 HI35.out rfl (by omega) _ 0 [] rfl HO3.out d.sa d.ss.length d.sc (secs d.ss) rfl HSN.out (by rw [secs_len, Nat.mul_one]) HN4.out (secs_one _) (by unfold maxLen; omega) (by omega) hz ?_
        intro A4 cap4 w4 hown hg
        rw [Nat.zero_add, List.nil_append] at hown
        have HB4 := hide (below_app (B := wD.heap.size) HB3.out HO3.out hg (Nat.le_refl _) hz)
        have HX4 := hide (HX3.out.app HO3.out hg (by omega))
        have HO4 := hide hown
        clear hown hg
        simp only [Nat.zero_add]
        go_wp2_with fail
        refine HR.out _ _ HB4.out ?_
        clear HR hz hsl2
        (refine plan3_take (o := ?_) (v := ?_) (by simp only [List.getElem?_toArray, List.getElem?_cons_succ, List.getElem?_cons_zero]; rfl) (yields_run (by rfl) ?_) ?_; rotate_left; (focus (intro w' hw'; obtain ⟨q0, -, q2, -⟩ := (HDB.out w' hw').c4; go_simp <;> with_reducible rfl)); (simp only [Act.put, List.setIfInBounds_toArray, List.set_cons_zero, List.set_cons_succ]))
        refine plan3_run (o := ?_) (by simp only [List.getElem?_toArray, List.getElem?_cons_succ, List.getElem?_cons_zero]; rfl) ?_
        intro R HR
        have HF := hide (rs_of HD.out HI.out HN.out HB4.out HO4.out HX4.out HG3.out)
        have hsl2 := below_setRow HB4.out HG3.out #[.slice A4 d.ss.length cap4, .slice none 0 0, .int .i64 d.left, .bool false]
        have HSB := hide hsl2
        clear hsl2
        go_wp2_with (refine wpList_store_row rfl 25 (.tmp 6) (.tmp 38) rfl _ #[.slice A4 d.ss.length cap4, .slice none 0 0, .int .i64 d.left, .bool false] rfl rfl 25 _ HX4.out Try.size25 rfl (one25 _ _ _ _ _ _ _ _) ?_)
        refine HR.out _ _ HSB.out ?_
        clear HR
        refine plan3_done ?_
        obtain ⟨g, rest, hA, hF, hcc⟩ := HF.out
        go_wp2_with fail
        go_meet
        case rel =>
          rw [hA] at hF ⊢
          exact ⟨g, _, rest, _, rfl, hide hF, hide hcc⟩
    · intro R HR
      have HB2 := hide (below_one HB0.out (below_new wD (.cells #[.slice none 0 0, .slice none 0 0, .int .i64 0, .bool false] 25)))
      have HX2 := hide (Blk.new wD 25 [.slice none 0 0, .slice none 0 0, .int .i64 0, .bool false])
      have HG2 := hide HB0.out.size
      try simp only [World.size_alloc] at HX2 HG2
      go_wp2_with fail
      refine HR.out _ _ HB2.out ?_
      clear HR
      refine plan3_run (o := ?_) (by simp only [List.getElem?_toArray, List.getElem?_cons_zero]; rfl) ?_
      intro R HR
      have HB3 := hide (below_one HB2.out (below_new (wD.alloc (.cells #[.slice none 0 0, .slice none 0 0, .int .i64 0, .bool false] 25)) (.cells #[] 35)))
      have HO3 := hide (own_empty (wD.alloc (.cells #[.slice none 0 0, .slice none 0 0, .int .i64 0, .bool false] 25)) wD.heap.size 35 1 HB2.out.size)
      have HX3 := hide (HX2.out.alloc (.cells #[] 35))
      try simp only [World.size_alloc] at HO3
      go_wp2_with fail
      refine HR.out _ _ HB3.out ?_
      clear HR
      refine plan3_run (o := ?_) (by simp only [List.getElem?_toArray, List.getElem?_cons_succ, List.getElem?_cons_zero]; rfl) ?_
      intro R HR
      have HN4 := hide ((HI.out.sec.cels.below (HD.out.bel.trans (HB3.out.mono HD.out.bel.size))).opt)
      have hz := HB3.out.size
      have hsl2 := HN2.out
      at_builtin
      refine wpList_app rfl (.tmp 32) (.tmp 34) 22 rfl wD.heap.size 35 i35 _ 1 24 Try.underlying22 HI35.out rfl (by omega) _ 0 [] rfl HO3.out d.sa d.ss.length d.sc (secs d.ss) rfl HSN.out (by rw [secs_len, Nat.mul_one]) HN4.out (secs_one _) (by unfold maxLen; omega) (by omega) hz ?_
      intro A4 cap4 w4 hown hg
      rw [Nat.zero_add, List.nil_append] at hown
      have HB4 := hide (below_app (B := wD.heap.size) HB3.out HO3.out hg (Nat.le_refl _) hz)
      have HX4 := hide (HX3.out.app HO3.out hg (by omega))
      have HO4 := hide hown
      clear hown hg
      simp only [Nat.zero_add]
      go_wp2_with fail
      refine HR.out _ _ HB4.out ?_
      clear HR hz hsl2
      (refine plan3_take (o := ?_) (v := ?_) (by simp only [List.getElem?_toArray, List.getElem?_cons_succ, List.getElem?_cons_zero]; rfl) (yields_run (by rfl) ?_) ?_; rotate_left; (focus (intro w' hw'; obtain ⟨q0, -, q2, -⟩ := (HDB.out w' hw').c4; go_simp <;> with_reducible rfl)); (simp only [Act.put, List.setIfInBounds_toArray, List.set_cons_zero, List.set_cons_succ]))
      refine plan3_run (o := ?_) (by simp only [List.getElem?_toArray, List.getElem?_cons_succ, List.getElem?_cons_zero]; rfl) ?_
      intro R HR
      have HF := hide (rs_of HD.out HI.out HN.out HB4.out HO4.out HX4.out HG2.out)
      have hsl2 := below_setRow HB4.out HG2.out #[.slice A4 d.ss.length cap4, .slice none 0 0, .int .i64 d.left, .bool false]
      have HSB := hide hsl2
      clear hsl2
      go_wp2_with (refine wpList_store_row rfl 25 (.tmp 6) (.tmp 38) rfl _ #[.slice A4 d.ss.length cap4, .slice none 0 0, .int .i64 d.left, .bool false] rfl rfl 25 _ HX4.out Try.size25 rfl (one25 _ _ _ _ _ _ _ _) ?_)
      refine HR.out _ _ HSB.out ?_
      clear HR
      refine plan3_done ?_
      obtain ⟨g, rest, hA, hF, hcc⟩ := HF.out
      go_wp2_with fail
      go_meet
      case rel =>
        rw [hA] at hF ⊢
        exact ⟨g, _, rest, _, rfl, hide hF, hide hcc⟩
  case rest =>
    obtain ⟨g, X, rest, c, rfl, HR0, HCC⟩ := hcut
    generalize wc = w3 at *
    go_wp2_with fail
    go_loopw [7] (fun i wr => ∃ (k : Nat) (cur : List Sec), k ≤ d.ps.length ∧ i = .int .i64 k ∧ Hid (cur.length = d.ss.length) ∧ Hid (RS n0 d w g X cur rest [.slice (some ⟨g, 0, none⟩) d.ss.length c, .slice none 0 0, .int .i64 d.left, .bool false] wr) ∧ Hid (secD cur = perf (secD d.ss) ((wrD d.ps).take k))) (fun i _ => d.ps.length - (intOf i).toNat)
    case atStart => exact ⟨0, d.ss, Nat.zero_le _, rfl, hide rfl, HR0, hide rfl⟩
    case round =>
      clear HR0 HD
      obtain ⟨k, cur, hk, rfl, HCL, HR, HP⟩ := hrel
      by_cases hlt : k < d.ps.length
      · have hlt' : (k : Int) < (d.ps.length : Int) := by omega
        have hkp : k < d.ps.length := by omega
        have hpl2 := HPL.out
        have hkp' : (k : Int) < (d.ps.length : Int) := by omega
        obtain ⟨b, o, hpa, hbb, d0, d1⟩ := (HI.out.pen.at hkp)
        have e0 := (HR.out.sb.bel.cell (p := ⟨b, o + k * 2, none⟩) hbb).trans d0
        have e1 := (HR.out.sb.bel.cell (p := ⟨b, o + k * 2 + 1, none⟩) hbb).trans d1
        obtain ⟨v1, v2, v3⟩ := HPV.out k hkp
        have HSI := hide ((HI.out.pen.each _ (List.getElem_mem hkp)).1)
        have HNX := hide (show ∀ s : Sec, s.l = (d.ps[k]).s.l → secD (cur.set (d.ps[k]).pos.toNat s) = perf (secD d.ss) ((wrD d.ps).take (k + 1)) from fun s hs => by
          rw [secD_set, HP.out, perf_take (by rw [HWL.out]; exact hkp), wrD_get, hs]
          rfl)
        have HD0 := hide d0
        have HD1 := hide d1
        generalize d.ps[k] = p at e0 e1 v1 v2 HSI HNX HD0 HD1
        clear d0 d1 v3 HP
        obtain ⟨pos, ps⟩ := p
        simp only at e0 e1 v1 v2 HSI HNX HD0 HD1
        obtain ⟨j, rfl⟩ := Int.eq_ofNat_of_zero_le v1
        rw [Int.toNat_natCast] at HNX
        have hjl : j < cur.length := by rw [HCL.out]; omega
        have x0 := HR.out.box.c4.1
        have y1 := HR.out.sb.box.c4.2.1
        rw [hpa] at y1
        have HBB := hide hbb
        clear hbb
        have hj0 : (0 : Int) ≤ (j : Int) := by omega
        go_upto_region 11 with (fail)
        refine wp_region_hoist (fun w' => w'.cell? ⟨X, 0, none⟩ = some (.slice (some ⟨g, 0, none⟩) d.ss.length c) ∧ w'.cell? ⟨w.heap.size, 1, none⟩ = some (.slice (some ⟨b, o, none⟩) d.ps.length d.pc) ∧ w'.cell? ⟨b, o + k * 2, none⟩ = some (.int .i64 j) ∧ w'.cell? ⟨b, o + k * 2 + 1, none⟩ = some ps.v) [true, true, true, true, true, true, true, true, true, true, true, true, true, true, true, false] (by kernel_rfl) (by kernel_rfl) ⟨x0, y1, e0, e1⟩ ?_
        repeat (refine head_take (v := ?_) (yields_run (by rfl) ?_) ?_; rotate_left; (focus (rintro w' ⟨hw0, hw1, hw2, hw3⟩; go_simp <;> with_reducible rfl)); (simp only [Act.put, List.setIfInBounds_toArray, List.set_cons_zero, List.set_cons_succ]))
        refine head_skip (head_done ?_)
        repeat refine tail_skip ?_
        refine tail_step ?_
        intro R HRR
        have HRD := hide (HR.out.below (Below.refl _ _).drew)
        have HRP := hide (HRD.out.put (s := ps) hjl (.inl HSI.out))
        have cr := HRD.out.row.cell j
        rw [List.getElem?_append_left (by rw [secs_len]; exact hjl), List.getElem?_eq_getElem (by rw [secs_len]; exact hjl), secs_get] at cr
        have fr := HRD.out.row.free j
        generalize (cur[j]'hjl) = sj at cr
        clear x0 y1 e0 e1
        go_wp2_with fail
        refine HRR.out _ _ ⟨HRP.out.box.c4.1, (hpa ▸ HRP.out.sb.box.c4.2.1), (HRP.out.sb.bel.cell (p := ⟨b, o + k * 2, none⟩) HBB.out).trans HD0.out, (HRP.out.sb.bel.cell (p := ⟨b, o + k * 2 + 1, none⟩) HBB.out).trans HD1.out⟩ ?_
        clear HRR
        refine tail_done ?_
        clear cr fr
        go_wp2_with fail
        go_roundw
        case rel => exact ⟨k + 1, _, by omega, by go_num, hide (by rw [List.length_set]; exact HCL.out), HRP, hide (HNX.out ps rfl)⟩
        case measure => simp [intOf]; omega
      · obtain rfl : k = d.ps.length := by omega
        have HF := hide HP.out
        rw [List.take_of_length_le (by rw [HWL.out]; exact Nat.le_refl _)] at HF
        obtain ⟨x0, x1, x2, x3⟩ := HR.out.box.c4
        have HFF := hide (HR.out.fin #[.slice (some ⟨g, 0, none⟩) d.ss.length c, .slice none 0 0, .int .i64 d.left, .bool false] (c := c) (by rw [HCL.out]; exact HCC.out))
        clear HCC HP
        go_wp2_with (first | (refine wpList_load_row rfl 25 (.tmp 6) rfl X rfl 25 _ (0, 0) _ HR.out.box Try.underlying25 rfl Try.size25 ?_) | (refine wpList_store_row rfl 25 (.tmp 2) (.tmp 94) rfl (w.heap.size + 1) #[.slice (some ⟨g, 0, none⟩) d.ss.length c, .slice none 0 0, .int .i64 d.left, .bool false] rfl rfl 25 _ HR.out.sb.res Try.size25 rfl (one25 _ _ _ _ _ _ _ _) ?_))
        refine bodyPost_ret (v := .tuple #[.agg #[.slice (some ⟨g, 0, none⟩) d.ss.length c, .slice none 0 0, .int .i64 d.left, .bool false], .int .i64 0]) (results_cell_row_tmp rfl _ _ (w.heap.size + 1) 25 #[.slice (some ⟨g, 0, none⟩) d.ss.length c, .slice none 0 0, .int .i64 d.left, .bool false] (0, 0) _ (.int .i64 0) rfl rfl (setRow_heap _ _ _ _ _ _ HR.out.sb.res) Try.underlying25 rfl Try.size25) rfl ?_
        rw [HX.out]
        refine ⟨⟨some ⟨g, 0, none⟩, cur, c, none, [], 0, d.left, false⟩, by simp [Dsk.v, HCL.out], ?_, ⟨HFF.out.1, wrsIn_nil _, HI.out.left⟩, HFF.out.2⟩
        show (⟨secD cur, [], d.left, false⟩ : Dk) = _
        rw [HF.out, HK.out]
        rfl


set_option maxRecDepth 100000 in
set_option maxHeartbeats 6400000 in
theorem rsync_left (d : Dsk) (w : World) (hi : d.In n0 w) (hr : d.d.runs = true) (hk0 : 0 ≤ d.left) (hk : (d.ps.length : Int) ≤ d.left) :
    Calls Try.prog 49 #[d.v] w (Ans n0 w d.d.sync) := by
  obtain ⟨hs, ⟨hn1, hn2⟩, hsl, hpl, hpv, hl1, hl2⟩ := runs_facts hr
  have HI := hide hi
  have HT := hide (two_below d w)
  have HB := hide (two_boxes d w)
  have HC := hide (rcheck_ok (two d w) (show d.d.valid = true by
    have h2 : d.d.stp = d.stp := rfl
    simp [Dk.runs] at hr
    exact hr.2) (HI.out.below HT.out))
  have HS := hide hs
  have HN := hide hn1
  have HN2 := hide hn2
  have HSL := hide hsl
  have HPV := hide hpv
  have HPL := hide hpl
  have HL := hide (And.intro hl1 hl2)
  obtain ⟨i35, HI35⟩ := hinfo35
  have HI35 := hide HI35
  have HSN := hide (show d.sa = none → d.ss.length = 0 ∧ d.sc = 0 from fun h => by
    have h3 := HI.out.sec.nil h
    have h4 := HI.out.sec.le
    omega)
  have HWL := hide (wrD_len d.ps)
  have hk1 : decide (0 ≤ d.left) = true := decide_eq_true hk0
  have hk2 : decide (d.left < (d.ps.length : Int)) = false := decide_eq_false (by omega)
  have HX := hide (show d.d.sync = (⟨perf d.d.sec d.d.pen, [], d.left - d.ps.length, false⟩, 0) by
    have e : d.d.pen.length = d.ps.length := wrD_len d.ps
    have e2 : d.d.left = d.left := rfl
    unfold Dk.sync
    rw [if_pos hr, e2, if_neg (by omega), e, if_pos hk])
  have HLR := hide (show -9223372036854775808 ≤ d.left - d.ps.length ∧ d.left - d.ps.length ≤ 9223372036854775807 by omega)
  have HK := hide (And.intro hk0 hk)
  clear hi hr hs hn1 hn2 hsl hpl hpv hl1 hl2
  go_enter Try.func49, Try.ntmps49
  go_wp2_with fail
  refine HC.out.mono ?_
  rintro e w1 ⟨rfl, hb⟩
  have H1 := hide (show SB d w [.slice none 0 0, .slice none 0 0, .int .i64 0, .bool false] w1 from ⟨HB.out.1.below hb HB.out.1.lt, HB.out.2.below hb HB.out.2.lt, HT.out.trans (hb.mono HT.out.size)⟩)
  clear hb HB HT HC
  obtain ⟨c0, c1, c2, c3⟩ := H1.out.box.c4
  rw [HS.out] at c3
  go_upto_region 7 with (fail)
  have HD := hide (H1.out.below (Below.refl _ _).drew)
  clear c0 c1 c2 c3 H1
  go_cut [6] from 32 to 38 (fun p W => ∃ g X rest c, p = .pointer (some ⟨X, 0, none⟩) ∧ Hid (RS n0 d w g X d.ss rest [.slice (some ⟨g, 0, none⟩) d.ss.length c, .slice none 0 0, .int .i64 d.left, .bool false] W) ∧ Hid (d.ss.length ≤ c ∧ c ≤ 9223372036854775807))
  case first =>
    have HDB := hide (show ∀ W', Below w1.drew.heap.size w1.drew W' → Blk W' w.heap.size 25 d.cs from fun W' hW => HD.out.box.below hW HD.out.box.lt)
    refine wp_region_plan3 (fun w' => Below w1.drew.heap.size w1.drew w') (.take 1 (.take 2 (.take 4 (.take 5 (.both 0 (.both 3 (.take 6 (.run 7 (.run 8 .done))) 7 (.run 3 (.take 6 (.run 8 .done)))) 7 (.run 0 (.run 3 (.take 6 (.run 8 .done))))))))) (by kernel_rfl) (by kernel_rfl) (Below.refl _ _) ?_
    generalize w1.drew = wD at *
    have HB0 := hide (Below.refl wD.heap.size wD)
    (refine plan3_take (o := ?_) (v := ?_) (by simp only [List.getElem?_toArray, List.getElem?_cons_succ, List.getElem?_cons_zero]; rfl) (yields_run (by rfl) ?_) ?_; rotate_left; (focus (intro w' hw'; obtain ⟨q0, -, q2, -⟩ := (HDB.out w' hw').c4; go_simp <;> with_reducible rfl)); (simp only [Act.put, List.setIfInBounds_toArray, List.set_cons_zero, List.set_cons_succ]))
    (refine plan3_take (o := ?_) (v := ?_) (by simp only [List.getElem?_toArray, List.getElem?_cons_succ, List.getElem?_cons_zero]; rfl) (yields_run (by rfl) ?_) ?_; rotate_left; (focus (intro w' hw'; obtain ⟨q0, -, q2, -⟩ := (HDB.out w' hw').c4; go_simp <;> with_reducible rfl)); (simp only [Act.put, List.setIfInBounds_toArray, List.set_cons_zero, List.set_cons_succ]))
    (refine plan3_take (o := ?_) (v := ?_) (by simp only [List.getElem?_toArray, List.getElem?_cons_succ, List.getElem?_cons_zero]; rfl) (yields_run (by rfl) ?_) ?_; rotate_left; (focus (intro w' hw'; obtain ⟨q0, -, q2, -⟩ := (HDB.out w' hw').c4; go_simp <;> with_reducible rfl)); (simp only [Act.put, List.setIfInBounds_toArray, List.set_cons_zero, List.set_cons_succ]))
    (refine plan3_take (o := ?_) (v := ?_) (by simp only [List.getElem?_toArray, List.getElem?_cons_succ, List.getElem?_cons_zero]; rfl) (yields_run (by rfl) ?_) ?_; rotate_left; (focus (intro w' hw'; obtain ⟨q0, -, q2, -⟩ := (HDB.out w' hw').c4; go_simp <;> with_reducible rfl)); (simp only [Act.put, List.setIfInBounds_toArray, List.set_cons_zero, List.set_cons_succ]))
    refine plan3_both (o1 := ?_) (o2 := ?_) (by simp only [List.getElem?_toArray, List.getElem?_cons_zero]; rfl) (by simp only [List.getElem?_toArray, List.getElem?_cons_succ, List.getElem?_cons_zero]; rfl) ?_ ?_
    · intro R HR
      have HB2 := hide (below_one HB0.out (below_new wD (.cells #[] 35)))
      have HO2 := hide (own_empty wD wD.heap.size 35 1 HB0.out.size)
      try simp only [World.size_alloc] at HO2
      go_wp2_with fail
      refine HR.out _ _ HB2.out ?_
      clear HR
      refine plan3_both (o1 := ?_) (o2 := ?_) (by simp only [List.getElem?_toArray, List.getElem?_cons_succ, List.getElem?_cons_zero]; rfl) (by simp only [List.getElem?_toArray, List.getElem?_cons_succ, List.getElem?_cons_zero]; rfl) ?_ ?_
      · intro R HR
        have HN3 := hide ((HI.out.sec.cels.below (HD.out.bel.trans (HB2.out.mono HD.out.bel.size))).opt)
        have hz := HB2.out.size
        have hsl2 := HN2.out
        at_builtin
        refine wpList_app rfl (.tmp 32) (.tmp 34) 22 rfl wD.heap.size 35 i35 _ 1 24 Try.underlying22 HI35.out rfl (by omega) _ 0 [] rfl HO2.out d.sa d.ss.length d.sc (secs d.ss) rfl HSN.out (by rw [secs_len, Nat.mul_one]) HN3.out (secs_one _) (by unfold maxLen; omega) (by omega) hz ?_
        intro A3 cap3 w3 hown hg
        rw [Nat.zero_add, List.nil_append] at hown
        have HB3 := hide (below_app (B := wD.heap.size) HB2.out HO2.out hg (Nat.le_refl _) hz)
        have HO3 := hide hown
        clear hown hg
        simp only [Nat.zero_add]
        go_wp2_with fail
        refine HR.out _ _ HB3.out ?_
        clear HR hz hsl2
        (refine plan3_take (o := ?_) (v := ?_) (by simp only [List.getElem?_toArray, List.getElem?_cons_succ, List.getElem?_cons_zero]; rfl) (yields_run (by rfl) ?_) ?_; rotate_left; (focus (intro w' hw'; obtain ⟨q0, -, q2, -⟩ := (HDB.out w' hw').c4; go_simp <;> with_reducible rfl)); (simp only [Act.put, List.setIfInBounds_toArray, List.set_cons_zero, List.set_cons_succ]))
        refine plan3_run (o := ?_) (by simp only [List.getElem?_toArray, List.getElem?_cons_succ, List.getElem?_cons_zero]; rfl) ?_
        intro R HR
        have HB4 := hide (below_one HB3.out (below_new w3 (.cells #[.slice none 0 0, .slice none 0 0, .int .i64 0, .bool false] 25)))
        have HX4 := hide (Blk.new w3 25 [.slice none 0 0, .slice none 0 0, .int .i64 0, .bool false])
        have HG4 := hide HB3.out.size
        try simp only [World.size_alloc] at HX4 HG4
        have HO4 := hide (own_later HO3.out (below_new w3 (.cells #[.slice none 0 0, .slice none 0 0, .int .i64 0, .bool false] 25)))
        go_wp2_with fail
        refine HR.out _ _ HB4.out ?_
        clear HR
        refine plan3_run (o := ?_) (by simp only [List.getElem?_toArray, List.getElem?_cons_succ, List.getElem?_cons_zero]; rfl) ?_
        intro R HR
        have HF := hide (rs_of HD.out HI.out HN.out HB4.out HO4.out HX4.out HG4.out)
        have hsl2 := below_setRow HB4.out HG4.out #[.slice A3 d.ss.length cap3, .slice none 0 0, .int .i64 d.left, .bool false]
        have HSB := hide hsl2
        clear hsl2
        go_wp2_with (refine wpList_store_row rfl 25 (.tmp 6) (.tmp 38) rfl _ #[.slice A3 d.ss.length cap3, .slice none 0 0, .int .i64 d.left, .bool false] rfl rfl 25 _ HX4.out Try.size25 rfl (one25 _ _ _ _ _ _ _ _) ?_)
        refine HR.out _ _ HSB.out ?_
        clear HR
        refine plan3_done ?_
        obtain ⟨g, rest, hA, hF, hcc⟩ := HF.out
        go_wp2_with fail
        go_meet
        case rel =>
          rw [hA] at hF ⊢
          exact ⟨g, _, rest, _, rfl, hide hF, hide hcc⟩
      · intro R HR
        have HB3 := hide (below_one HB2.out (below_new (wD.alloc (.cells #[] 35)) (.cells #[.slice none 0 0, .slice none 0 0, .int .i64 0, .bool false] 25)))
        have HX3 := hide (Blk.new (wD.alloc (.cells #[] 35)) 25 [.slice none 0 0, .slice none 0 0, .int .i64 0, .bool false])
        have HG3 := hide HB2.out.size
        try simp only [World.size_alloc] at HX3 HG3
        have HO3 := hide (own_later HO2.out (below_new (wD.alloc (.cells #[] 35)) (.cells #[.slice none 0 0, .slice none 0 0, .int .i64 0, .bool false] 25)))
        go_wp2_with fail
        refine HR.out _ _ HB3.out ?_
        clear HR
        refine plan3_run (o := ?_) (by simp only [List.getElem?_toArray, List.getElem?_cons_succ, List.getElem?_cons_zero]; rfl) ?_
        intro R HR
        have HN4 := hide ((HI.out.sec.cels.below (HD.out.bel.trans (HB3.out.mono HD.out.bel.size))).opt)
        have hz := HB3.out.size
        have hsl2 := HN2.out
        at_builtin
        refine wpList_app rfl (.tmp 32) (.tmp 34) 22 rfl wD.heap.size 35 i35 _ 1 24 Try.underlying22 HI35.out rfl (by omega) _ 0 [] rfl HO3.out d.sa d.ss.length d.sc (secs d.ss) rfl HSN.out (by rw [secs_len, Nat.mul_one]) HN4.out (secs_one _) (by unfold maxLen; omega) (by omega) hz ?_
        intro A4 cap4 w4 hown hg
        rw [Nat.zero_add, List.nil_append] at hown
        have HB4 := hide (below_app (B := wD.heap.size) HB3.out HO3.out hg (Nat.le_refl _) hz)
        have HX4 := hide (HX3.out.app HO3.out hg (by omega))
        have HO4 := hide hown
        clear hown hg
        simp only [Nat.zero_add]
        go_wp2_with fail
        refine HR.out _ _ HB4.out ?_
        clear HR hz hsl2
        (refine plan3_take (o := ?_) (v := ?_) (by simp only [List.getElem?_toArray, List.getElem?_cons_succ, List.getElem?_cons_zero]; rfl) (yields_run (by rfl) ?_) ?_; rotate_left; (focus (intro w' hw'; obtain ⟨q0, -, q2, -⟩ := (HDB.out w' hw').c4; go_simp <;> with_reducible rfl)); (simp only [Act.put, List.setIfInBounds_toArray, List.set_cons_zero, List.set_cons_succ]))
        refine plan3_run (o := ?_) (by simp only [List.getElem?_toArray, List.getElem?_cons_succ, List.getElem?_cons_zero]; rfl) ?_
        intro R HR
        have HF := hide (rs_of HD.out HI.out HN.out HB4.out HO4.out HX4.out HG3.out)
        have hsl2 := below_setRow HB4.out HG3.out #[.slice A4 d.ss.length cap4, .slice none 0 0, .int .i64 d.left, .bool false]
        have HSB := hide hsl2
        clear hsl2
        go_wp2_with (refine wpList_store_row rfl 25 (.tmp 6) (.tmp 38) rfl _ #[.slice A4 d.ss.length cap4, .slice none 0 0, .int .i64 d.left, .bool false] rfl rfl 25 _ HX4.out Try.size25 rfl (one25 _ _ _ _ _ _ _ _) ?_)
        refine HR.out _ _ HSB.out ?_
        clear HR
        refine plan3_done ?_
        obtain ⟨g, rest, hA, hF, hcc⟩ := HF.out
        go_wp2_with fail
        go_meet
        case rel =>
          rw [hA] at hF ⊢
          exact ⟨g, _, rest, _, rfl, hide hF, hide hcc⟩
    · intro R HR
      have HB2 := hide (below_one HB0.out (below_new wD (.cells #[.slice none 0 0, .slice none 0 0, .int .i64 0, .bool false] 25)))
      have HX2 := hide (Blk.new wD 25 [.slice none 0 0, .slice none 0 0, .int .i64 0, .bool false])
      have HG2 := hide HB0.out.size
      try simp only [World.size_alloc] at HX2 HG2
      go_wp2_with fail
      refine HR.out _ _ HB2.out ?_
      clear HR
      refine plan3_run (o := ?_) (by simp only [List.getElem?_toArray, List.getElem?_cons_zero]; rfl) ?_
      intro R HR
      have HB3 := hide (below_one HB2.out (below_new (wD.alloc (.cells #[.slice none 0 0, .slice none 0 0, .int .i64 0, .bool false] 25)) (.cells #[] 35)))
      have HO3 := hide (own_empty (wD.alloc (.cells #[.slice none 0 0, .slice none 0 0, .int .i64 0, .bool false] 25)) wD.heap.size 35 1 HB2.out.size)
      have HX3 := hide (HX2.out.alloc (.cells #[] 35))
      try simp only [World.size_alloc] at HO3
      go_wp2_with fail
      refine HR.out _ _ HB3.out ?_
      clear HR
      refine plan3_run (o := ?_) (by simp only [List.getElem?_toArray, List.getElem?_cons_succ, List.getElem?_cons_zero]; rfl) ?_
      intro R HR
      have HN4 := hide ((HI.out.sec.cels.below (HD.out.bel.trans (HB3.out.mono HD.out.bel.size))).opt)
      have hz := HB3.out.size
      have hsl2 := HN2.out
      at_builtin
      refine wpList_app rfl (.tmp 32) (.tmp 34) 22 rfl wD.heap.size 35 i35 _ 1 24 Try.underlying22 HI35.out rfl (by omega) _ 0 [] rfl HO3.out d.sa d.ss.length d.sc (secs d.ss) rfl HSN.out (by rw [secs_len, Nat.mul_one]) HN4.out (secs_one _) (by unfold maxLen; omega) (by omega) hz ?_
      intro A4 cap4 w4 hown hg
      rw [Nat.zero_add, List.nil_append] at hown
      have HB4 := hide (below_app (B := wD.heap.size) HB3.out HO3.out hg (Nat.le_refl _) hz)
      have HX4 := hide (HX3.out.app HO3.out hg (by omega))
      have HO4 := hide hown
      clear hown hg
      simp only [Nat.zero_add]
      go_wp2_with fail
      refine HR.out _ _ HB4.out ?_
      clear HR hz hsl2
      (refine plan3_take (o := ?_) (v := ?_) (by simp only [List.getElem?_toArray, List.getElem?_cons_succ, List.getElem?_cons_zero]; rfl) (yields_run (by rfl) ?_) ?_; rotate_left; (focus (intro w' hw'; obtain ⟨q0, -, q2, -⟩ := (HDB.out w' hw').c4; go_simp <;> with_reducible rfl)); (simp only [Act.put, List.setIfInBounds_toArray, List.set_cons_zero, List.set_cons_succ]))
      refine plan3_run (o := ?_) (by simp only [List.getElem?_toArray, List.getElem?_cons_succ, List.getElem?_cons_zero]; rfl) ?_
      intro R HR
      have HF := hide (rs_of HD.out HI.out HN.out HB4.out HO4.out HX4.out HG2.out)
      have hsl2 := below_setRow HB4.out HG2.out #[.slice A4 d.ss.length cap4, .slice none 0 0, .int .i64 d.left, .bool false]
      have HSB := hide hsl2
      clear hsl2
      go_wp2_with (refine wpList_store_row rfl 25 (.tmp 6) (.tmp 38) rfl _ #[.slice A4 d.ss.length cap4, .slice none 0 0, .int .i64 d.left, .bool false] rfl rfl 25 _ HX4.out Try.size25 rfl (one25 _ _ _ _ _ _ _ _) ?_)
      refine HR.out _ _ HSB.out ?_
      clear HR
      refine plan3_done ?_
      obtain ⟨g, rest, hA, hF, hcc⟩ := HF.out
      go_wp2_with fail
      go_meet
      case rel =>
        rw [hA] at hF ⊢
        exact ⟨g, _, rest, _, rfl, hide hF, hide hcc⟩
  case rest =>
    obtain ⟨g, X, rest, c, rfl, HR0, HCC⟩ := hcut
    generalize wc = w3 at *
    go_wp2_with fail
    go_loopw [7] (fun i wr => ∃ (k : Nat) (cur : List Sec), k ≤ d.ps.length ∧ i = .int .i64 k ∧ Hid (cur.length = d.ss.length) ∧ Hid (RS n0 d w g X cur rest [.slice (some ⟨g, 0, none⟩) d.ss.length c, .slice none 0 0, .int .i64 d.left, .bool false] wr) ∧ Hid (secD cur = perf (secD d.ss) ((wrD d.ps).take k))) (fun i _ => d.ps.length - (intOf i).toNat)
    case atStart => exact ⟨0, d.ss, Nat.zero_le _, rfl, hide rfl, HR0, hide rfl⟩
    case round =>
      clear HR0 HD
      obtain ⟨k, cur, hk, rfl, HCL, HR, HP⟩ := hrel
      by_cases hlt : k < d.ps.length
      · have hlt' : (k : Int) < (d.ps.length : Int) := by omega
        have hkp : k < d.ps.length := by omega
        have hpl2 := HPL.out
        have hkp' : (k : Int) < (d.ps.length : Int) := by omega
        obtain ⟨b, o, hpa, hbb, d0, d1⟩ := (HI.out.pen.at hkp)
        have e0 := (HR.out.sb.bel.cell (p := ⟨b, o + k * 2, none⟩) hbb).trans d0
        have e1 := (HR.out.sb.bel.cell (p := ⟨b, o + k * 2 + 1, none⟩) hbb).trans d1
        obtain ⟨v1, v2, v3⟩ := HPV.out k hkp
        have HSI := hide ((HI.out.pen.each _ (List.getElem_mem hkp)).1)
        have HNX := hide (show ∀ s : Sec, s.l = (d.ps[k]).s.l → secD (cur.set (d.ps[k]).pos.toNat s) = perf (secD d.ss) ((wrD d.ps).take (k + 1)) from fun s hs => by
          rw [secD_set, HP.out, perf_take (by rw [HWL.out]; exact hkp), wrD_get, hs]
          rfl)
        have HD0 := hide d0
        have HD1 := hide d1
        generalize d.ps[k] = p at e0 e1 v1 v2 HSI HNX HD0 HD1
        clear d0 d1 v3 HP
        obtain ⟨pos, ps⟩ := p
        simp only at e0 e1 v1 v2 HSI HNX HD0 HD1
        obtain ⟨j, rfl⟩ := Int.eq_ofNat_of_zero_le v1
        rw [Int.toNat_natCast] at HNX
        have hjl : j < cur.length := by rw [HCL.out]; omega
        have x0 := HR.out.box.c4.1
        have y1 := HR.out.sb.box.c4.2.1
        rw [hpa] at y1
        have HBB := hide hbb
        clear hbb
        have hj0 : (0 : Int) ≤ (j : Int) := by omega
        go_upto_region 11 with (fail)
        refine wp_region_hoist (fun w' => w'.cell? ⟨X, 0, none⟩ = some (.slice (some ⟨g, 0, none⟩) d.ss.length c) ∧ w'.cell? ⟨w.heap.size, 1, none⟩ = some (.slice (some ⟨b, o, none⟩) d.ps.length d.pc) ∧ w'.cell? ⟨b, o + k * 2, none⟩ = some (.int .i64 j) ∧ w'.cell? ⟨b, o + k * 2 + 1, none⟩ = some ps.v) [true, true, true, true, true, true, true, true, true, true, true, true, true, true, true, false] (by kernel_rfl) (by kernel_rfl) ⟨x0, y1, e0, e1⟩ ?_
        repeat (refine head_take (v := ?_) (yields_run (by rfl) ?_) ?_; rotate_left; (focus (rintro w' ⟨hw0, hw1, hw2, hw3⟩; go_simp <;> with_reducible rfl)); (simp only [Act.put, List.setIfInBounds_toArray, List.set_cons_zero, List.set_cons_succ]))
        refine head_skip (head_done ?_)
        repeat refine tail_skip ?_
        refine tail_step ?_
        intro R HRR
        have HRD := hide (HR.out.below (Below.refl _ _).drew)
        have HRP := hide (HRD.out.put (s := ps) hjl (.inl HSI.out))
        have cr := HRD.out.row.cell j
        rw [List.getElem?_append_left (by rw [secs_len]; exact hjl), List.getElem?_eq_getElem (by rw [secs_len]; exact hjl), secs_get] at cr
        have fr := HRD.out.row.free j
        generalize (cur[j]'hjl) = sj at cr
        clear x0 y1 e0 e1
        go_wp2_with fail
        refine HRR.out _ _ ⟨HRP.out.box.c4.1, (hpa ▸ HRP.out.sb.box.c4.2.1), (HRP.out.sb.bel.cell (p := ⟨b, o + k * 2, none⟩) HBB.out).trans HD0.out, (HRP.out.sb.bel.cell (p := ⟨b, o + k * 2 + 1, none⟩) HBB.out).trans HD1.out⟩ ?_
        clear HRR
        refine tail_done ?_
        clear cr fr
        go_wp2_with fail
        go_roundw
        case rel => exact ⟨k + 1, _, by omega, by go_num, hide (by rw [List.length_set]; exact HCL.out), HRP, hide (HNX.out ps rfl)⟩
        case measure => simp [intOf]; omega
      · obtain rfl : k = d.ps.length := by omega
        have HF := hide HP.out
        rw [List.take_of_length_le (by rw [HWL.out]; exact Nat.le_refl _)] at HF
        obtain ⟨x0, x1, x2, x3⟩ := HR.out.box.c4
        have f2 := HR.out.box.free 2
        have HR2 := hide (HR.out.set 2 (.int .i64 (d.left - d.ps.length)))
        simp only [List.set_cons_zero, List.set_cons_succ] at HR2
        have HFF := hide (HR2.out.fin #[.slice (some ⟨g, 0, none⟩) d.ss.length c, .slice none 0 0, .int .i64 (d.left - d.ps.length), .bool false] (c := c) (by rw [HCL.out]; exact HCC.out))
        have hll := HL.out.2
        clear HCC HP
        go_wp2_with (first | (refine wpList_load_row rfl 25 (.tmp 6) rfl X rfl 25 _ (0, 0) _ HR2.out.box Try.underlying25 rfl Try.size25 ?_) | (refine wpList_store_row rfl 25 (.tmp 2) (.tmp 94) rfl (w.heap.size + 1) #[.slice (some ⟨g, 0, none⟩) d.ss.length c, .slice none 0 0, .int .i64 (d.left - d.ps.length), .bool false] rfl rfl 25 _ HR2.out.sb.res Try.size25 rfl (one25 _ _ _ _ _ _ _ _) ?_))
        refine bodyPost_ret (v := .tuple #[.agg #[.slice (some ⟨g, 0, none⟩) d.ss.length c, .slice none 0 0, .int .i64 (d.left - d.ps.length), .bool false], .int .i64 0]) (results_cell_row_tmp rfl _ _ (w.heap.size + 1) 25 #[.slice (some ⟨g, 0, none⟩) d.ss.length c, .slice none 0 0, .int .i64 (d.left - d.ps.length), .bool false] (0, 0) _ (.int .i64 0) rfl rfl (setRow_heap _ _ _ _ _ _ HR2.out.sb.res) Try.underlying25 rfl Try.size25) rfl ?_
        rw [HX.out]
        refine ⟨⟨some ⟨g, 0, none⟩, cur, c, none, [], 0, d.left - d.ps.length, false⟩, by simp [Dsk.v, HCL.out], ?_, ⟨HFF.out.1, wrsIn_nil _, HLR.out⟩, HFF.out.2⟩
        show (⟨secD cur, [], d.left - d.ps.length, false⟩ : Dk) = _
        rw [HF.out]
        rfl


end Go.Proofs.Ytgigccgklahddaa

/- Sync of the reference, where the disk stops. -/
namespace Go.Proofs.Ytgigccgklahddaa
open Go.RowKit
variable {n0 : Nat}

set_option maxRecDepth 100000 in
set_option maxHeartbeats 6400000 in
theorem rsync_torn (d : Dsk) (w : World) (hi : d.In n0 w) (hr : d.d.runs = true) (hk0 : 0 ≤ d.left) (hkl : d.left.toNat < d.ps.length) :
    Calls Try.prog 49 #[d.v] w (Ans n0 w d.d.sync) := by
  obtain ⟨hs, ⟨hn1, hn2⟩, hsl, hpl, hpv, hl1, hl2⟩ := runs_facts hr
  have HI := hide hi
  have HT := hide (two_below d w)
  have HB := hide (two_boxes d w)
  have HC := hide (rcheck_ok (two d w) (show d.d.valid = true by
    have h2 : d.d.stp = d.stp := rfl
    simp [Dk.runs] at hr
    exact hr.2) (HI.out.below HT.out))
  have HS := hide hs
  have HN := hide hn1
  have HN2 := hide hn2
  have HSL := hide hsl
  have HPV := hide hpv
  have HPL := hide hpl
  have HL := hide (And.intro hl1 hl2)
  obtain ⟨i35, HI35⟩ := hinfo35
  have HI35 := hide HI35
  have HSN := hide (show d.sa = none → d.ss.length = 0 ∧ d.sc = 0 from fun h => by
    have h3 := HI.out.sec.nil h
    have h4 := HI.out.sec.le
    omega)
  have HWL := hide (wrD_len d.ps)
  have hk1 : decide (0 ≤ d.left) = true := decide_eq_true hk0
  have hk2 : decide (d.left < (d.ps.length : Int)) = true := decide_eq_true (by omega)
  have HXF : Hid (∀ k : Nat, k = d.left.toNat → d.d.sync = (⟨tornS (perf (secD d.ss) ((wrD d.ps).take k)) ((d.ps[d.left.toNat]).pos, (d.ps[d.left.toNat]).s.l), [], 0, true⟩, 40)) := hide (fun k hk => by
    subst hk
    have e : d.d.pen.length = d.ps.length := wrD_len d.ps
    have e2 : d.d.left = d.left := rfl
    have e3 : d.d.pen.getD d.left.toNat (0, []) = ((d.ps[d.left.toNat]).pos, (d.ps[d.left.toNat]).s.l) := by
      show (wrD d.ps).getD d.left.toNat (0, []) = _
      rw [List.getD_eq_getElem?_getD, List.getElem?_eq_getElem (by rw [wrD_len]; exact hkl), wrD_get]
      rfl
    unfold Dk.sync
    rw [if_pos hr, e2, if_neg (by omega), e, if_neg (by omega), e3]
    rfl)
  obtain ⟨i5, HI5⟩ := hinfo5
  have HI5 := hide HI5
  clear hi hr hs hn1 hn2 hsl hpl hpv hl1 hl2
  go_enter Try.func49, Try.ntmps49
  go_wp2_with fail
  refine HC.out.mono ?_
  rintro e w1 ⟨rfl, hb⟩
  have H1 := hide (show SB d w [.slice none 0 0, .slice none 0 0, .int .i64 0, .bool false] w1 from ⟨HB.out.1.below hb HB.out.1.lt, HB.out.2.below hb HB.out.2.lt, HT.out.trans (hb.mono HT.out.size)⟩)
  clear hb HB HT HC
  obtain ⟨c0, c1, c2, c3⟩ := H1.out.box.c4
  rw [HS.out] at c3
  go_upto_region 7 with (fail)
  have HD := hide (H1.out.below (Below.refl _ _).drew)
  clear c0 c1 c2 c3 H1
  go_cut [6] from 32 to 38 (fun p W => ∃ g X rest c, p = .pointer (some ⟨X, 0, none⟩) ∧ Hid (RS n0 d w g X d.ss rest [.slice (some ⟨g, 0, none⟩) d.ss.length c, .slice none 0 0, .int .i64 d.left, .bool false] W) ∧ Hid (d.ss.length ≤ c ∧ c ≤ 9223372036854775807))
  case first =>
    have HDB := hide (show ∀ W', Below w1.drew.heap.size w1.drew W' → Blk W' w.heap.size 25 d.cs from fun W' hW => HD.out.box.below hW HD.out.box.lt)
    refine wp_region_plan3 (fun w' => Below w1.drew.heap.size w1.drew w') (.take 1 (.take 2 (.take 4 (.take 5 (.both 0 (.both 3 (.take 6 (.run 7 (.run 8 .done))) 7 (.run 3 (.take 6 (.run 8 .done)))) 7 (.run 0 (.run 3 (.take 6 (.run 8 .done))))))))) (by kernel_rfl) (by kernel_rfl) (Below.refl _ _) ?_
    generalize w1.drew = wD at *
    have HB0 := hide (Below.refl wD.heap.size wD)
    (refine plan3_take (o := ?_) (v := ?_) (by simp only [List.getElem?_toArray, List.getElem?_cons_succ, List.getElem?_cons_zero]; rfl) (yields_run (by rfl) ?_) ?_; rotate_left; (focus (intro w' hw'; obtain ⟨q0, -, q2, -⟩ := (HDB.out w' hw').c4; go_simp <;> with_reducible rfl)); (simp only [Act.put, List.setIfInBounds_toArray, List.set_cons_zero, List.set_cons_succ]))
    (refine plan3_take (o := ?_) (v := ?_) (by simp only [List.getElem?_toArray, List.getElem?_cons_succ, List.getElem?_cons_zero]; rfl) (yields_run (by rfl) ?_) ?_; rotate_left; (focus (intro w' hw'; obtain ⟨q0, -, q2, -⟩ := (HDB.out w' hw').c4; go_simp <;> with_reducible rfl)); (simp only [Act.put, List.setIfInBounds_toArray, List.set_cons_zero, List.set_cons_succ]))
    (refine plan3_take (o := ?_) (v := ?_) (by simp only [List.getElem?_toArray, List.getElem?_cons_succ, List.getElem?_cons_zero]; rfl) (yields_run (by rfl) ?_) ?_; rotate_left; (focus (intro w' hw'; obtain ⟨q0, -, q2, -⟩ := (HDB.out w' hw').c4; go_simp <;> with_reducible rfl)); (simp only [Act.put, List.setIfInBounds_toArray, List.set_cons_zero, List.set_cons_succ]))
    (refine plan3_take (o := ?_) (v := ?_) (by simp only [List.getElem?_toArray, List.getElem?_cons_succ, List.getElem?_cons_zero]; rfl) (yields_run (by rfl) ?_) ?_; rotate_left; (focus (intro w' hw'; obtain ⟨q0, -, q2, -⟩ := (HDB.out w' hw').c4; go_simp <;> with_reducible rfl)); (simp only [Act.put, List.setIfInBounds_toArray, List.set_cons_zero, List.set_cons_succ]))
    refine plan3_both (o1 := ?_) (o2 := ?_) (by simp only [List.getElem?_toArray, List.getElem?_cons_zero]; rfl) (by simp only [List.getElem?_toArray, List.getElem?_cons_succ, List.getElem?_cons_zero]; rfl) ?_ ?_
    · intro R HR
      have HB2 := hide (below_one HB0.out (below_new wD (.cells #[] 35)))
      have HO2 := hide (own_empty wD wD.heap.size 35 1 HB0.out.size)
      try simp only [World.size_alloc] at HO2
      go_wp2_with fail
      refine HR.out _ _ HB2.out ?_
      clear HR
      refine plan3_both (o1 := ?_) (o2 := ?_) (by simp only [List.getElem?_toArray, List.getElem?_cons_succ, List.getElem?_cons_zero]; rfl) (by simp only [List.getElem?_toArray, List.getElem?_cons_succ, List.getElem?_cons_zero]; rfl) ?_ ?_
      · intro R HR
        have HN3 := hide ((HI.out.sec.cels.below (HD.out.bel.trans (HB2.out.mono HD.out.bel.size))).opt)
        have hz := HB2.out.size
        have hsl2 := HN2.out
        at_builtin
        refine wpList_app rfl (.tmp 32) (.tmp 34) 22 rfl wD.heap.size 35 i35 _ 1 24 Try.underlying22 HI35.out rfl (by omega) _ 0 [] rfl HO2.out d.sa d.ss.length d.sc (secs d.ss) rfl HSN.out (by rw [secs_len, Nat.mul_one]) HN3.out (secs_one _) (by unfold maxLen; omega) (by omega) hz ?_
        intro A3 cap3 w3 hown hg
        rw [Nat.zero_add, List.nil_append] at hown
        have HB3 := hide (below_app (B := wD.heap.size) HB2.out HO2.out hg (Nat.le_refl _) hz)
        have HO3 := hide hown
        clear hown hg
        simp only [Nat.zero_add]
        go_wp2_with fail
        refine HR.out _ _ HB3.out ?_
        clear HR hz hsl2
        (refine plan3_take (o := ?_) (v := ?_) (by simp only [List.getElem?_toArray, List.getElem?_cons_succ, List.getElem?_cons_zero]; rfl) (yields_run (by rfl) ?_) ?_; rotate_left; (focus (intro w' hw'; obtain ⟨q0, -, q2, -⟩ := (HDB.out w' hw').c4; go_simp <;> with_reducible rfl)); (simp only [Act.put, List.setIfInBounds_toArray, List.set_cons_zero, List.set_cons_succ]))
        refine plan3_run (o := ?_) (by simp only [List.getElem?_toArray, List.getElem?_cons_succ, List.getElem?_cons_zero]; rfl) ?_
        intro R HR
        have HB4 := hide (below_one HB3.out (below_new w3 (.cells #[.slice none 0 0, .slice none 0 0, .int .i64 0, .bool false] 25)))
        have HX4 := hide (Blk.new w3 25 [.slice none 0 0, .slice none 0 0, .int .i64 0, .bool false])
        have HG4 := hide HB3.out.size
        try simp only [World.size_alloc] at HX4 HG4
        have HO4 := hide (own_later HO3.out (below_new w3 (.cells #[.slice none 0 0, .slice none 0 0, .int .i64 0, .bool false] 25)))
        go_wp2_with fail
        refine HR.out _ _ HB4.out ?_
        clear HR
        refine plan3_run (o := ?_) (by simp only [List.getElem?_toArray, List.getElem?_cons_succ, List.getElem?_cons_zero]; rfl) ?_
        intro R HR
        have HF := hide (rs_of HD.out HI.out HN.out HB4.out HO4.out HX4.out HG4.out)
        have hsl2 := below_setRow HB4.out HG4.out #[.slice A3 d.ss.length cap3, .slice none 0 0, .int .i64 d.left, .bool false]
        have HSB := hide hsl2
        clear hsl2
        go_wp2_with (refine wpList_store_row rfl 25 (.tmp 6) (.tmp 38) rfl _ #[.slice A3 d.ss.length cap3, .slice none 0 0, .int .i64 d.left, .bool false] rfl rfl 25 _ HX4.out Try.size25 rfl (one25 _ _ _ _ _ _ _ _) ?_)
        refine HR.out _ _ HSB.out ?_
        clear HR
        refine plan3_done ?_
        obtain ⟨g, rest, hA, hF, hcc⟩ := HF.out
        go_wp2_with fail
        go_meet
        case rel =>
          rw [hA] at hF ⊢
          exact ⟨g, _, rest, _, rfl, hide hF, hide hcc⟩
      · intro R HR
        have HB3 := hide (below_one HB2.out (below_new (wD.alloc (.cells #[] 35)) (.cells #[.slice none 0 0, .slice none 0 0, .int .i64 0, .bool false] 25)))
        have HX3 := hide (Blk.new (wD.alloc (.cells #[] 35)) 25 [.slice none 0 0, .slice none 0 0, .int .i64 0, .bool false])
        have HG3 := hide HB2.out.size
        try simp only [World.size_alloc] at HX3 HG3
        have HO3 := hide (own_later HO2.out (below_new (wD.alloc (.cells #[] 35)) (.cells #[.slice none 0 0, .slice none 0 0, .int .i64 0, .bool false] 25)))
        go_wp2_with fail
        refine HR.out _ _ HB3.out ?_
        clear HR
        refine plan3_run (o := ?_) (by simp only [List.getElem?_toArray, List.getElem?_cons_succ, List.getElem?_cons_zero]; rfl) ?_
        intro R HR
        have HN4 := hide ((HI.out.sec.cels.below (HD.out.bel.trans (HB3.out.mono HD.out.bel.size))).opt)
        have hz := HB3.out.size
        have hsl2 := HN2.out
        at_builtin
        refine wpList_app rfl (.tmp 32) (.tmp 34) 22 rfl wD.heap.size 35 i35 _ 1 24 Try.underlying22 HI35.out rfl (by omega) _ 0 [] rfl HO3.out d.sa d.ss.length d.sc (secs d.ss) rfl HSN.out (by rw [secs_len, Nat.mul_one]) HN4.out (secs_one _) (by unfold maxLen; omega) (by omega) hz ?_
        intro A4 cap4 w4 hown hg
        rw [Nat.zero_add, List.nil_append] at hown
        have HB4 := hide (below_app (B := wD.heap.size) HB3.out HO3.out hg (Nat.le_refl _) hz)
        have HX4 := hide (HX3.out.app HO3.out hg (by omega))
        have HO4 := hide hown
        clear hown hg
        simp only [Nat.zero_add]
        go_wp2_with fail
        refine HR.out _ _ HB4.out ?_
        clear HR hz hsl2
        (refine plan3_take (o := ?_) (v := ?_) (by simp only [List.getElem?_toArray, List.getElem?_cons_succ, List.getElem?_cons_zero]; rfl) (yields_run (by rfl) ?_) ?_; rotate_left; (focus (intro w' hw'; obtain ⟨q0, -, q2, -⟩ := (HDB.out w' hw').c4; go_simp <;> with_reducible rfl)); (simp only [Act.put, List.setIfInBounds_toArray, List.set_cons_zero, List.set_cons_succ]))
        refine plan3_run (o := ?_) (by simp only [List.getElem?_toArray, List.getElem?_cons_succ, List.getElem?_cons_zero]; rfl) ?_
        intro R HR
        have HF := hide (rs_of HD.out HI.out HN.out HB4.out HO4.out HX4.out HG3.out)
        have hsl2 := below_setRow HB4.out HG3.out #[.slice A4 d.ss.length cap4, .slice none 0 0, .int .i64 d.left, .bool false]
        have HSB := hide hsl2
        clear hsl2
        go_wp2_with (refine wpList_store_row rfl 25 (.tmp 6) (.tmp 38) rfl _ #[.slice A4 d.ss.length cap4, .slice none 0 0, .int .i64 d.left, .bool false] rfl rfl 25 _ HX4.out Try.size25 rfl (one25 _ _ _ _ _ _ _ _) ?_)
        refine HR.out _ _ HSB.out ?_
        clear HR
        refine plan3_done ?_
        obtain ⟨g, rest, hA, hF, hcc⟩ := HF.out
        go_wp2_with fail
        go_meet
        case rel =>
          rw [hA] at hF ⊢
          exact ⟨g, _, rest, _, rfl, hide hF, hide hcc⟩
    · intro R HR
      have HB2 := hide (below_one HB0.out (below_new wD (.cells #[.slice none 0 0, .slice none 0 0, .int .i64 0, .bool false] 25)))
      have HX2 := hide (Blk.new wD 25 [.slice none 0 0, .slice none 0 0, .int .i64 0, .bool false])
      have HG2 := hide HB0.out.size
      try simp only [World.size_alloc] at HX2 HG2
      go_wp2_with fail
      refine HR.out _ _ HB2.out ?_
      clear HR
      refine plan3_run (o := ?_) (by simp only [List.getElem?_toArray, List.getElem?_cons_zero]; rfl) ?_
      intro R HR
      have HB3 := hide (below_one HB2.out (below_new (wD.alloc (.cells #[.slice none 0 0, .slice none 0 0, .int .i64 0, .bool false] 25)) (.cells #[] 35)))
      have HO3 := hide (own_empty (wD.alloc (.cells #[.slice none 0 0, .slice none 0 0, .int .i64 0, .bool false] 25)) wD.heap.size 35 1 HB2.out.size)
      have HX3 := hide (HX2.out.alloc (.cells #[] 35))
      try simp only [World.size_alloc] at HO3
      go_wp2_with fail
      refine HR.out _ _ HB3.out ?_
      clear HR
      refine plan3_run (o := ?_) (by simp only [List.getElem?_toArray, List.getElem?_cons_succ, List.getElem?_cons_zero]; rfl) ?_
      intro R HR
      have HN4 := hide ((HI.out.sec.cels.below (HD.out.bel.trans (HB3.out.mono HD.out.bel.size))).opt)
      have hz := HB3.out.size
      have hsl2 := HN2.out
      at_builtin
      refine wpList_app rfl (.tmp 32) (.tmp 34) 22 rfl wD.heap.size 35 i35 _ 1 24 Try.underlying22 HI35.out rfl (by omega) _ 0 [] rfl HO3.out d.sa d.ss.length d.sc (secs d.ss) rfl HSN.out (by rw [secs_len, Nat.mul_one]) HN4.out (secs_one _) (by unfold maxLen; omega) (by omega) hz ?_
      intro A4 cap4 w4 hown hg
      rw [Nat.zero_add, List.nil_append] at hown
      have HB4 := hide (below_app (B := wD.heap.size) HB3.out HO3.out hg (Nat.le_refl _) hz)
      have HX4 := hide (HX3.out.app HO3.out hg (by omega))
      have HO4 := hide hown
      clear hown hg
      simp only [Nat.zero_add]
      go_wp2_with fail
      refine HR.out _ _ HB4.out ?_
      clear HR hz hsl2
      (refine plan3_take (o := ?_) (v := ?_) (by simp only [List.getElem?_toArray, List.getElem?_cons_succ, List.getElem?_cons_zero]; rfl) (yields_run (by rfl) ?_) ?_; rotate_left; (focus (intro w' hw'; obtain ⟨q0, -, q2, -⟩ := (HDB.out w' hw').c4; go_simp <;> with_reducible rfl)); (simp only [Act.put, List.setIfInBounds_toArray, List.set_cons_zero, List.set_cons_succ]))
      refine plan3_run (o := ?_) (by simp only [List.getElem?_toArray, List.getElem?_cons_succ, List.getElem?_cons_zero]; rfl) ?_
      intro R HR
      have HF := hide (rs_of HD.out HI.out HN.out HB4.out HO4.out HX4.out HG2.out)
      have hsl2 := below_setRow HB4.out HG2.out #[.slice A4 d.ss.length cap4, .slice none 0 0, .int .i64 d.left, .bool false]
      have HSB := hide hsl2
      clear hsl2
      go_wp2_with (refine wpList_store_row rfl 25 (.tmp 6) (.tmp 38) rfl _ #[.slice A4 d.ss.length cap4, .slice none 0 0, .int .i64 d.left, .bool false] rfl rfl 25 _ HX4.out Try.size25 rfl (one25 _ _ _ _ _ _ _ _) ?_)
      refine HR.out _ _ HSB.out ?_
      clear HR
      refine plan3_done ?_
      obtain ⟨g, rest, hA, hF, hcc⟩ := HF.out
      go_wp2_with fail
      go_meet
      case rel =>
        rw [hA] at hF ⊢
        exact ⟨g, _, rest, _, rfl, hide hF, hide hcc⟩
  case rest =>
    obtain ⟨g, X, rest, c, rfl, HR0, HCC⟩ := hcut
    generalize wc = w3 at *
    go_wp2_with fail
    go_loopw [7] (fun i wr => ∃ (k : Nat) (cur : List Sec), k ≤ d.left.toNat ∧ i = .int .i64 k ∧ Hid (cur.length = d.ss.length) ∧ Hid (RS n0 d w g X cur rest [.slice (some ⟨g, 0, none⟩) d.ss.length c, .slice none 0 0, .int .i64 d.left, .bool false] wr) ∧ Hid (secD cur = perf (secD d.ss) ((wrD d.ps).take k))) (fun i _ => d.left.toNat - (intOf i).toNat)
    case atStart => exact ⟨0, d.ss, Nat.zero_le _, rfl, hide rfl, HR0, hide rfl⟩
    case round =>
      clear HR0 HD
      obtain ⟨k, cur, hk, rfl, HCL, HR, HP⟩ := hrel
      by_cases hlt : k < d.left.toNat
      · have hlt' : (k : Int) < d.left := by omega
        have hkp : k < d.ps.length := by omega
        have hpl2 := HPL.out
        have hkp' : (k : Int) < (d.ps.length : Int) := by omega
        obtain ⟨b, o, hpa, hbb, d0, d1⟩ := (HI.out.pen.at hkp)
        have e0 := (HR.out.sb.bel.cell (p := ⟨b, o + k * 2, none⟩) hbb).trans d0
        have e1 := (HR.out.sb.bel.cell (p := ⟨b, o + k * 2 + 1, none⟩) hbb).trans d1
        obtain ⟨v1, v2, v3⟩ := HPV.out k hkp
        have HSI := hide ((HI.out.pen.each _ (List.getElem_mem hkp)).1)
        have HNX := hide (show ∀ s : Sec, s.l = (d.ps[k]).s.l → secD (cur.set (d.ps[k]).pos.toNat s) = perf (secD d.ss) ((wrD d.ps).take (k + 1)) from fun s hs => by
          rw [secD_set, HP.out, perf_take (by rw [HWL.out]; exact hkp), wrD_get, hs]
          rfl)
        have HD0 := hide d0
        have HD1 := hide d1
        generalize d.ps[k] = p at e0 e1 v1 v2 HSI HNX HD0 HD1
        clear d0 d1 v3 HP
        obtain ⟨pos, ps⟩ := p
        simp only at e0 e1 v1 v2 HSI HNX HD0 HD1
        obtain ⟨j, rfl⟩ := Int.eq_ofNat_of_zero_le v1
        rw [Int.toNat_natCast] at HNX
        have hjl : j < cur.length := by rw [HCL.out]; omega
        have x0 := HR.out.box.c4.1
        have y1 := HR.out.sb.box.c4.2.1
        rw [hpa] at y1
        have HBB := hide hbb
        clear hbb
        have hj0 : (0 : Int) ≤ (j : Int) := by omega
        go_upto_region 11 with (fail)
        refine wp_region_hoist (fun w' => w'.cell? ⟨X, 0, none⟩ = some (.slice (some ⟨g, 0, none⟩) d.ss.length c) ∧ w'.cell? ⟨w.heap.size, 1, none⟩ = some (.slice (some ⟨b, o, none⟩) d.ps.length d.pc) ∧ w'.cell? ⟨b, o + k * 2, none⟩ = some (.int .i64 j) ∧ w'.cell? ⟨b, o + k * 2 + 1, none⟩ = some ps.v) [true, true, true, true, true, true, true, true, true, true, true, true, true, true, true, false] (by kernel_rfl) (by kernel_rfl) ⟨x0, y1, e0, e1⟩ ?_
        repeat (refine head_take (v := ?_) (yields_run (by rfl) ?_) ?_; rotate_left; (focus (rintro w' ⟨hw0, hw1, hw2, hw3⟩; go_simp <;> with_reducible rfl)); (simp only [Act.put, List.setIfInBounds_toArray, List.set_cons_zero, List.set_cons_succ]))
        refine head_skip (head_done ?_)
        repeat refine tail_skip ?_
        refine tail_step ?_
        intro R HRR
        have HRD := hide (HR.out.below (Below.refl _ _).drew)
        have HRP := hide (HRD.out.put (s := ps) hjl (.inl HSI.out))
        have cr := HRD.out.row.cell j
        rw [List.getElem?_append_left (by rw [secs_len]; exact hjl), List.getElem?_eq_getElem (by rw [secs_len]; exact hjl), secs_get] at cr
        have fr := HRD.out.row.free j
        generalize (cur[j]'hjl) = sj at cr
        clear x0 y1 e0 e1
        go_wp2_with fail
        refine HRR.out _ _ ⟨HRP.out.box.c4.1, (hpa ▸ HRP.out.sb.box.c4.2.1), (HRP.out.sb.bel.cell (p := ⟨b, o + k * 2, none⟩) HBB.out).trans HD0.out, (HRP.out.sb.bel.cell (p := ⟨b, o + k * 2 + 1, none⟩) HBB.out).trans HD1.out⟩ ?_
        clear HRR
        refine tail_done ?_
        clear cr fr
        go_wp2_with fail
        go_roundw
        case rel => exact ⟨k + 1, _, by omega, by go_num, hide (by rw [List.length_set]; exact HCL.out), HRP, hide (HNX.out ps rfl)⟩
        case measure => simp [intOf]; omega
      · have hge : ¬ ((k : Int) < d.left) := by omega
        have HKK := hide (show k = d.left.toNat by omega)
        have HVA : Hid (∀ (i : Nat) (h : i < cur.length), (cur[i]).l.length = 128) := hide (fun i h => by
          refine secD_valid (s := secD d.ss) (ps := (wrD d.ps).take k) (fun x hx => ?_) (fun p hp => ?_) _ ?_
          · obtain ⟨i, hi, rfl⟩ := List.getElem_of_mem hx
            rw [secD_get]
            exact HSL.out i (by rw [secD_len] at hi; exact hi)
          · obtain ⟨i, hi, rfl⟩ := List.getElem_of_mem (List.mem_of_mem_take hp)
            rw [wrD_get]
            rw [wrD_len] at hi
            exact (HPV.out i hi).2.2
          · rw [← HP.out]
            exact List.mem_map.2 ⟨_, List.getElem_mem h, rfl⟩)
        obtain ⟨pb, po, hpa, hpb, q0, q1⟩ := HI.out.pen.at hkl
        have p0 := (HR.out.sb.bel.cell (p := ⟨pb, po + d.left.toNat * 2, none⟩) hpb).trans q0
        have p1 := (HR.out.sb.bel.cell (p := ⟨pb, po + d.left.toNat * 2 + 1, none⟩) hpb).trans q1
        have y1 := HR.out.sb.box.c4.2.1
        rw [hpa] at y1
        have hpi := (HI.out.pen.each _ (List.getElem_mem hkl)).1
        obtain ⟨hv1, hv2, hv3⟩ := HPV.out _ hkl
        have HX := hide (HXF.out k HKK.out)
        generalize d.ps[d.left.toNat] = p at p0 p1 hpi hv1 hv2 hv3 HX
        obtain ⟨pos, A, l, cap⟩ := p
        simp only at p0 p1 hv1 hv2 hv3 hpi HX
        obtain ⟨j, rfl⟩ := Int.eq_ofNat_of_zero_le hv1
        have hj : j < cur.length := by rw [HCL.out]; omega
        have HJ := hide hj
        obtain ⟨b2, o2, rfl, hb2, hc2⟩ := hpi.cels.at (k := 0) (by rw [bs_len, hv3]; omega)
        have hcap : 128 ≤ cap := by have := hpi.le; rw [hv3] at this; exact this
        have HMX := hide hpi.cap
        have HC2 := hide (And.intro hb2 hc2)
        have HL1 := hide hv3
        clear HXF
        clear hlt hk q0 q1 hpi hb2 hc2 hpb hv1
        rw [show (Sec.mk (some ⟨b2, o2, none⟩) l cap).v = .slice (some ⟨b2, o2, none⟩) 128 cap by simp [hv3]] at p1
        go_upto_region 14 with (fail)
        clear p0 p1 y1 hj hge hpa hv3 hkl
        have HRX := hide ((HR.out.below (below_new wr (.cells #[.int .i64 j, .slice (some ⟨b2, o2, none⟩) 128 cap] 77))).below (Below.refl _ _).drew)
        have HY : Hid (Blk (wr.alloc (.cells #[.int .i64 j, .slice (some ⟨b2, o2, none⟩) 128 cap] 77)).drew wr.heap.size 77 [.int .i64 j, .slice (some ⟨b2, o2, none⟩) 128 cap]) := hide (Blk.new wr 77 [.int .i64 j, .slice (some ⟨b2, o2, none⟩) 128 cap])
        have HSK : Hid ((cur[j]'HJ.out).In n0 (wr.alloc (.cells #[.int .i64 j, .slice (some ⟨b2, o2, none⟩) 128 cap] 77)).drew) := hide (by
          rcases HRX.out.each _ (List.getElem_mem HJ.out) with k | k
          · exact k.below HRX.out.sb.bel
          · exact k.in)
        have HCR : Hid ((wr.alloc (.cells #[.int .i64 j, .slice (some ⟨b2, o2, none⟩) 128 cap] 77)).drew.cell? ⟨g, j, none⟩ = some (cur[j]'HJ.out).v) := hide (by
          have cr := HRX.out.row.cell j
          rw [List.getElem?_append_left (by rw [secs_len]; exact HJ.out), List.getElem?_eq_getElem (by rw [secs_len]; exact HJ.out), secs_get] at cr
          exact cr)
        have HTS : Hid (∀ s : Sec, s.l = l.take 64 ++ (cur[j]'HJ.out).l.drop 64 → secD (cur.set j s) = tornS (perf (secD d.ss) ((wrD d.ps).take k)) ((j : Int), l)) := hide (fun s hs => by
          rw [secD_set, HP.out, hs]
          unfold tornS
          rw [Int.toNat_natCast, ← HP.out, List.getD_eq_getElem?_getD, List.getElem?_eq_getElem (by rw [secD_len]; exact HJ.out), secD_get]
          rfl)
        have HL3 := hide (HVA.out j HJ.out)
        generalize cur[j]'HJ.out = sk at HSK HCR HTS HL3
        obtain ⟨A3, l3, cap3⟩ := sk
        obtain ⟨b3, o3, rfl, hb3, hc3⟩ := HSK.out.cels.at (k := 0) (by rw [bs_len, HL3.out]; omega)
        have HC3 := hide (And.intro hb3 hc3)
        have hcap3 : 128 ≤ cap3 := by have := HSK.out.le; rw [HL3.out] at this; exact this
        simp only [Sec.v, HL3.out] at HCR
        clear hb3 hc3 HP
        have HSX := hide (show ∀ W', Below (wr.alloc (.cells #[.int .i64 j, .slice (some ⟨b2, o2, none⟩) 128 cap] 77)).drew.heap.size (wr.alloc (.cells #[.int .i64 j, .slice (some ⟨b2, o2, none⟩) 128 cap] 77)).drew W' → Blk W' X 25 [.slice (some ⟨g, 0, none⟩) d.ss.length c, .slice none 0 0, .int .i64 d.left, .bool false] ∧ Blk W' wr.heap.size 77 [.int .i64 j, .slice (some ⟨b2, o2, none⟩) 128 cap] from fun W' hW => ⟨HRX.out.box.below hW HRX.out.box.lt, HY.out.below hW HY.out.lt⟩)
        refine wp_region_plan3 (fun w' => Blk w' X 25 [.slice (some ⟨g, 0, none⟩) d.ss.length c, .slice none 0 0, .int .i64 d.left, .bool false] ∧ Blk w' wr.heap.size 77 [.int .i64 j, .slice (some ⟨b2, o2, none⟩) 128 cap]) (.take 0 (.take 1 (.take 2 (.take 3 (.take 5 (.take 6 (.take 7 (.take 9 (.take 10 (.take 11 (.take 12 (.take 13 (.both 4 (.both 8 (.run 14 (.take 15 (.run 16 (.take 17 (.run 18 .done))))) 14 (.take 15 (.run 8 (.run 16 (.take 17 (.run 18 .done)))))) 14 (.take 15 (.run 4 (.run 8 (.run 16 (.take 17 (.run 18 .done))))))))))))))))))) (by kernel_rfl) (by kernel_rfl) ⟨HRX.out.box, HY.out⟩ ?_
        generalize (wr.alloc (.cells #[.int .i64 j, .slice (some ⟨b2, o2, none⟩) 128 cap] 77)).drew = wD at *
        have HB0 := hide (Below.refl wD.heap.size wD)
        have HLT := hide (show (l.take 64 ++ l3.drop 64).length = 128 by rw [List.length_append, List.length_take, List.length_drop, HL1.out, HL3.out]; rfl)
        have hj0 : (0 : Int) ≤ (j : Int) := by omega
        have hcapA : (64 : Int) ≤ (cap : Int) := by omega
        have hcapB : ¬ cap3 = 64 := by omega
        have hcapC : (128 : Int) ≤ (cap3 : Int) := by omega
        have hcapD : (64 : Int) ≤ (cap3 : Int) := by omega
        (refine plan3_take (o := ?_) (v := ?_) (by simp only [List.getElem?_toArray, List.getElem?_cons_zero]; rfl) (yields_run (by rfl) ?_) ?_; rotate_left; (focus (intro w' hw'; obtain ⟨q0, -, -, -⟩ := hw'.1.c4; obtain ⟨r0, r1⟩ := hw'.2.c2; go_simp <;> with_reducible rfl)); (simp only [Act.put, List.setIfInBounds_toArray, List.set_cons_zero, List.set_cons_succ]))
        (refine plan3_take (o := ?_) (v := ?_) (by simp only [List.getElem?_toArray, List.getElem?_cons_succ, List.getElem?_cons_zero]; rfl) (yields_run (by rfl) ?_) ?_; rotate_left; (focus (intro w' hw'; obtain ⟨q0, -, -, -⟩ := hw'.1.c4; obtain ⟨r0, r1⟩ := hw'.2.c2; go_simp <;> with_reducible rfl)); (simp only [Act.put, List.setIfInBounds_toArray, List.set_cons_zero, List.set_cons_succ]))
        (refine plan3_take (o := ?_) (v := ?_) (by simp only [List.getElem?_toArray, List.getElem?_cons_succ, List.getElem?_cons_zero]; rfl) (yields_run (by rfl) ?_) ?_; rotate_left; (focus (intro w' hw'; obtain ⟨q0, -, -, -⟩ := hw'.1.c4; obtain ⟨r0, r1⟩ := hw'.2.c2; go_simp <;> with_reducible rfl)); (simp only [Act.put, List.setIfInBounds_toArray, List.set_cons_zero, List.set_cons_succ]))
        (refine plan3_take (o := ?_) (v := ?_) (by simp only [List.getElem?_toArray, List.getElem?_cons_succ, List.getElem?_cons_zero]; rfl) (yields_run (by rfl) ?_) ?_; rotate_left; (focus (intro w' hw'; obtain ⟨q0, -, -, -⟩ := hw'.1.c4; obtain ⟨r0, r1⟩ := hw'.2.c2; go_simp <;> with_reducible rfl)); (simp only [Act.put, List.setIfInBounds_toArray, List.set_cons_zero, List.set_cons_succ]))
        (refine plan3_take (o := ?_) (v := ?_) (by simp only [List.getElem?_toArray, List.getElem?_cons_succ, List.getElem?_cons_zero]; rfl) (yields_run (by rfl) ?_) ?_; rotate_left; (focus (intro w' hw'; obtain ⟨q0, -, -, -⟩ := hw'.1.c4; obtain ⟨r0, r1⟩ := hw'.2.c2; go_simp <;> with_reducible rfl)); (simp only [Act.put, List.setIfInBounds_toArray, List.set_cons_zero, List.set_cons_succ]))
        (refine plan3_take (o := ?_) (v := ?_) (by simp only [List.getElem?_toArray, List.getElem?_cons_succ, List.getElem?_cons_zero]; rfl) (yields_run (by rfl) ?_) ?_; rotate_left; (focus (intro w' hw'; obtain ⟨q0, -, -, -⟩ := hw'.1.c4; obtain ⟨r0, r1⟩ := hw'.2.c2; go_simp <;> with_reducible rfl)); (simp only [Act.put, List.setIfInBounds_toArray, List.set_cons_zero, List.set_cons_succ]))
        (refine plan3_take (o := ?_) (v := ?_) (by simp only [List.getElem?_toArray, List.getElem?_cons_succ, List.getElem?_cons_zero]; rfl) (yields_run (by rfl) ?_) ?_; rotate_left; (focus (intro w' hw'; obtain ⟨q0, -, -, -⟩ := hw'.1.c4; obtain ⟨r0, r1⟩ := hw'.2.c2; go_simp <;> with_reducible rfl)); (simp only [Act.put, List.setIfInBounds_toArray, List.set_cons_zero, List.set_cons_succ]))
        (refine plan3_take (o := ?_) (v := ?_) (by simp only [List.getElem?_toArray, List.getElem?_cons_succ, List.getElem?_cons_zero]; rfl) (yields_run (by rfl) ?_) ?_; rotate_left; (focus (intro w' hw'; obtain ⟨q0, -, -, -⟩ := hw'.1.c4; obtain ⟨r0, r1⟩ := hw'.2.c2; go_simp <;> with_reducible rfl)); (simp only [Act.put, List.setIfInBounds_toArray, List.set_cons_zero, List.set_cons_succ]))
        (refine plan3_take (o := ?_) (v := ?_) (by simp only [List.getElem?_toArray, List.getElem?_cons_succ, List.getElem?_cons_zero]; rfl) (yields_run (by rfl) ?_) ?_; rotate_left; (focus (intro w' hw'; obtain ⟨q0, -, -, -⟩ := hw'.1.c4; obtain ⟨r0, r1⟩ := hw'.2.c2; go_simp <;> with_reducible rfl)); (simp only [Act.put, List.setIfInBounds_toArray, List.set_cons_zero, List.set_cons_succ]))
        (refine plan3_take (o := ?_) (v := ?_) (by simp only [List.getElem?_toArray, List.getElem?_cons_succ, List.getElem?_cons_zero]; rfl) (yields_run (by rfl) ?_) ?_; rotate_left; (focus (intro w' hw'; obtain ⟨q0, -, -, -⟩ := hw'.1.c4; obtain ⟨r0, r1⟩ := hw'.2.c2; go_simp <;> with_reducible rfl)); (simp only [Act.put, List.setIfInBounds_toArray, List.set_cons_zero, List.set_cons_succ]))
        (refine plan3_take (o := ?_) (v := ?_) (by simp only [List.getElem?_toArray, List.getElem?_cons_succ, List.getElem?_cons_zero]; rfl) (yields_run (by rfl) ?_) ?_; rotate_left; (focus (intro w' hw'; obtain ⟨q0, -, -, -⟩ := hw'.1.c4; obtain ⟨r0, r1⟩ := hw'.2.c2; go_simp <;> with_reducible rfl)); (simp only [Act.put, List.setIfInBounds_toArray, List.set_cons_zero, List.set_cons_succ]))
        (refine plan3_take (o := ?_) (v := ?_) (by simp only [List.getElem?_toArray, List.getElem?_cons_succ, List.getElem?_cons_zero]; rfl) (yields_run (by rfl) ?_) ?_; rotate_left; (focus (intro w' hw'; obtain ⟨q0, -, -, -⟩ := hw'.1.c4; obtain ⟨r0, r1⟩ := hw'.2.c2; go_simp <;> with_reducible rfl)); (simp only [Act.put, List.setIfInBounds_toArray, List.set_cons_zero, List.set_cons_succ]))
        refine plan3_both (o1 := ?_) (o2 := ?_) (by simp only [List.getElem?_toArray, List.getElem?_cons_succ, List.getElem?_cons_zero]; rfl) (by simp only [List.getElem?_toArray, List.getElem?_cons_succ, List.getElem?_cons_zero]; rfl) ?_ ?_
        · intro R HR2
          have HB12 := hide (below_one HB0.out (below_new wD (.cells #[] 5)))
          have HO12 := hide (own_empty wD wD.heap.size 5 1 HB0.out.size)
          go_wp2_with fail
          refine HR2.out _ _ (HSX.out _ HB12.out) ?_
          clear HR2
          refine plan3_both (o1 := ?_) (o2 := ?_) (by simp only [List.getElem?_toArray, List.getElem?_cons_succ, List.getElem?_cons_zero]; rfl) (by simp only [List.getElem?_toArray, List.getElem?_cons_succ, List.getElem?_cons_zero]; rfl) ?_ ?_
          · intro R HR2
            have HNA := hide (fun ad (e : some (⟨b2, o2, none⟩ : Addr) = some ad) => cels_take (W := (wD.alloc (.cells #[] 5))) (k := 64) (ad := ad) e fun i hi => (HB12.out.cell (p := ⟨b2, o2 + i, none⟩) (Nat.lt_of_lt_of_le HC2.out.1 HRX.out.sb.bel.size)).trans ((HRX.out.sb.bel.cell (p := ⟨b2, o2 + i, none⟩) HC2.out.1).trans (HC2.out.2 i hi)))
            have hz := HB12.out.size
            at_builtin
            refine wpList_app rfl (.tmp 69) (.tmp 72) 35 rfl wD.heap.size 5 i5 _ 1 1 Try.underlying35 HI5.out rfl (by omega) _ 0 [] rfl HO12.out (some ⟨b2, o2, none⟩) 64 cap (bs (l.take 64)) rfl (fun h => by cases h) (by rw [bs_len, List.length_take, HL1.out]; rfl) HNA.out (bs_one _) (by unfold maxLen; omega) (by omega) hz ?_
            intro A13 cap13 w13 hown hg
            rw [Nat.zero_add, List.nil_append] at hown
            have HB13 := hide (below_app (B := wD.heap.size) HB12.out HO12.out hg (Nat.le_refl _) hz)
            have HO13 := hide hown
            clear hown hg
            simp only [Nat.zero_add]
            go_wp2_with fail
            refine HR2.out _ _ (HSX.out _ HB13.out) ?_
            clear HR2 hz HNA
            refine plan3_run (o := ?_) (by simp only [List.getElem?_toArray, List.getElem?_cons_succ, List.getElem?_cons_zero]; rfl) ?_
            intro R HR2
            have cr := (HB13.out.cell (p := ⟨g, j, none⟩) (cell_lt HCR.out)).trans HCR.out
            go_wp2_with fail
            refine HR2.out _ _ (HSX.out _ HB13.out) ?_
            clear HR2 cr
            (refine plan3_take (o := ?_) (v := ?_) (by simp only [List.getElem?_toArray, List.getElem?_cons_succ, List.getElem?_cons_zero]; rfl) (yields_run (by rfl) ?_) ?_; rotate_left; (focus (intro w' hw'; obtain ⟨q0, -, -, -⟩ := hw'.1.c4; obtain ⟨r0, r1⟩ := hw'.2.c2; go_simp <;> with_reducible rfl)); (simp only [Act.put, List.setIfInBounds_toArray, List.set_cons_zero, List.set_cons_succ]))
            refine plan3_run (o := ?_) (by simp only [List.getElem?_toArray, List.getElem?_cons_succ, List.getElem?_cons_zero]; rfl) ?_
            intro R HR2
            have HNB := hide (fun ad (e : some (⟨b3, o3 + 64, none⟩ : Addr) = some ad) => cels_drop (W := w13) (k := 64) (ad := ad) e fun i hi => (HB13.out.cell (p := ⟨b3, o3 + i, none⟩) HC3.out.1).trans (HC3.out.2 i hi))
            have hz := HB13.out.size
            at_builtin
            refine wpList_app rfl (.tmp 73) (.tmp 80) 35 rfl wD.heap.size 5 i5 _ 1 1 Try.underlying35 HI5.out rfl (by omega) _ 64 (bs (l.take 64)) rfl HO13.out (some ⟨b3, o3 + 64, none⟩) 64 (cap3 - 64) (bs (l3.drop 64)) rfl (fun h => by cases h) (by rw [bs_len, List.length_drop, HL3.out]) HNB.out (bs_one _) (by unfold maxLen; omega) (by omega) hz ?_
            intro A15 cap15 w15 hown hg
            rw [← bs_app] at hown
            have HB15 := hide (below_app (B := wD.heap.size) HB13.out HO13.out hg (Nat.le_refl _) hz)
            have HO15 := hide hown
            clear hown hg
            simp only [Nat.reduceAdd]
            go_wp2_with fail
            refine HR2.out _ _ (HSX.out _ HB15.out) ?_
            clear HR2 hz HNB
            (refine plan3_take (o := ?_) (v := ?_) (by simp only [List.getElem?_toArray, List.getElem?_cons_succ, List.getElem?_cons_zero]; rfl) (yields_run (by rfl) ?_) ?_; rotate_left; (focus (intro w' hw'; obtain ⟨q0, -, -, -⟩ := hw'.1.c4; obtain ⟨r0, r1⟩ := hw'.2.c2; go_simp <;> with_reducible rfl)); (simp only [Act.put, List.setIfInBounds_toArray, List.set_cons_zero, List.set_cons_succ]))
            refine plan3_run (o := ?_) (by simp only [List.getElem?_toArray, List.getElem?_cons_succ, List.getElem?_cons_zero]; rfl) ?_
            intro R HR2
            obtain ⟨g5, c5, he5, _, _⟩ := HO15.out.form (by omega)
            obtain ⟨rfl, rfl⟩ := slice_inj he5
            clear he5
            obtain ⟨cs5, hcs5⟩ := own_blk HO15.out
            have hmine : Sec.Mine ⟨some ⟨g5, 0, none⟩, l.take 64 ++ l3.drop 64, cap15⟩ w15 := ⟨g5, cs5, rfl, hcs5, by rw [HLT.out]; exact (own_caps HO15.out).1, (own_caps HO15.out).2⟩
            have HF := hide ((HRX.out.below HB15.out).put (s := ⟨some ⟨g5, 0, none⟩, l.take 64 ++ l3.drop 64, cap15⟩) HJ.out (.inr hmine))
            have HTT := hide (HTS.out ⟨some ⟨g5, 0, none⟩, l.take 64 ++ l3.drop 64, cap15⟩ rfl)
            simp only [Sec.v, HLT.out] at HF
            have HYY := hide (show Blk (w15.setCell ⟨g, j, none⟩ (.slice (some ⟨g5, 0, none⟩) 128 cap15)) wr.heap.size 77 [.int .i64 j, .slice (some ⟨b2, o2, none⟩) 128 cap] from (HY.out.below HB15.out HY.out.lt).apart ((HY.out.below HB15.out HY.out.lt).ne (HRX.out.below HB15.out).row (by omega)) _)
            have cr := (HB15.out.cell (p := ⟨g, j, none⟩) (cell_lt HCR.out)).trans HCR.out
            have fr := (HRX.out.below HB15.out).row.free j
            clear hmine hcs5
            go_wp2_with fail
            refine HR2.out _ _ ⟨HF.out.box, HYY.out⟩ ?_
            clear HR2 cr fr
            refine plan3_done ?_
            have x2 := HF.out.box.c4.2.2.1
            have f2 := HF.out.box.free 2
            have HF2 := hide (HF.out.set 2 (.int .i64 0))
            simp only [List.set_cons_zero, List.set_cons_succ] at HF2
            have x3 := HF2.out.box.c4.2.2.2
            have f3 := HF2.out.box.free 3
            have HF3 := hide (HF2.out.set 3 (.bool true))
            simp only [List.set_cons_zero, List.set_cons_succ] at HF3
            have HFF := hide (HF3.out.fin #[.slice (some ⟨g, 0, none⟩) d.ss.length c, .slice none 0 0, .int .i64 0, .bool true] (c := c) (by rw [List.length_set, HCL.out]; exact HCC.out))
            go_wp2_with (first | (refine wpList_load_row rfl 25 (.tmp 6) rfl X rfl 25 _ (0, 0) _ HF3.out.box Try.underlying25 rfl Try.size25 ?_) | (refine wpList_store_row rfl 25 (.tmp 2) (.tmp 85) rfl (w.heap.size + 1) #[.slice (some ⟨g, 0, none⟩) d.ss.length c, .slice none 0 0, .int .i64 0, .bool true] rfl rfl 25 _ HF3.out.sb.res Try.size25 rfl (one25 _ _ _ _ _ _ _ _) ?_))
            refine bodyPost_ret (v := .tuple #[.agg #[.slice (some ⟨g, 0, none⟩) d.ss.length c, .slice none 0 0, .int .i64 0, .bool true], .int .i64 40]) (results_cell_row_tmp rfl _ _ (w.heap.size + 1) 25 #[.slice (some ⟨g, 0, none⟩) d.ss.length c, .slice none 0 0, .int .i64 0, .bool true] (0, 0) _ (.int .i64 40) rfl rfl (setRow_heap _ _ _ _ _ _ HF3.out.sb.res) Try.underlying25 rfl Try.size25) rfl ?_
            rw [HX.out]
            refine ⟨⟨some ⟨g, 0, none⟩, cur.set j ⟨some ⟨g5, 0, none⟩, l.take 64 ++ l3.drop 64, cap15⟩, c, none, [], 0, 0, true⟩, by simp [Dsk.v, HCL.out], ?_, ⟨HFF.out.1, wrsIn_nil _, left_0⟩, HFF.out.2⟩
            show (⟨secD (cur.set j ⟨some ⟨g5, 0, none⟩, l.take 64 ++ l3.drop 64, cap15⟩), [], 0, true⟩ : Dk) = _
            rw [HTT.out]
          · intro R HR2
            have cr := (HB12.out.cell (p := ⟨g, j, none⟩) (cell_lt HCR.out)).trans HCR.out
            go_wp2_with fail
            refine HR2.out _ _ (HSX.out _ HB12.out) ?_
            clear HR2 cr
            (refine plan3_take (o := ?_) (v := ?_) (by simp only [List.getElem?_toArray, List.getElem?_cons_succ, List.getElem?_cons_zero]; rfl) (yields_run (by rfl) ?_) ?_; rotate_left; (focus (intro w' hw'; obtain ⟨q0, -, -, -⟩ := hw'.1.c4; obtain ⟨r0, r1⟩ := hw'.2.c2; go_simp <;> with_reducible rfl)); (simp only [Act.put, List.setIfInBounds_toArray, List.set_cons_zero, List.set_cons_succ]))
            refine plan3_run (o := ?_) (by simp only [List.getElem?_toArray, List.getElem?_cons_succ, List.getElem?_cons_zero]; rfl) ?_
            intro R HR2
            have HNA := hide (fun ad (e : some (⟨b2, o2, none⟩ : Addr) = some ad) => cels_take (W := (wD.alloc (.cells #[] 5))) (k := 64) (ad := ad) e fun i hi => (HB12.out.cell (p := ⟨b2, o2 + i, none⟩) (Nat.lt_of_lt_of_le HC2.out.1 HRX.out.sb.bel.size)).trans ((HRX.out.sb.bel.cell (p := ⟨b2, o2 + i, none⟩) HC2.out.1).trans (HC2.out.2 i hi)))
            have hz := HB12.out.size
            at_builtin
            refine wpList_app rfl (.tmp 69) (.tmp 72) 35 rfl wD.heap.size 5 i5 _ 1 1 Try.underlying35 HI5.out rfl (by omega) _ 0 [] rfl HO12.out (some ⟨b2, o2, none⟩) 64 cap (bs (l.take 64)) rfl (fun h => by cases h) (by rw [bs_len, List.length_take, HL1.out]; rfl) HNA.out (bs_one _) (by unfold maxLen; omega) (by omega) hz ?_
            intro A14 cap14 w14 hown hg
            rw [Nat.zero_add, List.nil_append] at hown
            have HB14 := hide (below_app (B := wD.heap.size) HB12.out HO12.out hg (Nat.le_refl _) hz)
            have HO14 := hide hown
            clear hown hg
            simp only [Nat.zero_add]
            go_wp2_with fail
            refine HR2.out _ _ (HSX.out _ HB14.out) ?_
            clear HR2 hz HNA
            refine plan3_run (o := ?_) (by simp only [List.getElem?_toArray, List.getElem?_cons_succ, List.getElem?_cons_zero]; rfl) ?_
            intro R HR2
            have HNB := hide (fun ad (e : some (⟨b3, o3 + 64, none⟩ : Addr) = some ad) => cels_drop (W := w14) (k := 64) (ad := ad) e fun i hi => (HB14.out.cell (p := ⟨b3, o3 + i, none⟩) HC3.out.1).trans (HC3.out.2 i hi))
            have hz := HB14.out.size
            at_builtin
            refine wpList_app rfl (.tmp 73) (.tmp 80) 35 rfl wD.heap.size 5 i5 _ 1 1 Try.underlying35 HI5.out rfl (by omega) _ 64 (bs (l.take 64)) rfl HO14.out (some ⟨b3, o3 + 64, none⟩) 64 (cap3 - 64) (bs (l3.drop 64)) rfl (fun h => by cases h) (by rw [bs_len, List.length_drop, HL3.out]) HNB.out (bs_one _) (by unfold maxLen; omega) (by omega) hz ?_
            intro A15 cap15 w15 hown hg
            rw [← bs_app] at hown
            have HB15 := hide (below_app (B := wD.heap.size) HB14.out HO14.out hg (Nat.le_refl _) hz)
            have HO15 := hide hown
            clear hown hg
            simp only [Nat.reduceAdd]
            go_wp2_with fail
            refine HR2.out _ _ (HSX.out _ HB15.out) ?_
            clear HR2 hz HNB
            (refine plan3_take (o := ?_) (v := ?_) (by simp only [List.getElem?_toArray, List.getElem?_cons_succ, List.getElem?_cons_zero]; rfl) (yields_run (by rfl) ?_) ?_; rotate_left; (focus (intro w' hw'; obtain ⟨q0, -, -, -⟩ := hw'.1.c4; obtain ⟨r0, r1⟩ := hw'.2.c2; go_simp <;> with_reducible rfl)); (simp only [Act.put, List.setIfInBounds_toArray, List.set_cons_zero, List.set_cons_succ]))
            refine plan3_run (o := ?_) (by simp only [List.getElem?_toArray, List.getElem?_cons_succ, List.getElem?_cons_zero]; rfl) ?_
            intro R HR2
            obtain ⟨g5, c5, he5, _, _⟩ := HO15.out.form (by omega)
            obtain ⟨rfl, rfl⟩ := slice_inj he5
            clear he5
            obtain ⟨cs5, hcs5⟩ := own_blk HO15.out
            have hmine : Sec.Mine ⟨some ⟨g5, 0, none⟩, l.take 64 ++ l3.drop 64, cap15⟩ w15 := ⟨g5, cs5, rfl, hcs5, by rw [HLT.out]; exact (own_caps HO15.out).1, (own_caps HO15.out).2⟩
            have HF := hide ((HRX.out.below HB15.out).put (s := ⟨some ⟨g5, 0, none⟩, l.take 64 ++ l3.drop 64, cap15⟩) HJ.out (.inr hmine))
            have HTT := hide (HTS.out ⟨some ⟨g5, 0, none⟩, l.take 64 ++ l3.drop 64, cap15⟩ rfl)
            simp only [Sec.v, HLT.out] at HF
            have HYY := hide (show Blk (w15.setCell ⟨g, j, none⟩ (.slice (some ⟨g5, 0, none⟩) 128 cap15)) wr.heap.size 77 [.int .i64 j, .slice (some ⟨b2, o2, none⟩) 128 cap] from (HY.out.below HB15.out HY.out.lt).apart ((HY.out.below HB15.out HY.out.lt).ne (HRX.out.below HB15.out).row (by omega)) _)
            have cr := (HB15.out.cell (p := ⟨g, j, none⟩) (cell_lt HCR.out)).trans HCR.out
            have fr := (HRX.out.below HB15.out).row.free j
            clear hmine hcs5
            go_wp2_with fail
            refine HR2.out _ _ ⟨HF.out.box, HYY.out⟩ ?_
            clear HR2 cr fr
            refine plan3_done ?_
            have x2 := HF.out.box.c4.2.2.1
            have f2 := HF.out.box.free 2
            have HF2 := hide (HF.out.set 2 (.int .i64 0))
            simp only [List.set_cons_zero, List.set_cons_succ] at HF2
            have x3 := HF2.out.box.c4.2.2.2
            have f3 := HF2.out.box.free 3
            have HF3 := hide (HF2.out.set 3 (.bool true))
            simp only [List.set_cons_zero, List.set_cons_succ] at HF3
            have HFF := hide (HF3.out.fin #[.slice (some ⟨g, 0, none⟩) d.ss.length c, .slice none 0 0, .int .i64 0, .bool true] (c := c) (by rw [List.length_set, HCL.out]; exact HCC.out))
            go_wp2_with (first | (refine wpList_load_row rfl 25 (.tmp 6) rfl X rfl 25 _ (0, 0) _ HF3.out.box Try.underlying25 rfl Try.size25 ?_) | (refine wpList_store_row rfl 25 (.tmp 2) (.tmp 85) rfl (w.heap.size + 1) #[.slice (some ⟨g, 0, none⟩) d.ss.length c, .slice none 0 0, .int .i64 0, .bool true] rfl rfl 25 _ HF3.out.sb.res Try.size25 rfl (one25 _ _ _ _ _ _ _ _) ?_))
            refine bodyPost_ret (v := .tuple #[.agg #[.slice (some ⟨g, 0, none⟩) d.ss.length c, .slice none 0 0, .int .i64 0, .bool true], .int .i64 40]) (results_cell_row_tmp rfl _ _ (w.heap.size + 1) 25 #[.slice (some ⟨g, 0, none⟩) d.ss.length c, .slice none 0 0, .int .i64 0, .bool true] (0, 0) _ (.int .i64 40) rfl rfl (setRow_heap _ _ _ _ _ _ HF3.out.sb.res) Try.underlying25 rfl Try.size25) rfl ?_
            rw [HX.out]
            refine ⟨⟨some ⟨g, 0, none⟩, cur.set j ⟨some ⟨g5, 0, none⟩, l.take 64 ++ l3.drop 64, cap15⟩, c, none, [], 0, 0, true⟩, by simp [Dsk.v, HCL.out], ?_, ⟨HFF.out.1, wrsIn_nil _, left_0⟩, HFF.out.2⟩
            show (⟨secD (cur.set j ⟨some ⟨g5, 0, none⟩, l.take 64 ++ l3.drop 64, cap15⟩), [], 0, true⟩ : Dk) = _
            rw [HTT.out]
        · intro R HR2
          have cr := (HB0.out.cell (p := ⟨g, j, none⟩) (cell_lt HCR.out)).trans HCR.out
          go_wp2_with fail
          refine HR2.out _ _ (HSX.out _ HB0.out) ?_
          clear HR2 cr
          (refine plan3_take (o := ?_) (v := ?_) (by simp only [List.getElem?_toArray, List.getElem?_cons_succ, List.getElem?_cons_zero]; rfl) (yields_run (by rfl) ?_) ?_; rotate_left; (focus (intro w' hw'; obtain ⟨q0, -, -, -⟩ := hw'.1.c4; obtain ⟨r0, r1⟩ := hw'.2.c2; go_simp <;> with_reducible rfl)); (simp only [Act.put, List.setIfInBounds_toArray, List.set_cons_zero, List.set_cons_succ]))
          refine plan3_run (o := ?_) (by simp only [List.getElem?_toArray, List.getElem?_cons_succ, List.getElem?_cons_zero]; rfl) ?_
          intro R HR2
          have HB13 := hide (below_one HB0.out (below_new wD (.cells #[] 5)))
          have HO13 := hide (own_empty wD wD.heap.size 5 1 HB0.out.size)
          go_wp2_with fail
          refine HR2.out _ _ (HSX.out _ HB13.out) ?_
          clear HR2
          refine plan3_run (o := ?_) (by simp only [List.getElem?_toArray, List.getElem?_cons_succ, List.getElem?_cons_zero]; rfl) ?_
          intro R HR2
          have HNA := hide (fun ad (e : some (⟨b2, o2, none⟩ : Addr) = some ad) => cels_take (W := (wD.alloc (.cells #[] 5))) (k := 64) (ad := ad) e fun i hi => (HB13.out.cell (p := ⟨b2, o2 + i, none⟩) (Nat.lt_of_lt_of_le HC2.out.1 HRX.out.sb.bel.size)).trans ((HRX.out.sb.bel.cell (p := ⟨b2, o2 + i, none⟩) HC2.out.1).trans (HC2.out.2 i hi)))
          have hz := HB13.out.size
          at_builtin
          refine wpList_app rfl (.tmp 69) (.tmp 72) 35 rfl wD.heap.size 5 i5 _ 1 1 Try.underlying35 HI5.out rfl (by omega) _ 0 [] rfl HO13.out (some ⟨b2, o2, none⟩) 64 cap (bs (l.take 64)) rfl (fun h => by cases h) (by rw [bs_len, List.length_take, HL1.out]; rfl) HNA.out (bs_one _) (by unfold maxLen; omega) (by omega) hz ?_
          intro A14 cap14 w14 hown hg
          rw [Nat.zero_add, List.nil_append] at hown
          have HB14 := hide (below_app (B := wD.heap.size) HB13.out HO13.out hg (Nat.le_refl _) hz)
          have HO14 := hide hown
          clear hown hg
          simp only [Nat.zero_add]
          go_wp2_with fail
          refine HR2.out _ _ (HSX.out _ HB14.out) ?_
          clear HR2 hz HNA
          refine plan3_run (o := ?_) (by simp only [List.getElem?_toArray, List.getElem?_cons_succ, List.getElem?_cons_zero]; rfl) ?_
          intro R HR2
          have HNB := hide (fun ad (e : some (⟨b3, o3 + 64, none⟩ : Addr) = some ad) => cels_drop (W := w14) (k := 64) (ad := ad) e fun i hi => (HB14.out.cell (p := ⟨b3, o3 + i, none⟩) HC3.out.1).trans (HC3.out.2 i hi))
          have hz := HB14.out.size
          at_builtin
          refine wpList_app rfl (.tmp 73) (.tmp 80) 35 rfl wD.heap.size 5 i5 _ 1 1 Try.underlying35 HI5.out rfl (by omega) _ 64 (bs (l.take 64)) rfl HO14.out (some ⟨b3, o3 + 64, none⟩) 64 (cap3 - 64) (bs (l3.drop 64)) rfl (fun h => by cases h) (by rw [bs_len, List.length_drop, HL3.out]) HNB.out (bs_one _) (by unfold maxLen; omega) (by omega) hz ?_
          intro A15 cap15 w15 hown hg
          rw [← bs_app] at hown
          have HB15 := hide (below_app (B := wD.heap.size) HB14.out HO14.out hg (Nat.le_refl _) hz)
          have HO15 := hide hown
          clear hown hg
          simp only [Nat.reduceAdd]
          go_wp2_with fail
          refine HR2.out _ _ (HSX.out _ HB15.out) ?_
          clear HR2 hz HNB
          (refine plan3_take (o := ?_) (v := ?_) (by simp only [List.getElem?_toArray, List.getElem?_cons_succ, List.getElem?_cons_zero]; rfl) (yields_run (by rfl) ?_) ?_; rotate_left; (focus (intro w' hw'; obtain ⟨q0, -, -, -⟩ := hw'.1.c4; obtain ⟨r0, r1⟩ := hw'.2.c2; go_simp <;> with_reducible rfl)); (simp only [Act.put, List.setIfInBounds_toArray, List.set_cons_zero, List.set_cons_succ]))
          refine plan3_run (o := ?_) (by simp only [List.getElem?_toArray, List.getElem?_cons_succ, List.getElem?_cons_zero]; rfl) ?_
          intro R HR2
          obtain ⟨g5, c5, he5, _, _⟩ := HO15.out.form (by omega)
          obtain ⟨rfl, rfl⟩ := slice_inj he5
          clear he5
          obtain ⟨cs5, hcs5⟩ := own_blk HO15.out
          have hmine : Sec.Mine ⟨some ⟨g5, 0, none⟩, l.take 64 ++ l3.drop 64, cap15⟩ w15 := ⟨g5, cs5, rfl, hcs5, by rw [HLT.out]; exact (own_caps HO15.out).1, (own_caps HO15.out).2⟩
          have HF := hide ((HRX.out.below HB15.out).put (s := ⟨some ⟨g5, 0, none⟩, l.take 64 ++ l3.drop 64, cap15⟩) HJ.out (.inr hmine))
          have HTT := hide (HTS.out ⟨some ⟨g5, 0, none⟩, l.take 64 ++ l3.drop 64, cap15⟩ rfl)
          simp only [Sec.v, HLT.out] at HF
          have HYY := hide (show Blk (w15.setCell ⟨g, j, none⟩ (.slice (some ⟨g5, 0, none⟩) 128 cap15)) wr.heap.size 77 [.int .i64 j, .slice (some ⟨b2, o2, none⟩) 128 cap] from (HY.out.below HB15.out HY.out.lt).apart ((HY.out.below HB15.out HY.out.lt).ne (HRX.out.below HB15.out).row (by omega)) _)
          have cr := (HB15.out.cell (p := ⟨g, j, none⟩) (cell_lt HCR.out)).trans HCR.out
          have fr := (HRX.out.below HB15.out).row.free j
          clear hmine hcs5
          go_wp2_with fail
          refine HR2.out _ _ ⟨HF.out.box, HYY.out⟩ ?_
          clear HR2 cr fr
          refine plan3_done ?_
          have x2 := HF.out.box.c4.2.2.1
          have f2 := HF.out.box.free 2
          have HF2 := hide (HF.out.set 2 (.int .i64 0))
          simp only [List.set_cons_zero, List.set_cons_succ] at HF2
          have x3 := HF2.out.box.c4.2.2.2
          have f3 := HF2.out.box.free 3
          have HF3 := hide (HF2.out.set 3 (.bool true))
          simp only [List.set_cons_zero, List.set_cons_succ] at HF3
          have HFF := hide (HF3.out.fin #[.slice (some ⟨g, 0, none⟩) d.ss.length c, .slice none 0 0, .int .i64 0, .bool true] (c := c) (by rw [List.length_set, HCL.out]; exact HCC.out))
          go_wp2_with (first | (refine wpList_load_row rfl 25 (.tmp 6) rfl X rfl 25 _ (0, 0) _ HF3.out.box Try.underlying25 rfl Try.size25 ?_) | (refine wpList_store_row rfl 25 (.tmp 2) (.tmp 85) rfl (w.heap.size + 1) #[.slice (some ⟨g, 0, none⟩) d.ss.length c, .slice none 0 0, .int .i64 0, .bool true] rfl rfl 25 _ HF3.out.sb.res Try.size25 rfl (one25 _ _ _ _ _ _ _ _) ?_))
          refine bodyPost_ret (v := .tuple #[.agg #[.slice (some ⟨g, 0, none⟩) d.ss.length c, .slice none 0 0, .int .i64 0, .bool true], .int .i64 40]) (results_cell_row_tmp rfl _ _ (w.heap.size + 1) 25 #[.slice (some ⟨g, 0, none⟩) d.ss.length c, .slice none 0 0, .int .i64 0, .bool true] (0, 0) _ (.int .i64 40) rfl rfl (setRow_heap _ _ _ _ _ _ HF3.out.sb.res) Try.underlying25 rfl Try.size25) rfl ?_
          rw [HX.out]
          refine ⟨⟨some ⟨g, 0, none⟩, cur.set j ⟨some ⟨g5, 0, none⟩, l.take 64 ++ l3.drop 64, cap15⟩, c, none, [], 0, 0, true⟩, by simp [Dsk.v, HCL.out], ?_, ⟨HFF.out.1, wrsIn_nil _, left_0⟩, HFF.out.2⟩
          show (⟨secD (cur.set j ⟨some ⟨g5, 0, none⟩, l.take 64 ++ l3.drop 64, cap15⟩), [], 0, true⟩ : Dk) = _
          rw [HTT.out]


theorem rsync_any (d : Dsk) (w : World) (hi : d.In n0 w) : Calls Try.prog 49 #[d.v] w (Ans n0 w d.d.sync) := by
  cases hr : d.d.runs with
  | false => exact rsync_bad d w hi hr
  | true =>
    obtain ⟨_, _, _, _, _, hl1, _⟩ := runs_facts hr
    by_cases h1 : d.left = -1
    · exact rsync_all d w hi hr h1
    · by_cases h2 : (d.ps.length : Int) ≤ d.left
      · exact rsync_left d w hi hr (by omega) h2
      · exact rsync_torn d w hi hr (by omega) (by omega)
end Go.Proofs.Ytgigccgklahddaa
