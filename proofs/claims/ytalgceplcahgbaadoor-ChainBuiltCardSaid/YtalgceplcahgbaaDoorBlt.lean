/- A chain that is built: the statement's walk. -/
import Derived.Test.YtalgceplcahgbaaDoorRfs
import Derived.Test.YtalgceplcahgbaaDoorSan
namespace Go.Proofs.YtalgceplcahgbaaDoor
open Go.RowKit Go.Shelf

/-- Data with their place. -/
structure Dt where
  A : Option Addr
  l : List UInt8
  cap : Nat
structure DtsIn (w : World) (PA : Option Addr) (pl : List Dt) : Prop where
  cel : ∀ k (h : k < pl.length), ∃ b o, PA = some ⟨b, o, none⟩ ∧ b < w.heap.size ∧ w.cell? ⟨b, o + k, none⟩ = some (.slice (pl[k]).A (pl[k]).l.length (pl[k]).cap)
  src : ∀ x ∈ pl, Src w x.A x.l.length x.cap x.l
  le : ∀ x ∈ pl, x.l.length ≤ x.cap ∧ x.cap ≤ 9223372036854775807
theorem DtsIn.below {w w' : World} {PA : Option Addr} {pl : List Dt} (h : DtsIn w PA pl) (hb : Below w.heap.size w w') : DtsIn w' PA pl :=
  ⟨fun k hk => by
    obtain ⟨b, o, e, hlt, hc⟩ := h.cel k hk
    exact ⟨b, o, e, Nat.lt_of_lt_of_le hlt hb.size, (hb.cell (p := ⟨b, o + k, none⟩) hlt).trans hc⟩, fun x hx => (h.src x hx).below hb, h.le⟩
theorem chk_chain {l : List Ln} (h : chainB hd0 hdL l = true) (hl : l.length ≤ 1024) : chkA hd0 hdL l = 0 := by
  unfold chkA
  rw [if_neg (by omega), h]
  rfl
theorem add_ok {l : List Ln} {node : Int} {data : List UInt8} (h : chainB hd0 hdL l = true) (hl : l.length < 1024) (hn : ∀ x ∈ l, x.node = node) (h0 : 0 ≤ node) (h1 : node < 24) (hd : data.length ≤ 65536) :
    addA l node data = (some ⟨node, l.length, hdA l, data⟩, 0) ∧ chainB hd0 hdL (l ++ [⟨node, l.length, hdA l, data⟩]) = true := by
  have ha : admB l node data = true := by
    rw [admB_of]
    cases l with
    | nil => simp [h0, h1, hd]
    | cons y l => simp [h0, h1, hd, hn y (by simp)]
  refine ⟨?_, chain_snoc _ _ h ?_⟩
  · unfold addA
    rw [if_neg (by simp [chk_chain h (by omega)]), if_neg (by simp [ha]), if_neg (by omega)]
  · unfold lnkB
    rw [ha]
    simp
set_option maxRecDepth 20000 in
set_option maxHeartbeats 6400000 in
theorem built_walk (PA : Option Addr) (pl : List Dt) (pc : Nat) (node : Int) (w : World) (hT : Tab w) (hp : DtsIn w PA pl) (hn : -9223372036854775808 ≤ node ∧ node ≤ 9223372036854775807) (hpx : pl.length ≤ 9223372036854775807) :
    Calls Tryd.prog 13 #[.int .i64 node, .slice PA pl.length pc] w (LawPost w) := by
  have HT := hide hT
  have HP := hide hp
  have HN := hide hn
  clear hT hp hn
  go_enter Tryd.func13, Tryd.ntmps13
  go_wp2_with fail
  refine (sane_any w HT.out).mono ?_
  rintro e w1 ⟨rfl, hb⟩
  have HB1 := hide hb
  clear hb
  by_cases h12 : pl.length ≤ 12
  · have h12' : ¬ (12 : Int) < ((pl.length : Nat) : Int) := by omega
    have h12'' : ¬ 12 < pl.length := by omega
    by_cases h0 : 0 ≤ node
    · have h0' : ¬ node < 0 := by omega
      by_cases h24 : node < 24
      · have h24' : ¬ 24 ≤ node := by omega
        have HND := hide (And.intro h0 h24)
        go_wp2_with fail
        go_loopw [5, 6] (fun x i wr => ∃ (xs : List Lr) (X : Option Addr) (cx : Nat), x = .slice X xs.length cx ∧ i = .int .i64 (xs.length : Nat) ∧ xs.length ≤ pl.length ∧ xs.length ≤ cx ∧ cx ≤ 9223372036854775807 ∧ Hid (X = none → cx = 0) ∧ Hid (Below w.heap.size w wr) ∧ Hid (Lks wr X xs) ∧ Hid (chainB hd0 hdL (lnks xs) = true) ∧ Hid (∀ r ∈ xs, r.x.node = node ∧ r.x.data.length ≤ 300)) (fun _ i _ => pl.length - (intOf i).toNat)
        case atStart => exact ⟨[], none, 0, rfl, rfl, Nat.zero_le _, Nat.zero_le _, by decide, hide (fun _ => rfl), HB1, hide (Lks.nil _ _), hide rfl, hide (fun r hr => by cases hr)⟩
        case round =>
          obtain ⟨xs, X, cx, rfl, rfl, hxp, hxc, hcx, HX0, HBE, HLX, HCH, HNO⟩ := hrel
          have HSX := hide (show Short xs from fun r hr => Nat.le_trans (HNO.out r hr).2 (by decide))
          by_cases hlt : xs.length < pl.length
          · have hlt' : ((xs.length : Nat) : Int) < ((pl.length : Nat) : Int) := by omega
            obtain ⟨pb, po, hpe, hpb, hpc⟩ := (HP.out.below HBE.out).cel _ hlt
            have HDS := hide ((HP.out.below HBE.out).src _ (List.getElem_mem hlt))
            have HDL := hide (HP.out.le _ (List.getElem_mem hlt))
            have HPB := hide hpb
            generalize pl[xs.length] = d at *
            subst hpe
            by_cases h300 : d.l.length ≤ 300
            · have h300' : ¬ (300 : Int) < ((d.l.length : Nat) : Int) := by omega
              have h300'' : ¬ 300 < d.l.length := by omega
              obtain ⟨ha1, ha2⟩ := add_ok (node := node) (data := d.l) HCH.out (by rw [lnks_len]; omega) (fun x hx => by
                obtain ⟨r, hr, rfl⟩ := List.mem_map.1 hx
                exact (HNO.out r hr).1) HND.out.1 HND.out.2 (by omega)
              rw [lnks_len] at ha1 ha2
              have HAD := hide (add_any X d.A xs cx d.cap node d.l wr (HT.out.below HBE.out) HLX.out hxc hcx HSX.out HX0.out HN.out HDS.out HDL.out.1 HDL.out.2)
              rw [ha1] at HAD
              have HCN := hide ha2
              obtain ⟨hd, hhd⟩ : ∃ hd, hdA (lnks xs) = hd := ⟨_, rfl⟩
              have HHE := hide hhd
              have H32 := hide (show hd.length = 32 by rw [← hhd]; exact hdA_32 _)
              rw [hhd] at HAD HCN
              clear ha1 ha2 hhd
              go_wp2_with fail
              refine HAD.out.mono ?_
              rintro e w2 ⟨g, cap, rfl, hla, hc1, hc2, hb⟩
              have HB2 := hide (below_one HBE.out hb)
              have HBW := hide hb
              have HLA := hide hla
              clear HAD
              simp only [List.length_append, List.length_cons, List.length_nil, Nat.zero_add] at hc1 ⊢
              have HPT := hide (hla.parts (k := xs.length) (by simp))
              simp only [List.getElem_concat_length, Nat.zero_add] at HPT
              have HP0 := hide (show w2.cell? ⟨g, xs.length * 35, none⟩ = some (.int .i64 node) from by
                obtain ⟨b', o', h1, _, h3, _⟩ := hla.at (k := xs.length) (by simp)
                injection h1 with h1
                injection h1 with h1 h5
                subst h1
                subst h5
                have := h3 0 _ (Lr.c0 _)
                simpa using this)
              have HGL := hide (show g < w2.heap.size from by
                obtain ⟨b', o', h1, h2, _⟩ := hla.at (k := xs.length) (by simp)
                injection h1 with h1
                injection h1 with h1 h5
                rw [h1]
                exact h2)
              clear hla hb
              have hcap : xs.length ≤ cap := by omega
              have hidx : ((xs.length : Nat) : Int) < ((xs.length : Nat) : Int) + 1 := by omega
              have hwr : IntKind.i64.wrap (((xs.length : Nat) : Int) + 1) = ((xs.length : Nat) : Int) + 1 := IntWalk.i64_in _ (by omega)
              have HSM := hide (fun (W : World) (h : Below w2.heap.size w2 W) => show Calls Tryd.prog 43 #[.slice (some ⟨g, 0, none⟩) xs.length cap, .slice X xs.length cx] W fun e w' => e = .returned (.bool true) ∧ Below W.heap.size W w' from by
                have := sameLs_any (some ⟨g, 0, none⟩) X ((xs ++ [Lr.mk ⟨node, xs.length, hd, d.l⟩ d.A d.cap]).take xs.length) xs cap cx W ((HLA.out.below h).take _) ((HLX.out.below HBW.out).below h) (by rw [List.length_take]; omega)
                rw [List.take_left' rfl, sameL_iff.2 rfl] at this
                exact this)
              have HHD := hide (fun (W : World) (h : Below w2.heap.size w2 W) => show Calls Tryd.prog 37 #[.slice X xs.length cx] W fun e w' => e = .returned (dv hd) ∧ Below W.heap.size W w' from by
                have := head_any X xs cx W (HT.out.below (below_one HB2.out h)) ((HLX.out.below HBW.out).below h) hxc hcx HSX.out
                rwa [HHE.out] at this)
              have HFA := hide (fun (W : World) (h : Below w2.heap.size w2 W) => show W.rangeAt g (xs.length * 35 + 2) (bc hd) ∧ W.cell? ⟨g, xs.length * 35 + 1, none⟩ = some (.int .i64 (xs.length : Nat)) ∧ W.cell? ⟨g, xs.length * 35, none⟩ = some (.int .i64 node) ∧ W.cell? ⟨g, xs.length * 35 + 34, none⟩ = some (.slice d.A d.l.length d.cap) ∧ (convert 22 9 (.slice d.A d.l.length d.cap)).run Tryd.prog W = .ok (.string (str d.l)) W ∧ W.cell? ⟨pb, po + xs.length, none⟩ = some (.slice d.A d.l.length d.cap) from
                ⟨range_below HPT.out.1 h HGL.out, (h.cell (p := ⟨g, xs.length * 35 + 1, none⟩) HGL.out).trans HPT.out.2.1, (h.cell (p := ⟨g, xs.length * 35, none⟩) HGL.out).trans HP0.out, (h.cell (p := ⟨g, xs.length * 35 + 34, none⟩) HGL.out).trans HPT.out.2.2.1, sb_conv (((HDS.out.below HBW.out).sb).below h), (((HBW.out.cell (p := ⟨pb, po + xs.length, none⟩) HPB.out).symm ▸ (h.cell (p := ⟨pb, po + xs.length, none⟩) (Nat.lt_of_lt_of_le HPB.out HBW.out.size))).trans hpc)⟩)
              have HS0 := hide (show Below w2.heap.size w2 w2.drew from (Below.refl _ _).drew)
              clear hpc
              go_wp2_with fail
              refine wp_region_plan4 (fun W' => Below w2.heap.size w2 W') (.take 0 (.take 1 (.take 2 (.take 3 (.take 4 (.take 5 (.take 6 (.take 7 (.take 8 (.take 9 (.take 10 (.take 11 (.take 12 (.take 13 (.run 14 (.take 15 (.take 16 (.take 17 (.take 18 (.take 19 (.take 20 (.take 21 (.take 22 (.take 23 (.run 24 (.take 25 (.take 26 (.take 27 (.take 28 (.take 29 (.take 30 (.take 31 (.take 32 (.take 33 (.take 34 (.take 35 (.take 36 (.take 37 (.take 38 (.take 39 (.take 40 (.take 41 (.take 42 (.take 43 (.take 44 (.take 45 (.take 46 (.take 47 (.take 48 (.take 49 (.take 50 (.take 51 (.take 52 (.take 53 (.take 54 (.take 55 (.take 56 (.take 57 (.take 58 .done))))))))))))))))))))))))))))))))))))))))))))))))))))))))))) (by kernel_rfl) (by kernel_rfl) HS0.out ?_
              generalize w2.drew = wD at HS0 ⊢
              (refine plan4_take (o := ?_) (v := ?_) (by simp only [List.getElem?_toArray, List.getElem?_cons_zero]; rfl) (yields_run (by rfl) ?_) ?_; rotate_left; (focus (intro w' hw'; go_simp <;> with_reducible rfl)); (simp only [Act.put, List.setIfInBounds_toArray, List.set_cons_zero, List.set_cons_succ]))
              (refine plan4_take (o := ?_) (v := ?_) (by simp only [List.getElem?_toArray, List.getElem?_cons_succ, List.getElem?_cons_zero]; rfl) (yields_run (by rfl) ?_) ?_; rotate_left; (focus (intro w' hw'; go_simp <;> with_reducible rfl)); (simp only [Act.put, List.setIfInBounds_toArray, List.set_cons_zero, List.set_cons_succ]))
              (refine plan4_take (o := ?_) (v := ?_) (by simp only [List.getElem?_toArray, List.getElem?_cons_succ, List.getElem?_cons_zero]; rfl) (yields_run (by rfl) ?_) ?_; rotate_left; (focus (intro w' hw'; go_simp <;> with_reducible rfl)); (simp only [Act.put, List.setIfInBounds_toArray, List.set_cons_zero, List.set_cons_succ]))
              (refine plan4_take (o := ?_) (v := ?_) (by simp only [List.getElem?_toArray, List.getElem?_cons_succ, List.getElem?_cons_zero]; rfl) (yields_run (by rfl) ?_) ?_; rotate_left; (focus (intro w' hw'; go_simp <;> with_reducible rfl)); (simp only [Act.put, List.setIfInBounds_toArray, List.set_cons_zero, List.set_cons_succ]))
              (refine plan4_take (o := ?_) (v := ?_) (by simp only [List.getElem?_toArray, List.getElem?_cons_succ, List.getElem?_cons_zero]; rfl) (yields_run (by rfl) ?_) ?_; rotate_left; (focus (intro w' hw'; go_simp <;> with_reducible rfl)); (simp only [Act.put, List.setIfInBounds_toArray, List.set_cons_zero, List.set_cons_succ]))
              (refine plan4_take (o := ?_) (v := ?_) (by simp only [List.getElem?_toArray, List.getElem?_cons_succ, List.getElem?_cons_zero]; rfl) (yields_run (by rfl) ?_) ?_; rotate_left; (focus (intro w' hw'; go_simp <;> with_reducible rfl)); (simp only [Act.put, List.setIfInBounds_toArray, List.set_cons_zero, List.set_cons_succ]))
              (refine plan4_take (o := ?_) (v := ?_) (by simp only [List.getElem?_toArray, List.getElem?_cons_succ, List.getElem?_cons_zero]; rfl) (yields_run (by rfl) ?_) ?_; rotate_left; (focus (intro w' hw'; go_simp <;> with_reducible rfl)); (simp only [Act.put, List.setIfInBounds_toArray, List.set_cons_zero, List.set_cons_succ]))
              (refine plan4_take (o := ?_) (v := ?_) (by simp only [List.getElem?_toArray, List.getElem?_cons_succ, List.getElem?_cons_zero]; rfl) (yields_run (by rfl) ?_) ?_; rotate_left; (focus (intro w' hw'; go_simp <;> with_reducible rfl)); (simp only [Act.put, List.setIfInBounds_toArray, List.set_cons_zero, List.set_cons_succ]))
              (refine plan4_take (o := ?_) (v := ?_) (by simp only [List.getElem?_toArray, List.getElem?_cons_succ, List.getElem?_cons_zero]; rfl) (yields_run (by rfl) ?_) ?_; rotate_left; (focus (intro w' hw'; go_simp <;> with_reducible rfl)); (simp only [Act.put, List.setIfInBounds_toArray, List.set_cons_zero, List.set_cons_succ]))
              (refine plan4_take (o := ?_) (v := ?_) (by simp only [List.getElem?_toArray, List.getElem?_cons_succ, List.getElem?_cons_zero]; rfl) (yields_run (by rfl) ?_) ?_; rotate_left; (focus (intro w' hw'; go_simp <;> with_reducible rfl)); (simp only [Act.put, List.setIfInBounds_toArray, List.set_cons_zero, List.set_cons_succ]))
              (refine plan4_take (o := ?_) (v := ?_) (by simp only [List.getElem?_toArray, List.getElem?_cons_succ, List.getElem?_cons_zero]; rfl) (yields_run (by rfl) ?_) ?_; rotate_left; (focus (intro w' hw'; go_simp <;> with_reducible rfl)); (simp only [Act.put, List.setIfInBounds_toArray, List.set_cons_zero, List.set_cons_succ]))
              (refine plan4_take (o := ?_) (v := ?_) (by simp only [List.getElem?_toArray, List.getElem?_cons_succ, List.getElem?_cons_zero]; rfl) (yields_run (by rfl) ?_) ?_; rotate_left; (focus (intro w' hw'; go_simp <;> with_reducible rfl)); (simp only [Act.put, List.setIfInBounds_toArray, List.set_cons_zero, List.set_cons_succ]))
              (refine plan4_take (o := ?_) (v := ?_) (by simp only [List.getElem?_toArray, List.getElem?_cons_succ, List.getElem?_cons_zero]; rfl) (yields_run (by rfl) ?_) ?_; rotate_left; (focus (intro w' hw'; go_simp <;> with_reducible rfl)); (simp only [Act.put, List.setIfInBounds_toArray, List.set_cons_zero, List.set_cons_succ]))
              (refine plan4_take (o := ?_) (v := ?_) (by simp only [List.getElem?_toArray, List.getElem?_cons_succ, List.getElem?_cons_zero]; rfl) (yields_run (by rfl) ?_) ?_; rotate_left; (focus (intro w' hw'; go_simp <;> with_reducible rfl)); (simp only [Act.put, List.setIfInBounds_toArray, List.set_cons_zero, List.set_cons_succ]))
              refine plan4_run (o := ?_) (by simp only [List.getElem?_toArray, List.getElem?_cons_succ, List.getElem?_cons_zero]; rfl) ?_
              intro R' HK
              go_wp2_with fail
              refine (HSM.out _ HS0.out).mono ?_
              rintro e wN ⟨rfl, hbn⟩
              have HSn := hide (below_one HS0.out hbn)
              clear hbn
              go_wp2_with fail
              refine HK.out _ _ HSn.out ?_
              clear HK HS0
              have HS0 := HSn
              clear HSn
              (refine plan4_take (o := ?_) (v := ?_) (by simp only [List.getElem?_toArray, List.getElem?_cons_succ, List.getElem?_cons_zero]; rfl) (yields_run (by rfl) ?_) ?_; rotate_left; (focus (intro w' hw'; go_simp <;> with_reducible rfl)); (simp only [Act.put, List.setIfInBounds_toArray, List.set_cons_zero, List.set_cons_succ]))
              (refine plan4_take (o := ?_) (v := ?_) (by simp only [List.getElem?_toArray, List.getElem?_cons_succ, List.getElem?_cons_zero]; rfl) (yields_run (by rfl) ?_) ?_; rotate_left; (focus (intro w' hw'; go_simp <;> with_reducible rfl)); (simp only [Act.put, List.setIfInBounds_toArray, List.set_cons_zero, List.set_cons_succ]))
              (refine plan4_take (o := ?_) (v := ?_) (by simp only [List.getElem?_toArray, List.getElem?_cons_succ, List.getElem?_cons_zero]; rfl) (yields_run (by rfl) ?_) ?_; rotate_left; (focus (intro w' hw'; go_simp <;> with_reducible rfl)); (simp only [Act.put, List.setIfInBounds_toArray, List.set_cons_zero, List.set_cons_succ]))
              (refine plan4_take (o := ?_) (v := ?_) (by simp only [List.getElem?_toArray, List.getElem?_cons_succ, List.getElem?_cons_zero]; rfl) (yields_run (by rfl) ?_) ?_; rotate_left; (focus (intro w' hw'; go_simp <;> with_reducible rfl)); (simp only [Act.put, List.setIfInBounds_toArray, List.set_cons_zero, List.set_cons_succ]))
              (refine plan4_take (o := ?_) (v := ?_) (by simp only [List.getElem?_toArray, List.getElem?_cons_succ, List.getElem?_cons_zero]; rfl) (yields_run (by rfl) ?_) ?_; rotate_left; (focus (intro w' hw'; go_simp <;> with_reducible rfl)); (simp only [Act.put, List.setIfInBounds_toArray, List.set_cons_zero, List.set_cons_succ]))
              (refine plan4_take (o := ?_) (v := ?_) (by simp only [List.getElem?_toArray, List.getElem?_cons_succ, List.getElem?_cons_zero]; rfl) (yields_run (by rfl) ?_) ?_; rotate_left; (focus (intro w' hw'; go_simp <;> with_reducible rfl)); (simp only [Act.put, List.setIfInBounds_toArray, List.set_cons_zero, List.set_cons_succ]))
              (refine plan4_take (o := ?_) (v := ?_) (by simp only [List.getElem?_toArray, List.getElem?_cons_succ, List.getElem?_cons_zero]; rfl) (yields_run (by rfl) ?_) ?_; rotate_left; (focus (intro w' hw'; go_simp <;> with_reducible rfl)); (simp only [Act.put, List.setIfInBounds_toArray, List.set_cons_zero, List.set_cons_succ]))
              (refine plan4_take (o := ?_) (v := .agg (bc hd).toArray) (by simp only [List.getElem?_toArray, List.getElem?_cons_succ, List.getElem?_cons_zero]; rfl) ?_ ?_; (focus (exact yieldsIf_load_mid (by rfl) 26 (.tmp 66) rfl g (xs.length * 35 + 2) rfl (bc hd) _ (fun W h => (HFA.out W h).1) Tryd.underlying26 rfl (by rw [bc_len, H32.out]; exact Tryd.size26))); (simp only [Act.put, List.setIfInBounds_toArray, List.set_cons_zero, List.set_cons_succ]))
              (refine plan4_take (o := ?_) (v := ?_) (by simp only [List.getElem?_toArray, List.getElem?_cons_succ, List.getElem?_cons_zero]; rfl) (yields_run (by rfl) ?_) ?_; rotate_left; (focus (intro w' hw'; go_simp <;> with_reducible rfl)); (simp only [Act.put, List.setIfInBounds_toArray, List.set_cons_zero, List.set_cons_succ]))
              refine plan4_run (o := ?_) (by simp only [List.getElem?_toArray, List.getElem?_cons_succ, List.getElem?_cons_zero]; rfl) ?_
              intro R' HK
              go_wp2_with fail
              refine (HHD.out _ HS0.out).mono ?_
              rintro e wN ⟨rfl, hbn⟩
              have HSn := hide (below_one HS0.out hbn)
              clear hbn
              go_wp2_with fail
              refine HK.out _ _ HSn.out ?_
              clear HK HS0
              have HS0 := HSn
              clear HSn
              (refine plan4_take (o := ?_) (v := .bool false) (by simp only [List.getElem?_toArray, List.getElem?_cons_succ, List.getElem?_cons_zero]; rfl) ?_ ?_; (focus (exact yields_neq (by rfl) (.tmp 67) (.tmp 69) 26 rfl hd hd rfl rfl H32.out H32.out false (by simp))); (simp only [Act.put, List.setIfInBounds_toArray, List.set_cons_zero, List.set_cons_succ]))
              (refine plan4_take (o := ?_) (v := ?_) (by simp only [List.getElem?_toArray, List.getElem?_cons_succ, List.getElem?_cons_zero]; rfl) (yields_run (by rfl) ?_) ?_; rotate_left; (focus (intro w' hw'; go_simp <;> with_reducible rfl)); (simp only [Act.put, List.setIfInBounds_toArray, List.set_cons_zero, List.set_cons_succ]))
              (refine plan4_take (o := ?_) (v := ?_) (by simp only [List.getElem?_toArray, List.getElem?_cons_succ, List.getElem?_cons_zero]; rfl) (yields_run (by rfl) ?_) ?_; rotate_left; (focus (intro w' hw'; go_simp <;> with_reducible rfl)); (simp only [Act.put, List.setIfInBounds_toArray, List.set_cons_zero, List.set_cons_succ]))
              (refine plan4_take (o := ?_) (v := ?_) (by simp only [List.getElem?_toArray, List.getElem?_cons_succ, List.getElem?_cons_zero]; rfl) (yields_run (by rfl) ?_) ?_; rotate_left; (focus (intro w' hw'; go_simp <;> with_reducible rfl)); (simp only [Act.put, List.setIfInBounds_toArray, List.set_cons_zero, List.set_cons_succ]))
              (refine plan4_take (o := ?_) (v := ?_) (by simp only [List.getElem?_toArray, List.getElem?_cons_succ, List.getElem?_cons_zero]; rfl) (yields_run (by rfl) ?_) ?_; rotate_left; (focus (intro w' hw'; go_simp <;> with_reducible rfl)); (simp only [Act.put, List.setIfInBounds_toArray, List.set_cons_zero, List.set_cons_succ]))
              (refine plan4_take (o := ?_) (v := ?_) (by simp only [List.getElem?_toArray, List.getElem?_cons_succ, List.getElem?_cons_zero]; rfl) (yields_run (by rfl) ?_) ?_; rotate_left; (focus (intro w' hw'; go_simp <;> with_reducible rfl)); (simp only [Act.put, List.setIfInBounds_toArray, List.set_cons_zero, List.set_cons_succ]))
              (refine plan4_take (o := ?_) (v := ?_) (by simp only [List.getElem?_toArray, List.getElem?_cons_succ, List.getElem?_cons_zero]; rfl) (yields_run (by rfl) ?_) ?_; rotate_left; (focus (intro w' hw'; go_simp <;> with_reducible rfl)); (simp only [Act.put, List.setIfInBounds_toArray, List.set_cons_zero, List.set_cons_succ]))
              (refine plan4_take (o := ?_) (v := ?_) (by simp only [List.getElem?_toArray, List.getElem?_cons_succ, List.getElem?_cons_zero]; rfl) (yields_run (by rfl) ?_) ?_; rotate_left; (focus (intro w' hw'; have q := (HFA.out w' hw').2.1; go_simp <;> with_reducible rfl)); (simp only [Act.put, List.setIfInBounds_toArray, List.set_cons_zero, List.set_cons_succ]))
              (refine plan4_take (o := ?_) (v := ?_) (by simp only [List.getElem?_toArray, List.getElem?_cons_succ, List.getElem?_cons_zero]; rfl) (yields_run (by rfl) ?_) ?_; rotate_left; (focus (intro w' hw'; go_simp <;> with_reducible rfl)); (simp only [Act.put, List.setIfInBounds_toArray, List.set_cons_zero, List.set_cons_succ]))
              (refine plan4_take (o := ?_) (v := ?_) (by simp only [List.getElem?_toArray, List.getElem?_cons_succ, List.getElem?_cons_zero]; rfl) (yields_run (by rfl) ?_) ?_; rotate_left; (focus (intro w' hw'; go_simp <;> with_reducible rfl)); (simp only [Act.put, List.setIfInBounds_toArray, List.set_cons_zero, List.set_cons_succ]))
              (refine plan4_take (o := ?_) (v := ?_) (by simp only [List.getElem?_toArray, List.getElem?_cons_succ, List.getElem?_cons_zero]; rfl) (yields_run (by rfl) ?_) ?_; rotate_left; (focus (intro w' hw'; go_simp <;> with_reducible rfl)); (simp only [Act.put, List.setIfInBounds_toArray, List.set_cons_zero, List.set_cons_succ]))
              (refine plan4_take (o := ?_) (v := ?_) (by simp only [List.getElem?_toArray, List.getElem?_cons_succ, List.getElem?_cons_zero]; rfl) (yields_run (by rfl) ?_) ?_; rotate_left; (focus (intro w' hw'; go_simp <;> with_reducible rfl)); (simp only [Act.put, List.setIfInBounds_toArray, List.set_cons_zero, List.set_cons_succ]))
              (refine plan4_take (o := ?_) (v := ?_) (by simp only [List.getElem?_toArray, List.getElem?_cons_succ, List.getElem?_cons_zero]; rfl) (yields_run (by rfl) ?_) ?_; rotate_left; (focus (intro w' hw'; go_simp <;> with_reducible rfl)); (simp only [Act.put, List.setIfInBounds_toArray, List.set_cons_zero, List.set_cons_succ]))
              (refine plan4_take (o := ?_) (v := ?_) (by simp only [List.getElem?_toArray, List.getElem?_cons_succ, List.getElem?_cons_zero]; rfl) (yields_run (by rfl) ?_) ?_; rotate_left; (focus (intro w' hw'; go_simp <;> with_reducible rfl)); (simp only [Act.put, List.setIfInBounds_toArray, List.set_cons_zero, List.set_cons_succ]))
              (refine plan4_take (o := ?_) (v := ?_) (by simp only [List.getElem?_toArray, List.getElem?_cons_succ, List.getElem?_cons_zero]; rfl) (yields_run (by rfl) ?_) ?_; rotate_left; (focus (intro w' hw'; go_simp <;> with_reducible rfl)); (simp only [Act.put, List.setIfInBounds_toArray, List.set_cons_zero, List.set_cons_succ]))
              (refine plan4_take (o := ?_) (v := ?_) (by simp only [List.getElem?_toArray, List.getElem?_cons_succ, List.getElem?_cons_zero]; rfl) (yields_run (by rfl) ?_) ?_; rotate_left; (focus (intro w' hw'; go_simp <;> with_reducible rfl)); (simp only [Act.put, List.setIfInBounds_toArray, List.set_cons_zero, List.set_cons_succ]))
              (refine plan4_take (o := ?_) (v := ?_) (by simp only [List.getElem?_toArray, List.getElem?_cons_succ, List.getElem?_cons_zero]; rfl) (yields_run (by rfl) ?_) ?_; rotate_left; (focus (intro w' hw'; have q := (HFA.out w' hw').2.2.1; go_simp <;> with_reducible rfl)); (simp only [Act.put, List.setIfInBounds_toArray, List.set_cons_zero, List.set_cons_succ]))
              (refine plan4_take (o := ?_) (v := ?_) (by simp only [List.getElem?_toArray, List.getElem?_cons_succ, List.getElem?_cons_zero]; rfl) (yields_run (by rfl) ?_) ?_; rotate_left; (focus (intro w' hw'; go_simp <;> with_reducible rfl)); (simp only [Act.put, List.setIfInBounds_toArray, List.set_cons_zero, List.set_cons_succ]))
              (refine plan4_take (o := ?_) (v := ?_) (by simp only [List.getElem?_toArray, List.getElem?_cons_succ, List.getElem?_cons_zero]; rfl) (yields_run (by rfl) ?_) ?_; rotate_left; (focus (intro w' hw'; go_simp <;> with_reducible rfl)); (simp only [Act.put, List.setIfInBounds_toArray, List.set_cons_zero, List.set_cons_succ]))
              (refine plan4_take (o := ?_) (v := ?_) (by simp only [List.getElem?_toArray, List.getElem?_cons_succ, List.getElem?_cons_zero]; rfl) (yields_run (by rfl) ?_) ?_; rotate_left; (focus (intro w' hw'; go_simp <;> with_reducible rfl)); (simp only [Act.put, List.setIfInBounds_toArray, List.set_cons_zero, List.set_cons_succ]))
              (refine plan4_take (o := ?_) (v := ?_) (by simp only [List.getElem?_toArray, List.getElem?_cons_succ, List.getElem?_cons_zero]; rfl) (yields_run (by rfl) ?_) ?_; rotate_left; (focus (intro w' hw'; go_simp <;> with_reducible rfl)); (simp only [Act.put, List.setIfInBounds_toArray, List.set_cons_zero, List.set_cons_succ]))
              (refine plan4_take (o := ?_) (v := ?_) (by simp only [List.getElem?_toArray, List.getElem?_cons_succ, List.getElem?_cons_zero]; rfl) (yields_run (by rfl) ?_) ?_; rotate_left; (focus (intro w' hw'; go_simp <;> with_reducible rfl)); (simp only [Act.put, List.setIfInBounds_toArray, List.set_cons_zero, List.set_cons_succ]))
              (refine plan4_take (o := ?_) (v := ?_) (by simp only [List.getElem?_toArray, List.getElem?_cons_succ, List.getElem?_cons_zero]; rfl) (yields_run (by rfl) ?_) ?_; rotate_left; (focus (intro w' hw'; go_simp <;> with_reducible rfl)); (simp only [Act.put, List.setIfInBounds_toArray, List.set_cons_zero, List.set_cons_succ]))
              (refine plan4_take (o := ?_) (v := ?_) (by simp only [List.getElem?_toArray, List.getElem?_cons_succ, List.getElem?_cons_zero]; rfl) (yields_run (by rfl) ?_) ?_; rotate_left; (focus (intro w' hw'; go_simp <;> with_reducible rfl)); (simp only [Act.put, List.setIfInBounds_toArray, List.set_cons_zero, List.set_cons_succ]))
              (refine plan4_take (o := ?_) (v := ?_) (by simp only [List.getElem?_toArray, List.getElem?_cons_succ, List.getElem?_cons_zero]; rfl) (yields_run (by rfl) ?_) ?_; rotate_left; (focus (intro w' hw'; go_simp <;> with_reducible rfl)); (simp only [Act.put, List.setIfInBounds_toArray, List.set_cons_zero, List.set_cons_succ]))
              (refine plan4_take (o := ?_) (v := ?_) (by simp only [List.getElem?_toArray, List.getElem?_cons_succ, List.getElem?_cons_zero]; rfl) (yields_run (by rfl) ?_) ?_; rotate_left; (focus (intro w' hw'; have q := (HFA.out w' hw').2.2.2.1; go_simp <;> with_reducible rfl)); (simp only [Act.put, List.setIfInBounds_toArray, List.set_cons_zero, List.set_cons_succ]))
              (refine plan4_take (o := ?_) (v := ?_) (by simp only [List.getElem?_toArray, List.getElem?_cons_succ, List.getElem?_cons_zero]; rfl) (yields_run (by rfl) ?_) ?_; rotate_left; (focus (intro w' hw'; have q := (HFA.out w' hw').2.2.2.2.1; go_simp <;> with_reducible rfl)); (simp only [Act.put, List.setIfInBounds_toArray, List.set_cons_zero, List.set_cons_succ]))
              (refine plan4_take (o := ?_) (v := ?_) (by simp only [List.getElem?_toArray, List.getElem?_cons_succ, List.getElem?_cons_zero]; rfl) (yields_run (by rfl) ?_) ?_; rotate_left; (focus (intro w' hw'; go_simp <;> with_reducible rfl)); (simp only [Act.put, List.setIfInBounds_toArray, List.set_cons_zero, List.set_cons_succ]))
              (refine plan4_take (o := ?_) (v := ?_) (by simp only [List.getElem?_toArray, List.getElem?_cons_succ, List.getElem?_cons_zero]; rfl) (yields_run (by rfl) ?_) ?_; rotate_left; (focus (intro w' hw'; go_simp <;> with_reducible rfl)); (simp only [Act.put, List.setIfInBounds_toArray, List.set_cons_zero, List.set_cons_succ]))
              (refine plan4_take (o := ?_) (v := ?_) (by simp only [List.getElem?_toArray, List.getElem?_cons_succ, List.getElem?_cons_zero]; rfl) (yields_run (by rfl) ?_) ?_; rotate_left; (focus (intro w' hw'; go_simp <;> with_reducible rfl)); (simp only [Act.put, List.setIfInBounds_toArray, List.set_cons_zero, List.set_cons_succ]))
              (refine plan4_take (o := ?_) (v := ?_) (by simp only [List.getElem?_toArray, List.getElem?_cons_succ, List.getElem?_cons_zero]; rfl) (yields_run (by rfl) ?_) ?_; rotate_left; (focus (intro w' hw'; have q := (HFA.out w' hw').2.2.2.2.2; go_simp <;> with_reducible rfl)); (simp only [Act.put, List.setIfInBounds_toArray, List.set_cons_zero, List.set_cons_succ]))
              (refine plan4_take (o := ?_) (v := ?_) (by simp only [List.getElem?_toArray, List.getElem?_cons_succ, List.getElem?_cons_zero]; rfl) (yields_run (by rfl) ?_) ?_; rotate_left; (focus (intro w' hw'; have q := (HFA.out w' hw').2.2.2.2.1; go_simp <;> with_reducible rfl)); (simp only [Act.put, List.setIfInBounds_toArray, List.set_cons_zero, List.set_cons_succ]))
              (refine plan4_take (o := ?_) (v := ?_) (by simp only [List.getElem?_toArray, List.getElem?_cons_succ, List.getElem?_cons_zero]; rfl) (yields_run (by rfl) ?_) ?_; rotate_left; (focus (intro w' hw'; go_simp <;> with_reducible rfl)); (simp only [Act.put, List.setIfInBounds_toArray, List.set_cons_zero, List.set_cons_succ]))
              (refine plan4_take (o := ?_) (v := ?_) (by simp only [List.getElem?_toArray, List.getElem?_cons_succ, List.getElem?_cons_zero]; rfl) (yields_run (by rfl) ?_) ?_; rotate_left; (focus (intro w' hw'; go_simp <;> with_reducible rfl)); (simp only [Act.put, List.setIfInBounds_toArray, List.set_cons_zero, List.set_cons_succ]))
              refine plan4_done ?_
              go_wp2_with fail
              go_roundw
              case rel => exact ⟨xs ++ [Lr.mk ⟨node, xs.length, hd, d.l⟩ d.A d.cap], some ⟨g, 0, none⟩, cap, by simp, by simp, by simp; omega, by simp; omega, hc2, hide (fun h => by cases h), hide (below_one HB2.out HS0.out), hide (HLA.out.below HS0.out), hide (by rw [show lnks (xs ++ [Lr.mk ⟨node, xs.length, hd, d.l⟩ d.A d.cap]) = lnks xs ++ [⟨node, xs.length, hd, d.l⟩] from by simp [lnks]]; exact HCN.out), hide (fun r hr => by
                rcases List.mem_append.1 hr with hr | hr
                · exact HNO.out r hr
                · rw [List.mem_singleton.1 hr]; exact ⟨rfl, h300⟩)⟩
              case measure => simp [intOf]; omega
            · have h300' : (300 : Int) < ((d.l.length : Nat) : Int) := by omega
              have h300'' : 300 < d.l.length := by omega
              go_wp2_with fail
              go_ret
              exact ⟨rfl, HBE.out⟩
          · have hlt' : ¬ ((xs.length : Nat) : Int) < ((pl.length : Nat) : Int) := by omega
            have hlt'' : ¬ xs.length < pl.length := hlt
            go_wp2_with fail
            go_loopw [9] (fun i wr2 => ∃ k : Nat, k ≤ xs.length + 1 ∧ i = .int .i64 k ∧ Hid (Below wr.heap.size wr wr2)) (fun i _ => xs.length + 1 - (intOf i).toNat)
            case atStart => exact ⟨0, Nat.zero_le _, rfl, hide (Below.refl _ _)⟩
            case round =>
              obtain ⟨k, hk, rfl, HBK⟩ := hrel
              by_cases hkl : k ≤ xs.length
              · have hkl' : ((k : Nat) : Int) ≤ ((xs.length : Nat) : Int) := by omega
                have hkc : k ≤ cx := by omega
                have HCK := hide (show Calls Tryd.prog 35 #[.slice X k cx] wr fun e w' => e = .returned (.int .i64 0) ∧ Below wr.heap.size wr w' from by
                  have := check_any X (xs.take k) cx wr (HT.out.below (below_one HBE.out HBK.out)) ((HLX.out.below HBK.out).take k) (by rw [List.length_take]; omega) hcx (HSX.out.take k)
                  rw [show (xs.take k).length = k by rw [List.length_take]; omega, show lnks (xs.take k) = (lnks xs).take k from by simp [lnks], chk_chain (chain_take _ _ HCH.out k) (by rw [List.length_take, lnks_len]; omega)] at this
                  exact this)
                go_wp2_with fail
                refine HCK.out.mono ?_
                rintro e w3 ⟨rfl, hb⟩
                have HB3 := hide (below_one HBK.out hb)
                clear hb
                go_wp2_with fail
                go_roundw
                case rel => exact ⟨k + 1, by omega, by go_num, HB3⟩
                case measure => simp [intOf]; omega
              · have hkl' : ¬ ((k : Nat) : Int) ≤ ((xs.length : Nat) : Int) := by omega
                go_wp2_with fail
                go_ret
                exact ⟨rfl, below_one HBE.out HBK.out⟩
      · have h24' : 24 ≤ node := by omega
        go_wp2_with fail
        go_ret
        exact ⟨rfl, HB1.out⟩
    · have h0' : node < 0 := by omega
      go_wp2_with fail
      go_ret
      exact ⟨rfl, HB1.out⟩
  · have h12' : (12 : Int) < ((pl.length : Nat) : Int) := by omega
    have h12'' : 12 < pl.length := by omega
    go_wp2_with fail
    go_ret
    exact ⟨rfl, HB1.out⟩
end Go.Proofs.YtalgceplcahgbaaDoor
