/- FieldThrough answers true. -/
import Derived.Test.YtcafjncilflanaaSan
import Derived.Test.YtcafjncilflanaaRdf
import Derived.Laws.AppendOwn
namespace Go.Proofs.Ytcafjncilflanaa
open Go.RowKit

theorem Pts.cels {ok : Nat → Prop} {w : World} {A : Option Addr} {l : List Pt} (h : Cels ok w A (l.flatMap ptC)) : Pts w A l := fun hne => by
  have hne' : l.flatMap ptC ≠ [] := by
    cases l with
    | nil => exact absurd rfl hne
    | cons p l => simp [ptC]
  obtain ⟨b, o, h1, h2, _, h4⟩ := h hne'
  have hlen : (l.flatMap ptC).length = l.length * 2 := fl_len ptC 2 (fun _ => rfl) l
  refine ⟨b, o, h1, h2, fun i hi => ?_⟩
  obtain ⟨f1, f2⟩ := fl_pt l i hi
  rw [List.getElem?_eq_getElem hi] at f1 f2
  have c1 := h4 (i * 2) (by omega)
  have c2 := h4 (i * 2 + 1) (by omega)
  rw [List.getElem?_eq_getElem (by omega)] at f1 f2
  rw [Option.some.inj f1] at c1
  rw [Option.some.inj f2] at c2
  exact ⟨c1, c2⟩
theorem Pts.own {w : World} {base n cap : Nat} {A : Option Addr} {l : List Pt} (h : w.ownsRow base 35 2 (.slice A n cap) n (l.flatMap ptC)) (hl : l.length = n) : Pts w A l := Pts.cels (own_in (ok := fun _ => True) h hl (fun _ _ => trivial)).cels
theorem own_nil (w : World) (base e size : Nat) : w.ownsRow base e size (.slice none 0 0) 0 [] := ⟨by simp, .inl ⟨rfl, rfl⟩⟩
theorem Try.info35 : (Try.prog.info? 35).map (fun i => (i.zero, i.size, i.bytes)) = some (some (.agg #[.int .i64 0, .int .i64 0]), 2, 16) := by kernel_rfl
theorem hinfo35 : ∃ i0, Try.prog.info? 35 = some i0 ∧ i0.zero = some (.agg #[.int .i64 0, .int .i64 0]) ∧ i0.size = 2 ∧ i0.bytes = 16 := by
  obtain ⟨i0, hi, hz0, hz1, hz2⟩ := info_parts Try.info35
  exact ⟨i0, hi, hz0, hz1, hz2⟩

theorem pt_one (a b : Int) : ∀ u ∈ [Value.int .i64 a, .int .i64 b], u.oneCell' = true := by simp [Value.oneCell']

/-- The points with the values of a polynomial. -/
def ownP (poly : List Int) (l : List Pt) : List Pt := l.map fun p => (p.1, valF poly p.1)
theorem ownP_fst (poly : List Int) (l : List Pt) : (ownP poly l).map (·.1) = l.map (·.1) := by simp [ownP]
theorem ownP_len (poly : List Int) (l : List Pt) : (ownP poly l).length = l.length := by simp [ownP]
theorem ownP_take (poly : List Int) (l : List Pt) (k : Nat) (h : k < l.length) : (ownP poly (l.take (k + 1))).flatMap ptC = (ownP poly (l.take k)).flatMap ptC ++ [.int .i64 l[k].1, .int .i64 (valF poly l[k].1)] := by
  rw [List.take_succ_eq_append_getElem h, ownP, List.map_append, List.flatMap_append]
  rfl
theorem through_at (poly : List Int) (l : List Pt) (hd : Dif (l.map (·.1))) (hl : poly.length ≤ l.length) (x : Int) : atF (ownP poly l) x = valF poly x := by
  rw [at_poly (ownP poly l) (by rw [ownP_fst]; exact hd) poly (by rw [ownP_len]; exact hl) (fun q hq => ?_) x, valF_md]
  obtain ⟨p, _, rfl⟩ := List.mem_map.1 hq
  show md (ev poly p.1) = md (valF poly p.1)
  rw [valF_md, md_md]
theorem val_in (l : List Int) (x : Int) : (decide (0 ≤ valF l x ∧ valF l x < 1073741789)) = true := by
  rw [valF_md]
  exact decide_eq_true ⟨md_lo _, md_hi _⟩

set_option maxRecDepth 20000 in
set_option maxHeartbeats 12800000 in
theorem through_walk (A B : Option Addr) (l : List Pt) (poly : List Int) (cap cap2 : Nat) (x : Int) (w : World) (hA : Pts w A l) (hB : Nums w B poly) (hl : l.length ≤ cap) (hc : cap ≤ 9223372036854775807) (hl2 : poly.length ≤ cap2) (hc2 : cap2 ≤ 9223372036854775807) :
    Calls Try.prog 5 #[.slice A l.length cap, .slice B poly.length cap2, .int .i64 x] w fun e w' => e = .returned (.bool true) ∧ Below w.heap.size w w' := by
  have HA := hide hA
  have HP := hide hB
  have HS := hide (sane_any w)
  clear hA hB
  by_cases h64 : 64 < l.length
  · have h64' : (64 : Int) < (l.length : Int) := by omega
    go_enter Try.func5, Try.ntmps5
    go_wp2_with fail
    refine HS.out.mono ?_
    rintro e w1 ⟨rfl, hb⟩
    have HB := hide hb
    clear hb HS
    go_wp2_with fail
    go_ret
    exact ⟨by simp, HB.out⟩
  · have h64' : ¬ (64 : Int) < (l.length : Int) := by omega
    have HDF := hide (fun (W : World) (h : Below w.heap.size w W) => rdifferent_any A l cap W (HA.out.below h) hl hc)
    by_cases hd : difB (l.map (·.1)) = true
    · rw [hd] at HDF
      by_cases hle : l.length < poly.length
      · have hle' : (l.length : Int) < (poly.length : Int) := by omega
        go_enter Try.func5, Try.ntmps5
        go_wp2_with fail
        refine HS.out.mono ?_
        rintro e w1 ⟨rfl, hb⟩
        have HB := hide hb
        clear hb HS
        go_wp2_with fail
        refine (HDF.out w1 HB.out).mono ?_
        rintro e w2 ⟨rfl, hb⟩
        have HB2 := hide (below_one HB.out hb)
        clear hb HB
        go_wp2_with fail
        go_ret
        exact ⟨by simp, HB2.out⟩
      · have hle' : ¬ (l.length : Int) < (poly.length : Int) := by omega
        have HD := hide ((difB_iff _).1 hd)
        have HAT := hide (fun (W : World) (h : Below w.heap.size w W) (y : Int) => (show atV l y = Value.tuple #[.int .i64 (atF l y), .int .i64 0] by unfold atV; rw [if_neg h64, if_pos hd, if_neg h64, if_pos hd]) ▸ at_any A l cap y W (HA.out.below h) hl hc)
        have HVL := hide (fun (W : World) (h : Below w.heap.size w W) (y : Int) => value_any B poly cap2 y W (HP.out.below h) hl2 hc2)
        have HPT := hide (fun (k : Nat) (hk : k < l.length) => at_point l HD.out k hk l[k].1 rfl)
        have HTH := hide (through_at poly l HD.out (by omega) x)
        have HVO := hide (show atV (ownP poly l) x = Value.tuple #[.int .i64 (atF (ownP poly l) x), .int .i64 0] by unfold atV; rw [ownP_len, ownP_fst, if_neg h64, if_pos hd, if_neg h64, if_pos hd])
        have HIN := hide (fun W => val_in poly x ▸ in_any (valF poly x) W)
        rw [HTH.out] at HVO
        obtain ⟨i0, hi0, hz0, hs0, hb0⟩ := hinfo35
        have HI35 := hide (And.intro hi0 (And.intro hz0 (And.intro hs0 hb0)))
        clear hd hi0 hz0 hs0 hb0
        go_enter Try.func5, Try.ntmps5
        go_wp2_with fail
        refine HS.out.mono ?_
        rintro e w1 ⟨rfl, hb⟩
        have HB := hide hb
        clear hb HS
        go_wp2_with fail
        refine (HDF.out w1 HB.out).mono ?_
        rintro e w2 ⟨rfl, hb⟩
        have HB2 := hide (below_one HB.out hb)
        clear hb HB HDF
        go_wp2_with fail
        go_loopw [7, 9, 10, 11, 33] (fun v _ _ _ i wr => ∃ k : Nat, k ≤ l.length ∧ i = .int .i64 k ∧ Hid (wr.ownsRow w.heap.size 35 2 v k ((ownP poly (l.take k)).flatMap ptC)) ∧ Hid (Below w.heap.size w wr)) (fun _ _ _ _ i _ => l.length - (intOf i).toNat)
        case atStart => exact ⟨0, Nat.zero_le _, rfl, hide (own_nil _ _ _ _), HB2⟩
        case round =>
          obtain ⟨k, hk, rfl, HO, HW⟩ := hrel
          by_cases hlt : k < l.length
          · have hlt' : (k : Int) < (l.length : Int) := by omega
            obtain ⟨b, o, hAb, c0, c1⟩ := (HA.out.below HW.out).at hlt
            obtain ⟨A3, c3, rfl⟩ := own_form HO.out
            subst hAb
            have HTK := hide (ownP_take poly l k hlt)
            have HPK := hide (HPT.out k hlt)
            generalize l[k] = pt at *
            obtain ⟨X, Y⟩ := pt
            simp only at c0 c1 HTK HPK
            have HO3 := hide (own_later HO.out (below_new wr (.cells #[.int .i64 X, .int .i64 Y] 35)))
            have H3 := hide (HW.out.alloc HW.out.size (.cells #[.int .i64 X, .int .i64 Y] 35))
            have HP3 := hide (Blk.new wr 35 [.int .i64 X, .int .i64 Y])
            have HNE := hide (fun g (h : (Value.slice A3 k c3).ownBlock = some g) => (HO.out.lt g h).2)
            go_wp2_with fail
            generalize hW3 : wr.alloc (.cells #[.int .i64 X, .int .i64 Y] 35) = W3 at *
            clear hW3
            refine (HAT.out W3 H3.out X).mono ?_
            rintro e v4 ⟨rfl, hb⟩
            rw [HPK.out]
            have HO4 := hide (own_later HO3.out hb)
            have HP4 := hide (HP3.out.below hb HP3.out.lt)
            have H4 := hide (below_one H3.out hb)
            have c5 : v4.cell? ⟨wr.heap.size, 1, none⟩ = some (.int .i64 Y) := HP4.out.cell 1
            clear hb HO3 HP3 H3 c0 c1 HO
            go_wp2_with fail
            refine (mod_any Y _).mono ?_
            rintro e w' ⟨rfl, rfl⟩
            go_wp2_with fail
            clear c5
            refine wp_region_plan4 (fun W' => W'.cell? ⟨wr.heap.size, 0, none⟩ = some (.int .i64 X)) (.take 0 (.take 1 (.take 2 (.take 3 (.take 4 (.take 5 (.run 6 (.run 7 (.run 8 (.run 9 (.last 10 .done))))))))))) (by kernel_rfl) (by kernel_rfl) (HP4.out.cell 0) ?_
            (refine plan4_take (o := ?_) (v := ?_) (by simp only [List.getElem?_toArray, List.getElem?_cons_zero]; rfl) (yields_run (by rfl) ?_) ?_; rotate_left; (focus (intro w' hw'; go_simp <;> with_reducible rfl)); (simp only [Act.put, List.setIfInBounds_toArray, List.set_cons_zero, List.set_cons_succ]))
            (refine plan4_take (o := ?_) (v := ?_) (by simp only [List.getElem?_toArray, List.getElem?_cons_succ, List.getElem?_cons_zero]; rfl) (yields_run (by rfl) ?_) ?_; rotate_left; (focus (intro w' hw'; go_simp <;> with_reducible rfl)); (simp only [Act.put, List.setIfInBounds_toArray, List.set_cons_zero, List.set_cons_succ]))
            (refine plan4_take (o := ?_) (v := ?_) (by simp only [List.getElem?_toArray, List.getElem?_cons_succ, List.getElem?_cons_zero]; rfl) (yields_run (by rfl) ?_) ?_; rotate_left; (focus (intro w' hw'; go_simp <;> with_reducible rfl)); (simp only [Act.put, List.setIfInBounds_toArray, List.set_cons_zero, List.set_cons_succ]))
            (refine plan4_take (o := ?_) (v := ?_) (by simp only [List.getElem?_toArray, List.getElem?_cons_succ, List.getElem?_cons_zero]; rfl) (yields_run (by rfl) ?_) ?_; rotate_left; (focus (intro w' hw'; go_simp <;> with_reducible rfl)); (simp only [Act.put, List.setIfInBounds_toArray, List.set_cons_zero, List.set_cons_succ]))
            (refine plan4_take (o := ?_) (v := ?_) (by simp only [List.getElem?_toArray, List.getElem?_cons_succ, List.getElem?_cons_zero]; rfl) (yields_run (by rfl) ?_) ?_; rotate_left; (focus (intro w' hw'; go_simp <;> with_reducible rfl)); (simp only [Act.put, List.setIfInBounds_toArray, List.set_cons_zero, List.set_cons_succ]))
            (refine plan4_take (o := ?_) (v := ?_) (by simp only [List.getElem?_toArray, List.getElem?_cons_succ, List.getElem?_cons_zero]; rfl) (yields_run (by rfl) ?_) ?_; rotate_left; (focus (intro w' hw'; go_simp <;> with_reducible rfl)); (simp only [Act.put, List.setIfInBounds_toArray, List.set_cons_zero, List.set_cons_succ]))
            refine plan4_run (o := ?_) (by simp only [List.getElem?_toArray, List.getElem?_cons_succ, List.getElem?_cons_zero]; rfl) ?_
            intro R' HR
            go_wp2_with fail
            refine (HVL.out v4.drew H4.out.drew X).mono ?_
            rintro e v5 ⟨rfl, hb⟩
            have HB5 := hide (show Below v4.heap.size v4 v5 from below_ofdrew hb)
            have HO5 := hide (own_later HO4.out HB5.out)
            have HP5 := hide (HP4.out.below HB5.out HP4.out.lt)
            have H5 := hide (below_one H4.out HB5.out)
            clear hb HB5 HO4 HP4 H4
            go_wp2_with fail
            refine HR.out _ _ (HP5.out.cell 0) ?_
            clear HR
            refine plan4_run (o := ?_) (by simp only [List.getElem?_toArray, List.getElem?_cons_succ, List.getElem?_cons_zero]; rfl) ?_
            intro R' HR
            go_wp2_with fail
            refine HR.out _ _ (HP5.out.cell 0) ?_
            clear HR
            refine plan4_run (o := ?_) (by simp only [List.getElem?_toArray, List.getElem?_cons_succ, List.getElem?_cons_zero]; rfl) ?_
            intro R' HR
            have HB6 := hide (below_new v5 (.cells #[.int .i64 X, .int .i64 (valF poly X)] 35))
            have HO6 := hide (own_later HO5.out HB6.out)
            have HP6 := hide (HP5.out.below HB6.out HP5.out.lt)
            have H6 := hide (below_one H5.out HB6.out)
            have HN6 := hide (show ∀ j u, [Value.int .i64 X, .int .i64 (valF poly X)][j]? = some u → (v5.alloc (.cells #[.int .i64 X, .int .i64 (valF poly X)] 35)).cell? ((⟨v5.heap.size, 0, none⟩ : Addr).add j) = some u from fun j u hu => new_cells v5 35 [.int .i64 X, .int .i64 (valF poly X)] _ rfl j u hu)
            go_wp2_with fail
            refine HR.out _ _ (HP6.out.cell 0) ?_
            clear HR
            refine plan4_run (o := ?_) (by simp only [List.getElem?_toArray, List.getElem?_cons_succ, List.getElem?_cons_zero]; rfl) ?_
            intro R' HR
            refine (wpList_append_own _ rfl (.tmp 53) (.tmp 61) 31 rfl w.heap.size 35 i0 _ 2 16 Try.underlying31 HI35.out.1 HI35.out.2.1 HI35.out.2.2.1 HI35.out.2.2.2 rfl (by omega) _ k ((ownP poly (l.take k)).flatMap ptC) rfl HO6.out ⟨v5.heap.size, 0, none⟩ 1 1 [.int .i64 X, .int .i64 (valF poly X)] rfl rfl HN6.out (pt_one _ _) (by unfold maxLen; omega) (by omega) H6.out.size ?_)
            intro v7 w7 hown hgr _
            have HO7 := hide hown
            have HG7 := hide hgr
            rw [← HTK.out] at HO7
            have HP7 := hide (show w7.cell? ⟨wr.heap.size, 0, none⟩ = some (.int .i64 X) from (World.cell?_of_block (a := ⟨wr.heap.size, 0, none⟩) (HG7.out.block _ HP6.out.lt (fun e => Nat.lt_irrefl _ (HNE.out _ e.symm)))).trans (HP6.out.cell 0))
            have H7 := hide (show Below w.heap.size w w7 from below_app H6.out HO6.out HG7.out (Nat.le_refl _) H6.out.size)
            clear hown hgr HG7
            go_wp2_with fail
            refine HR.out _ _ HP7.out ?_
            clear HR
            refine plan4_last (o := ?_) (by simp only [List.getElem?_toArray, List.getElem?_cons_succ, List.getElem?_cons_zero]; rfl) ?_
            intro R' HR
            go_wp2_with fail
            refine HR.out _ _ ?_
            clear HR
            refine plan4_done ?_
            go_wp2_with fail
            go_roundw
            case rel => exact ⟨k + 1, by omega, by go_num, HO7, H7⟩
            case measure => simp [intOf]; omega
          · obtain rfl : k = l.length := by omega
            obtain ⟨A3, c3, rfl⟩ := own_form HO.out
            have HO2 := hide (show wr.ownsRow w.heap.size 35 2 (.slice A3 l.length c3) l.length ((ownP poly l).flatMap ptC) from by
              have h := HO.out
              rwa [List.take_length] at h)
            have HC := hide (own_caps HO2.out)
            have HAO := hide (at_any A3 (ownP poly l) c3 x wr (Pts.own HO2.out (ownP_len poly l)) (by rw [ownP_len]; exact HC.out.1) HC.out.2)
            rw [ownP_len, HVO.out] at HAO
            clear HO
            go_wp2_with fail
            refine HAO.out.mono ?_
            rintro e w4 ⟨rfl, hb⟩
            have H4 := hide (below_one HW.out hb)
            clear hb HAO
            go_wp2_with fail
            refine (HIN.out _).mono ?_
            rintro e w' ⟨rfl, rfl⟩
            go_wp2_with fail
            refine (HVL.out w4 H4.out x).mono ?_
            rintro e w5 ⟨rfl, hb⟩
            have H5 := hide (below_one H4.out hb)
            clear hb
            go_wp2_with fail
            go_ret
            exact ⟨by simp, H5.out⟩
    · have hd' : difB (l.map (·.1)) = false := by simpa using hd
      rw [hd'] at HDF
      go_enter Try.func5, Try.ntmps5
      go_wp2_with fail
      refine HS.out.mono ?_
      rintro e w1 ⟨rfl, hb⟩
      have HB := hide hb
      clear hb HS
      go_wp2_with fail
      refine (HDF.out w1 HB.out).mono ?_
      rintro e w2 ⟨rfl, hb⟩
      have HB2 := hide (below_one HB.out hb)
      clear hb HB
      go_wp2_with fail
      go_ret
      exact ⟨by simp, HB2.out⟩
end Go.Proofs.Ytcafjncilflanaa
