/- FieldOrder answers true. -/
import Derived.Test.YtcafjncilflanaaThr
namespace Go.Proofs.Ytcafjncilflanaa
open Go.RowKit

/-- The points, turned by k. -/
def trnP (l : List Pt) (k : Nat) : List Pt := l.drop k ++ l.take k
theorem trnP_perm (l : List Pt) (k : Nat) : l.Perm (trnP l k) := (List.take_append_drop k l ▸ List.perm_append_comm : (l.take k ++ l.drop k).Perm (l.drop k ++ l.take k)) |> fun h => by rwa [List.take_append_drop] at h
theorem trnP_len (l : List Pt) (k : Nat) : (trnP l k).length = l.length := (trnP_perm l k).length_eq.symm
theorem trnP_dif (l : List Pt) (k : Nat) (h : difB (l.map (·.1)) = true) : difB ((trnP l k).map (·.1)) = true := (difB_iff _).2 (dif_perm ((trnP_perm l k).map _) ((difB_iff _).1 h))
theorem trnP_at (l : List Pt) (k : Nat) (h : difB (l.map (·.1)) = true) (x : Int) : atF l x = atF (trnP l k) x :=
  at_turned l (trnP l k) ((difB_iff _).1 h) ((difB_iff _).1 (trnP_dif l k h)) (trnP_len l k).symm (fun _ hq => (trnP_perm l k).mem_iff.2 hq) x
theorem pts_one (l : List Pt) : ∀ u ∈ l.flatMap ptC, u.oneCell' = true := by
  intro u hu
  obtain ⟨p, _, h⟩ := List.mem_flatMap.1 hu
  exact pt_one p.1 p.2 u h
theorem Addr.add_at (b o j : Nat) : (⟨b, o, none⟩ : Addr).add j = ⟨b, o + j, none⟩ := by simp [Addr.add]
/-- What lies behind the first k points, and the first k. -/
theorem Pts.drop {w : World} {b o k : Nat} {l : List Pt} (h : Pts w (some ⟨b, o, none⟩) l) (hk : k ≤ l.length) : ∀ j u, ((l.drop k).flatMap ptC)[j]? = some u → w.cell? ((⟨b, o + k * 2, none⟩ : Addr).add j) = some u := by
  intro j u hu
  have hj := (List.getElem?_eq_some_iff.1 hu).1
  rw [fl_len ptC 2 (fun _ => rfl), List.length_drop] at hj
  have hlt : k + j / 2 < l.length := by omega
  obtain ⟨b', o', e, c0, c1⟩ := h.at hlt
  cases e
  have hlt' : j / 2 < (l.drop k).length := by rw [List.length_drop]; omega
  obtain ⟨f1, f2⟩ := fl_pt (l.drop k) (j / 2) hlt'
  rw [List.getElem?_eq_getElem hlt', List.getElem_drop] at f1 f2
  rw [Addr.add_at]
  rcases Nat.mod_two_eq_zero_or_one j with hm | hm
  · have e1 : j = j / 2 * 2 := by omega
    rw [e1, f1] at hu
    rw [← Option.some.inj hu]
    have e2 : o + k * 2 + j = o + (k + j / 2) * 2 := by omega
    rw [e2]
    exact c0
  · have e1 : j = j / 2 * 2 + 1 := by omega
    rw [e1, f2] at hu
    rw [← Option.some.inj hu]
    have e2 : o + k * 2 + j = o + (k + j / 2) * 2 + 1 := by omega
    rw [e2]
    exact c1
theorem Pts.take {w : World} {b o k : Nat} {l : List Pt} (h : Pts w (some ⟨b, o, none⟩) l) : ∀ j u, ((l.take k).flatMap ptC)[j]? = some u → w.cell? ((⟨b, o, none⟩ : Addr).add j) = some u := by
  intro j u hu
  have h2 := h.drop (k := 0) (Nat.zero_le _) j u (by
    rw [List.drop_zero]
    have e : l.flatMap ptC = (l.take k).flatMap ptC ++ (l.drop k).flatMap ptC := by rw [← List.flatMap_append, List.take_append_drop]
    rw [e]
    exact (List.getElem?_append_left (List.getElem?_eq_some_iff.1 hu).1).trans hu)
  simpa using h2

set_option maxRecDepth 20000 in
set_option maxHeartbeats 3200000 in
theorem order_walk (A : Option Addr) (l : List Pt) (cap : Nat) (c : UInt8) (x y : Int) (w : World) (hA : Pts w A l) (hl : l.length ≤ cap) (hc : cap ≤ 9223372036854775807) :
    Calls Try.prog 6 #[.slice A l.length cap, .int .u8 (c.toNat : Nat), .int .i64 x, .int .i64 y] w fun e w' => e = .returned (.bool true) ∧ Below w.heap.size w w' := by
  have HA := hide hA
  have HS := hide (sane_any w)
  clear hA
  by_cases h64 : 64 ≤ l.length
  · have h64' : (64 : Int) ≤ (l.length : Int) := by omega
    go_enter Try.func6, Try.ntmps6
    go_wp2_with fail
    refine HS.out.mono ?_
    rintro e w1 ⟨rfl, hb⟩
    have HB := hide hb
    clear hb HS
    go_wp2_with fail
    go_ret
    exact ⟨by simp, HB.out⟩
  · have h64' : ¬ (64 : Int) ≤ (l.length : Int) := by omega
    have HDF := hide (fun (W : World) (h : Below w.heap.size w W) => rdifferent_any A l cap W (HA.out.below h) hl hc)
    by_cases hd : difB (l.map (·.1)) = true
    · rw [hd] at HDF
      by_cases h0 : l.length = 0
      · have h0' : ((l.length : Nat) : Int) = 0 := by omega
        clear h0
        go_enter Try.func6, Try.ntmps6
        go_wp2_with fail
        refine HS.out.mono ?_
        rintro e w1 ⟨rfl, hb⟩
        have HB := hide hb
        clear hb HS
        go_wp2_with fail
        refine (HDF.out w1 HB.out).mono ?_
        rintro e w2 ⟨rfl, hb⟩
        have HB2 := hide (below_one HB.out hb)
        clear hb HB
        go_wp2_with fail
        go_ret
        exact ⟨by simp, HB2.out⟩
      · have h0' : ¬ ((l.length : Nat) : Int) = 0 := by omega
        have h0b : (((l.length : Nat) : Int) == 0) = false := by simpa using h0
        obtain ⟨b, o, hAb, _, _⟩ := HA.out.at (show 0 < l.length by omega)
        subst hAb
        obtain ⟨k, hk⟩ : ∃ k, c.toNat % l.length = k := ⟨_, rfl⟩
        have hkl : k < l.length := by rw [← hk]; exact Nat.mod_lt _ (by omega)
        have hcv : IntKind.i64.wrap ((c.toNat : Nat) : Int) = ((c.toNat : Nat) : Int) := IntWalk.i64_in _ (by have := c.toNat_lt; omega)
        have hrm : ((c.toNat : Nat) : Int).tmod ((l.length : Nat) : Int) = (k : Nat) := by rw [← hk]; exact IntWalk.up_tmod rfl rfl
        have HAT := hide (fun (W : World) (h : Below w.heap.size w W) (y : Int) => (show atV l y = Value.tuple #[.int .i64 (atF l y), .int .i64 0] by unfold atV; rw [if_neg (by omega), if_pos hd, if_neg (by omega), if_pos hd]) ▸ at_any (some ⟨b, o, none⟩) l cap y W (HA.out.below h) hl hc)
        have HTV := hide (fun (z : Int) => show atV (trnP l k) z = Value.tuple #[.int .i64 (atF l z), .int .i64 0] by unfold atV; rw [trnP_len, if_neg (by omega), if_pos (trnP_dif l k hd), if_neg (by omega), if_pos (trnP_dif l k hd), ← trnP_at l k hd])
        have HMN := hide (fun (z : Int) (h : difB ((l ++ [(x, atF l x)]).map (·.1)) = false) => show atV (l ++ [(x, atF l x)]) z = Value.tuple #[.int .i64 0, .int .i64 90] by unfold atV; rw [if_neg (by simp; omega), if_neg (by rw [h]; simp), if_neg (by simp; omega), if_neg (by rw [h]; simp)])
        have HMY := hide (fun (z : Int) (h : difB ((l ++ [(x, atF l x)]).map (·.1)) = true) => show atV (l ++ [(x, atF l x)]) z = Value.tuple #[.int .i64 (atF l z), .int .i64 0] by unfold atV; rw [if_neg (by simp; omega), if_pos h, if_neg (by simp; omega), if_pos h, at_more l x z ((difB_iff _).1 hd) ((difB_iff _).1 h)])
        obtain ⟨i0, hi0, hz0, hs0, hb0⟩ := hinfo35
        have HI35 := hide (And.intro hi0 (And.intro hz0 (And.intro hs0 hb0)))
        clear hd hi0 hz0 hs0 hb0 hk
        go_enter Try.func6, Try.ntmps6
        go_wp2_with fail
        refine HS.out.mono ?_
        rintro e w1 ⟨rfl, hb⟩
        have HB := hide hb
        clear hb HS
        go_wp2_with fail
        refine (HDF.out w1 HB.out).mono ?_
        rintro e w2 ⟨rfl, hb⟩
        have HB2 := hide (below_one HB.out hb)
        clear hb HB HDF
        go_wp2_with fail
        have hck : ¬ cap = k := by omega
        have hkc : ¬ ((l.length : Nat) : Int) < (k : Nat) := by omega
        have hkc2 : ((k : Nat) : Int) ≤ ((l.length : Nat) : Int) := by omega
        have hkc3 : ((k : Nat) : Int) ≤ ((cap : Nat) : Int) := by omega
        have hsub1 : IntKind.i64.wrap (((l.length : Nat) : Int) - (k : Nat)) = ((l.length - k : Nat) : Int) := by rw [IntWalk.i64_in _ (by omega)]; omega
        refine wp_region_plan4 (fun _ => True) (.take 1 (.take 2 (.take 3 (.take 5 (.take 6 (.take 7 (.run 0 (.run 4 (.run 8 (.last 9 .done)))))))))) (by kernel_rfl) (by kernel_rfl) trivial ?_
        (refine plan4_take (o := ?_) (v := ?_) (by simp only [List.getElem?_toArray, List.getElem?_cons_succ, List.getElem?_cons_zero]; rfl) (yields_run (by rfl) ?_) ?_; rotate_left; (focus (intro w' hw'; go_simp <;> with_reducible rfl)); (simp only [Act.put, List.setIfInBounds_toArray, List.set_cons_zero, List.set_cons_succ]))
        (refine plan4_take (o := ?_) (v := ?_) (by simp only [List.getElem?_toArray, List.getElem?_cons_succ, List.getElem?_cons_zero]; rfl) (yields_run (by rfl) ?_) ?_; rotate_left; (focus (intro w' hw'; go_simp <;> with_reducible rfl)); (simp only [Act.put, List.setIfInBounds_toArray, List.set_cons_zero, List.set_cons_succ]))
        (refine plan4_take (o := ?_) (v := ?_) (by simp only [List.getElem?_toArray, List.getElem?_cons_succ, List.getElem?_cons_zero]; rfl) (yields_run (by rfl) ?_) ?_; rotate_left; (focus (intro w' hw'; go_simp <;> with_reducible rfl)); (simp only [Act.put, List.setIfInBounds_toArray, List.set_cons_zero, List.set_cons_succ]))
        (refine plan4_take (o := ?_) (v := ?_) (by simp only [List.getElem?_toArray, List.getElem?_cons_succ, List.getElem?_cons_zero]; rfl) (yields_run (by rfl) ?_) ?_; rotate_left; (focus (intro w' hw'; go_simp <;> with_reducible rfl)); (simp only [Act.put, List.setIfInBounds_toArray, List.set_cons_zero, List.set_cons_succ]))
        (refine plan4_take (o := ?_) (v := ?_) (by simp only [List.getElem?_toArray, List.getElem?_cons_succ, List.getElem?_cons_zero]; rfl) (yields_run (by rfl) ?_) ?_; rotate_left; (focus (intro w' hw'; go_simp <;> with_reducible rfl)); (simp only [Act.put, List.setIfInBounds_toArray, List.set_cons_zero, List.set_cons_succ]))
        (refine plan4_take (o := ?_) (v := ?_) (by simp only [List.getElem?_toArray, List.getElem?_cons_succ, List.getElem?_cons_zero]; rfl) (yields_run (by rfl) ?_) ?_; rotate_left; (focus (intro w' hw'; go_simp <;> with_reducible rfl)); (simp only [Act.put, List.setIfInBounds_toArray, List.set_cons_zero, List.set_cons_succ]))
        refine plan4_run (o := ?_) (by simp only [List.getElem?_toArray, List.getElem?_cons_zero]; rfl) ?_
        intro R' HR
        have HB3 := hide (show Below w.heap.size w (w2.alloc (.cells #[] 35)).drew from (HB2.out.alloc HB2.out.size _).drew)
        have HO3 := hide (show (w2.alloc (.cells #[] 35)).drew.ownsRow w.heap.size 35 2 (.slice (some ⟨w2.heap.size, 0, none⟩) 0 0) 0 [] from own_empty w2 w.heap.size 35 2 HB2.out.size)
        go_wp2_with fail
        generalize hW3 : (w2.alloc (.cells #[] 35)).drew = W3 at *
        clear hW3
        refine HR.out _ _ trivial ?_
        clear HR
        refine plan4_run (o := ?_) (by simp only [List.getElem?_toArray, List.getElem?_cons_succ, List.getElem?_cons_zero]; rfl) ?_
        intro R' HR
        refine (wpList_append_own _ rfl (.tmp 40) (.tmp 43) 31 rfl w.heap.size 35 i0 _ 2 16 Try.underlying31 HI35.out.1 HI35.out.2.1 HI35.out.2.2.1 HI35.out.2.2.2 rfl (by omega) _ 0 [] rfl HO3.out ⟨b, o + k * 2, none⟩ (l.length - k) (cap - k) ((l.drop k).flatMap ptC) rfl (by rw [fl_len ptC 2 (fun _ => rfl), List.length_drop]) (Pts.drop (k := k) (HA.out.below HB3.out) (by omega)) (pts_one _) (by unfold maxLen; omega) (by omega) HB3.out.size ?_)
        intro v4 w4 hown hgr _
        have HB4 := hide (below_app HB3.out HO3.out hgr (Nat.le_refl _) HB3.out.size)
        obtain ⟨A4, c4, rfl⟩ := own_form hown
        have HO4 := hide hown
        rw [Nat.zero_add, List.nil_append] at HO4
        simp only [Nat.zero_add]
        clear hown hgr HO3 HB3
        go_wp2_with fail
        refine HR.out _ _ trivial ?_
        clear HR
        refine plan4_run (o := ?_) (by simp only [List.getElem?_toArray, List.getElem?_cons_succ, List.getElem?_cons_zero]; rfl) ?_
        intro R' HR
        refine (wpList_append_own _ rfl (.tmp 44) (.tmp 47) 31 rfl w.heap.size 35 i0 _ 2 16 Try.underlying31 HI35.out.1 HI35.out.2.1 HI35.out.2.2.1 HI35.out.2.2.2 rfl (by omega) _ (l.length - k) ((l.drop k).flatMap ptC) rfl HO4.out ⟨b, o, none⟩ k cap ((l.take k).flatMap ptC) rfl (by rw [fl_len ptC 2 (fun _ => rfl), List.length_take]; congr 1; omega) (Pts.take (k := k) (HA.out.below HB4.out)) (pts_one _) (by unfold maxLen; omega) (by omega) HB4.out.size ?_)
        intro v5 w5 hown hgr _
        have HB5 := hide (below_app HB4.out HO4.out hgr (Nat.le_refl _) HB4.out.size)
        obtain ⟨A5, c5, rfl⟩ := own_form hown
        have HO5 := hide (show w5.ownsRow w.heap.size 35 2 (.slice A5 l.length c5) l.length ((trnP l k).flatMap ptC) from by
          rw [Nat.sub_add_cancel (by omega), ← List.flatMap_append] at hown
          exact hown)
        simp only [Nat.sub_add_cancel (show k ≤ l.length by omega)]
        clear hown hgr HO4 HB4
        go_wp2_with fail
        refine HR.out _ _ trivial ?_
        clear HR
        refine plan4_last (o := ?_) (by simp only [List.getElem?_toArray, List.getElem?_cons_succ, List.getElem?_cons_zero]; rfl) ?_
        intro R' HR
        go_wp2_with fail
        refine HR.out _ _ ?_
        clear HR
        refine plan4_done ?_
        have HC := hide (own_caps HO5.out)
        have HP5 := hide (fun (W : World) (h : Below w5.heap.size w5 W) => (Pts.own HO5.out (trnP_len l k)).below h)
        have HTT := hide (fun (W : World) (h : Below w5.heap.size w5 W) => at_any A5 (trnP l k) c5 y W (HP5.out W h) (by rw [trnP_len]; exact HC.out.1) HC.out.2)
        rw [trnP_len, HTV.out y] at HTT
        go_wp2_with fail
        refine (HAT.out w5 HB5.out y).mono ?_
        rintro e w6 ⟨rfl, hb⟩
        have HB6 := hide (below_one HB5.out hb)
        have HX6 := hide hb
        clear hb HB5 HP5
        go_wp2_with fail
        refine (HTT.out w6 HX6.out).mono ?_
        rintro e w7 ⟨rfl, hb⟩
        have HB7 := hide (below_one HB6.out hb)
        clear hb HB6 HX6 HTT HTV HO5
        go_wp2_with fail
        refine (HAT.out w7 HB7.out x).mono ?_
        rintro e w8 ⟨rfl, hb⟩
        have HB8 := hide (below_one HB7.out hb)
        clear hb HB7
        have HB9 := hide (HB8.out.alloc HB8.out.size (.cells #[] 35))
        have HO9 := hide (own_empty w8 w.heap.size 35 2 HB8.out.size)
        go_wp2_with (at_builtin; refine wpList_append_own _ rfl (.tmp 78) (.tmp 79) 31 rfl w.heap.size 35 i0 _ 2 16 Try.underlying31 HI35.out.1 HI35.out.2.1 HI35.out.2.2.1 HI35.out.2.2.2 rfl (by omega) _ 0 [] rfl HO9.out ⟨b, o, none⟩ l.length cap ((l.take l.length).flatMap ptC) rfl (by rw [fl_len ptC 2 (fun _ => rfl), List.take_length]) (Pts.take (k := l.length) (HA.out.below HB9.out)) (pts_one _) (by unfold maxLen; omega) (by omega) HB9.out.size ?_)
        intro v10 w10 hown hgr _
        have HB10 := hide (below_app HB9.out HO9.out hgr (Nat.le_refl _) HB9.out.size)
        obtain ⟨A10, c10, rfl⟩ := own_form hown
        have HO10 := hide (own_later hown (below_new w10 (.cells #[.int .i64 x, .int .i64 (atF l x)] 35)))
        have HB11 := hide (HB10.out.alloc HB10.out.size (.cells #[.int .i64 x, .int .i64 (atF l x)] 35))
        have HN11 := hide (show ∀ j u, [Value.int .i64 x, .int .i64 (atF l x)][j]? = some u → (w10.alloc (.cells #[.int .i64 x, .int .i64 (atF l x)] 35)).cell? ((⟨w10.heap.size, 0, none⟩ : Addr).add j) = some u from fun j u hu => new_cells w10 35 [.int .i64 x, .int .i64 (atF l x)] _ rfl j u hu)
        clear hown hgr HO9 HB9
        go_wp2_with (at_builtin; refine wpList_append_own _ rfl (.tmp 80) (.tmp 84) 31 rfl w.heap.size 35 i0 _ 2 16 Try.underlying31 HI35.out.1 HI35.out.2.1 HI35.out.2.2.1 HI35.out.2.2.2 rfl (by omega) _ l.length (l.flatMap ptC) rfl HO10.out ⟨w10.heap.size, 0, none⟩ 1 1 [.int .i64 x, .int .i64 (atF l x)] rfl rfl HN11.out (pt_one _ _) (by unfold maxLen; omega) (by omega) HB11.out.size ?_)
        intro v12 w12 hown hgr _
        have HB12 := hide (below_app HB11.out HO10.out hgr (Nat.le_refl _) HB11.out.size)
        obtain ⟨A12, c12, rfl⟩ := own_form hown
        have HO12 := hide (show w12.ownsRow w.heap.size 35 2 (.slice A12 (l.length + 1) c12) (l.length + 1) ((l ++ [(x, atF l x)]).flatMap ptC) from by
          rw [List.flatMap_append]
          exact hown)
        clear hown hgr HO10 HB11 HB10
        have HLM := hide (show (l ++ [(x, atF l x)]).length = l.length + 1 by simp)
        have HC2 := hide (own_caps HO12.out)
        have HP12 := hide (fun (W : World) (h : Below w12.heap.size w12 W) => (Pts.own HO12.out HLM.out).below h)
        have HMM := hide (at_any A12 (l ++ [(x, atF l x)]) c12 y w12 (HP12.out w12 (Below.refl _ _)) (by rw [HLM.out]; exact HC2.out.1) HC2.out.2)
        have HDM := hide (fun (W : World) (h : Below w12.heap.size w12 W) => rdifferent_any A12 (l ++ [(x, atF l x)]) c12 W (HP12.out W h) (by rw [HLM.out]; exact HC2.out.1) HC2.out.2)
        have HMN1 := hide (HMN.out y)
        have HMY1 := hide (HMY.out y)
        rw [HLM.out] at HMM HDM
        clear HP12 HO12 HMN HMY HLM HA HN11 HI35
        generalize l ++ [(x, atF l x)] = mr at *
        by_cases hm : difB (mr.map (·.1)) = true
        · rw [HMY1.out hm] at HMM
          rw [hm] at HDM
          clear HMN1 HMY1 hm
          go_wp2_with fail
          refine HMM.out.mono ?_
          rintro e w13 ⟨rfl, hb⟩
          have HB13 := hide (below_one HB12.out hb)
          have HX13 := hide hb
          clear hb
          go_wp2_with fail
          refine (HDM.out w13 HX13.out).mono ?_
          rintro e w14 ⟨rfl, hb⟩
          have HB14 := hide (below_one HB13.out hb)
          clear hb
          go_wp2_with fail
          go_ret
          exact ⟨by simp, HB14.out⟩
        · have hm' : difB (mr.map (·.1)) = false := by simpa using hm
          rw [HMN1.out hm'] at HMM
          rw [hm'] at HDM
          clear HMN1 HMY1 hm hm'
          go_wp2_with fail
          refine HMM.out.mono ?_
          rintro e w13 ⟨rfl, hb⟩
          have HB13 := hide (below_one HB12.out hb)
          have HX13 := hide hb
          clear hb
          go_wp2_with fail
          refine (HDM.out w13 HX13.out).mono ?_
          rintro e w14 ⟨rfl, hb⟩
          have HB14 := hide (below_one HB13.out hb)
          clear hb
          go_wp2_with fail
          go_ret
          exact ⟨by simp, HB14.out⟩
    · have hd' : difB (l.map (·.1)) = false := by simpa using hd
      rw [hd'] at HDF
      go_enter Try.func6, Try.ntmps6
      go_wp2_with fail
      refine HS.out.mono ?_
      rintro e w1 ⟨rfl, hb⟩
      have HB := hide hb
      clear hb HS
      go_wp2_with fail
      refine (HDF.out w1 HB.out).mono ?_
      rintro e w2 ⟨rfl, hb⟩
      have HB2 := hide (below_one HB.out hb)
      clear hb HB
      go_wp2_with fail
      go_ret
      exact ⟨by simp, HB2.out⟩
end Go.Proofs.Ytcafjncilflanaa
