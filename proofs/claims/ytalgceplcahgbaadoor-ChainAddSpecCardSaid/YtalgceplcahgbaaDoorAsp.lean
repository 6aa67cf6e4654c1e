/- ChainAddSpec answers true. -/
import Derived.Test.YtalgceplcahgbaaDoorRad
import Derived.Test.YtalgceplcahgbaaDoorRpa
import Derived.Test.YtalgceplcahgbaaDoorSan
namespace Go.Proofs.YtalgceplcahgbaaDoor
open Go.RowKit Go.Shelf

set_option maxRecDepth 20000 in
set_option maxHeartbeats 12800000 in
theorem aspec_walk (A B D : Option Addr) (l m : List Lr) (ca cb c : Nat) (node : Int) (data : List UInt8) (w : World) (hT : Tab w) (hl : Lks w A l) (hm : Lks w B m) (hlc : l.length ≤ ca) (hcx : ca ≤ 9223372036854775807) (hA : A = none → ca = 0) (hmc : m.length ≤ cb) (hcy : cb ≤ 9223372036854775807) (hB : B = none → cb = 0)
    (hn : -9223372036854775808 ≤ node ∧ node ≤ 9223372036854775807) (hd : Src w D data.length c data) (hdc : data.length ≤ c) (hcc : c ≤ 9223372036854775807) :
    Calls Tryd.prog 12 #[.slice A l.length ca, .slice B m.length cb, .int .i64 node, .slice D data.length c] w (LawPost w) := by
  have HT := hide hT
  have HL := hide hl
  have HM := hide hm
  have HD := hide hd
  have HAB := hide (And.intro hA hB)
  clear hT hl hm hd hA hB
  have HSA := hide (sane_any w HT.out)
  have HF1 := hide (fun (W : World) (h : Below w.heap.size w W) => few_any A l ca W (HL.out.below h) (by omega))
  have HF2 := hide (fun (W : World) (h : Below w.heap.size w W) => few_any B m cb W (HM.out.below h) (by omega))
  cases hfl : fewL l with
  | false =>
    rw [hfl] at HF1
    clear hfl
    go_enter Tryd.func12, Tryd.ntmps12
    go_wp2_with fail
    refine HSA.out.mono ?_
    rintro e w1 ⟨rfl, hb⟩
    have HB1 := hide hb
    clear hb HSA
    go_wp2_with fail
    refine (HF1.out _ HB1.out).mono ?_
    rintro e wz ⟨rfl, rfl⟩
    go_wp2_with fail
    go_ret
    exact ⟨rfl, HB1.out⟩
  | true =>
    cases hfm : fewL m with
    | false =>
      rw [hfl] at HF1
      rw [hfm] at HF2
      clear hfl hfm
      go_enter Tryd.func12, Tryd.ntmps12
      go_wp2_with fail
      refine HSA.out.mono ?_
      rintro e w1 ⟨rfl, hb⟩
      have HB1 := hide hb
      clear hb HSA
      go_wp2_with fail
      refine (HF1.out _ HB1.out).mono ?_
      rintro e wz ⟨rfl, rfl⟩
      go_wp2_with fail
      refine (HF2.out _ HB1.out).mono ?_
      rintro e wz ⟨rfl, rfl⟩
      go_wp2_with fail
      go_ret
      exact ⟨rfl, HB1.out⟩
    | true =>
      by_cases g1 : 300 < data.length ∧ data.length ≤ 65536
      · have d1 : decide ((300 : Int) < (data.length : Int)) = true := decide_eq_true (by omega)
        have d2 : decide ((data.length : Int) ≤ (65536 : Int)) = true := decide_eq_true (by omega)
        rw [hfl] at HF1
        rw [hfm] at HF2
        clear hfl hfm g1
        go_enter Tryd.func12, Tryd.ntmps12
        go_wp2_with fail
        refine HSA.out.mono ?_
        rintro e w1 ⟨rfl, hb⟩
        have HB1 := hide hb
        clear hb HSA
        go_wp2_with fail
        refine (HF1.out _ HB1.out).mono ?_
        rintro e wz ⟨rfl, rfl⟩
        go_wp2_with fail
        refine (HF2.out _ HB1.out).mono ?_
        rintro e wz ⟨rfl, rfl⟩
        go_wp2_with fail
        go_ret
        exact ⟨rfl, HB1.out⟩
      · have HSP := hide (And.intro (fewL_spec hfl) (fewL_spec hfm))
        have HSL := hide (And.intro (fewL_short hfl) (fewL_short hfm))
        have HA1 := hide (fun (W : World) (h : Below w.heap.size w W) => add_any A D l ca c node data W (HT.out.below h) (HL.out.below h) hlc hcx HSL.out.1 HAB.out.1 hn (HD.out.below h) hdc hcc)
        have HA2 := hide (fun (W : World) (h : Below w.heap.size w W) => radd_any A D l ca c node data W (HL.out.below h) hlc hcx HSP.out.1.2 HSP.out.1.1 HAB.out.1 hn (HD.out.below h) hdc hcc)
        have HP1 := hide (fun (W : World) (h : Below w.heap.size w W) => part_any A B l m ca cb W (HT.out.below h) (HL.out.below h) (HM.out.below h) hlc hcx hmc hcy HSL.out.1 HSL.out.2 HAB.out.1)
        have HP2 := hide (fun (W : World) (h : Below w.heap.size w W) => rpart_any A B l m ca cb W (HL.out.below h) (HM.out.below h) hlc hcx hmc hcy HSP.out.1.2 HSP.out.1.1 HSP.out.2.2 HSP.out.2.1)
        obtain ⟨⟨i, j, k⟩, hP⟩ : ∃ p, partA (lnks l) (lnks m) = p := ⟨_, rfl⟩
        rw [hP] at HP1 HP2
        clear hP
        simp only at HP1 HP2
        rw [hfl] at HF1
        rw [hfm] at HF2
        obtain ⟨⟨o, v⟩, hR⟩ : ∃ p, addA (lnks l) node data = p := ⟨_, rfl⟩
        rw [hR] at HA1 HA2
        have HL16 := hide HSP.out.1.1
        clear hR hfl hfm HSP HSL
        cases o with
        | none =>
          have HA1' := hide (fun (W : World) (h : Below w.heap.size w W) => (HA1.out W h).mono fun e w' (q : AddP l D c W (none, v) e w') => (show e = .returned (.tuple #[.slice none 0 0, .int .i64 v]) ∧ Below W.heap.size W w' from q))
          replace HA1 := HA1'
          clear HA1'
          have HA2' := hide (fun (W : World) (h : Below w.heap.size w W) => (HA2.out W h).mono fun e w' (q : AddP l D c W (none, v) e w') => (show e = .returned (.tuple #[.slice none 0 0, .int .i64 v]) ∧ Below W.heap.size W w' from q))
          replace HA2 := HA2'
          clear HA2'
          by_cases g3 : 300 < data.length
          · have d1 : decide ((300 : Int) < (data.length : Int)) = true := decide_eq_true (by omega)
            have d2 : decide ((data.length : Int) ≤ (65536 : Int)) = false := decide_eq_false (by omega)
            clear g1 g3
            go_enter Tryd.func12, Tryd.ntmps12
            go_wp2_with fail
            refine HSA.out.mono ?_
            rintro e w1 ⟨rfl, hb⟩
            have HB1 := hide hb
            clear hb HSA
            go_wp2_with fail
            refine (HF1.out _ HB1.out).mono ?_
            rintro e wz ⟨rfl, rfl⟩
            go_wp2_with fail
            refine (HF2.out _ HB1.out).mono ?_
            rintro e wz ⟨rfl, rfl⟩
            go_wp2_with fail
            refine (HA1.out _ HB1.out).mono ?_
            rintro e w2 ⟨rfl, hb⟩
            have HB2 := hide (below_one HB1.out hb)
            clear hb
            go_wp2_with fail
            refine (HA2.out _ HB2.out).mono ?_
            rintro e w3 ⟨rfl, hb⟩
            have HB3 := hide (below_one HB2.out hb)
            clear hb
            go_wp2_with fail
            refine (HP1.out _ HB3.out).mono ?_
            rintro e w4 ⟨rfl, hb⟩
            have HB4 := hide (below_one HB3.out hb)
            clear hb
            go_wp2_with fail
            refine (HP2.out _ HB4.out).mono ?_
            rintro e w5 ⟨rfl, hb⟩
            have HB5 := hide (below_one HB4.out hb)
            clear hb
            go_wp2_with fail
            refine ((sameLs_any none none [] [] 0 0 w5 (Lks.nil _ _) (Lks.nil _ _) (by simp)).mono fun e w' h => (show e = .returned (.bool true) ∧ Below w5.heap.size w5 w' from ⟨by rw [h.1]; rfl, h.2⟩)).mono ?_
            rintro e w6 ⟨rfl, hb⟩
            have HB6 := hide (below_one HB5.out hb)
            clear hb
            go_wp2_with fail
            go_ret
            exact ⟨by simp, HB6.out⟩
          · have d1 : decide ((300 : Int) < (data.length : Int)) = false := decide_eq_false (by omega)
            clear g1 g3
            go_enter Tryd.func12, Tryd.ntmps12
            go_wp2_with fail
            refine HSA.out.mono ?_
            rintro e w1 ⟨rfl, hb⟩
            have HB1 := hide hb
            clear hb HSA
            go_wp2_with fail
            refine (HF1.out _ HB1.out).mono ?_
            rintro e wz ⟨rfl, rfl⟩
            go_wp2_with fail
            refine (HF2.out _ HB1.out).mono ?_
            rintro e wz ⟨rfl, rfl⟩
            go_wp2_with fail
            refine (HA1.out _ HB1.out).mono ?_
            rintro e w2 ⟨rfl, hb⟩
            have HB2 := hide (below_one HB1.out hb)
            clear hb
            go_wp2_with fail
            refine (HA2.out _ HB2.out).mono ?_
            rintro e w3 ⟨rfl, hb⟩
            have HB3 := hide (below_one HB2.out hb)
            clear hb
            go_wp2_with fail
            refine (HP1.out _ HB3.out).mono ?_
            rintro e w4 ⟨rfl, hb⟩
            have HB4 := hide (below_one HB3.out hb)
            clear hb
            go_wp2_with fail
            refine (HP2.out _ HB4.out).mono ?_
            rintro e w5 ⟨rfl, hb⟩
            have HB5 := hide (below_one HB4.out hb)
            clear hb
            go_wp2_with fail
            refine ((sameLs_any none none [] [] 0 0 w5 (Lks.nil _ _) (Lks.nil _ _) (by simp)).mono fun e w' h => (show e = .returned (.bool true) ∧ Below w5.heap.size w5 w' from ⟨by rw [h.1]; rfl, h.2⟩)).mono ?_
            rintro e w6 ⟨rfl, hb⟩
            have HB6 := hide (below_one HB5.out hb)
            clear hb
            go_wp2_with fail
            go_ret
            exact ⟨by simp, HB6.out⟩
        | some x =>
          obtain ⟨L, hL⟩ : ∃ L, l ++ [Lr.mk x D c] = L := ⟨_, rfl⟩
          have HLL := hide (show L.length ≤ 9223372036854775807 by
            have := HL16.out
            rw [← hL, List.length_append]
            simp
            omega)
          have HA1' := hide (fun (W : World) (h : Below w.heap.size w W) => (HA1.out W h).mono fun e w' (q : AddP l D c W (some x, v) e w') => (show ∃ (g cap : Nat), e = .returned (.tuple #[.slice (some ⟨g, 0, none⟩) (l ++ [Lr.mk x D c]).length cap, .int .i64 v]) ∧ Lks w' (some ⟨g, 0, none⟩) (l ++ [Lr.mk x D c]) ∧ (l ++ [Lr.mk x D c]).length ≤ cap ∧ cap ≤ 9223372036854775807 ∧ Below W.heap.size W w' from q))
          have HA2' := hide (fun (W : World) (h : Below w.heap.size w W) => (HA2.out W h).mono fun e w' (q : AddP l D c W (some x, v) e w') => (show ∃ (g cap : Nat), e = .returned (.tuple #[.slice (some ⟨g, 0, none⟩) (l ++ [Lr.mk x D c]).length cap, .int .i64 v]) ∧ Lks w' (some ⟨g, 0, none⟩) (l ++ [Lr.mk x D c]) ∧ (l ++ [Lr.mk x D c]).length ≤ cap ∧ cap ≤ 9223372036854775807 ∧ Below W.heap.size W w' from q))
          rw [hL] at HA1' HA2'
          replace HA1 := HA1'
          replace HA2 := HA2'
          clear HA1' HA2'
          clear hL
          by_cases g3 : 300 < data.length
          · have d1 : decide ((300 : Int) < (data.length : Int)) = true := decide_eq_true (by omega)
            have d2 : decide ((data.length : Int) ≤ (65536 : Int)) = false := decide_eq_false (by omega)
            clear g1 g3
            go_enter Tryd.func12, Tryd.ntmps12
            go_wp2_with fail
            refine HSA.out.mono ?_
            rintro e w1 ⟨rfl, hb⟩
            have HB1 := hide hb
            clear hb HSA
            go_wp2_with fail
            refine (HF1.out _ HB1.out).mono ?_
            rintro e wz ⟨rfl, rfl⟩
            go_wp2_with fail
            refine (HF2.out _ HB1.out).mono ?_
            rintro e wz ⟨rfl, rfl⟩
            go_wp2_with fail
            refine (HA1.out _ HB1.out).mono ?_
            rintro e w2 ⟨g1, cap1, rfl, hL, hc1, hc2, hb⟩
            have HB2 := hide (below_one HB1.out hb)
            have HG1 := hide (And.intro hL (And.intro hc1 hc2))
            clear hb hL hc1 hc2
            go_wp2_with fail
            refine (HA2.out _ HB2.out).mono ?_
            rintro e w3 ⟨g2, cap2, rfl, hL, hc1, hc2, hb⟩
            have HB3 := hide (below_one HB2.out hb)
            have HG1' := hide (HG1.out.1.below hb)
            have HG2 := hide (And.intro hL (And.intro hc1 hc2))
            clear hb hL hc1 hc2
            go_wp2_with fail
            refine (HP1.out _ HB3.out).mono ?_
            rintro e w4 ⟨rfl, hb⟩
            have HB4 := hide (below_one HB3.out hb)
            have HX1 := hide (HG1'.out.below hb)
            have HX2 := hide (HG2.out.1.below hb)
            clear hb
            go_wp2_with fail
            refine (HP2.out _ HB4.out).mono ?_
            rintro e w5 ⟨rfl, hb⟩
            have HB5 := hide (below_one HB4.out hb)
            have HY1 := hide (HX1.out.below hb)
            have HY2 := hide (HX2.out.below hb)
            clear hb
            go_wp2_with fail
            refine ((sameLs_any (some ⟨g1, 0, none⟩) (some ⟨g2, 0, none⟩) L L cap1 cap2 w5 HY1.out HY2.out HLL.out).mono fun e w' h => (show e = .returned (.bool true) ∧ Below w5.heap.size w5 w' from ⟨by rw [h.1, sameL_iff.2 rfl], h.2⟩)).mono ?_
            rintro e w6 ⟨rfl, hb⟩
            have HB6 := hide (below_one HB5.out hb)
            clear hb
            go_wp2_with fail
            go_ret
            exact ⟨by simp, HB6.out⟩
          · have d1 : decide ((300 : Int) < (data.length : Int)) = false := decide_eq_false (by omega)
            clear g1 g3
            go_enter Tryd.func12, Tryd.ntmps12
            go_wp2_with fail
            refine HSA.out.mono ?_
            rintro e w1 ⟨rfl, hb⟩
            have HB1 := hide hb
            clear hb HSA
            go_wp2_with fail
            refine (HF1.out _ HB1.out).mono ?_
            rintro e wz ⟨rfl, rfl⟩
            go_wp2_with fail
            refine (HF2.out _ HB1.out).mono ?_
            rintro e wz ⟨rfl, rfl⟩
            go_wp2_with fail
            refine (HA1.out _ HB1.out).mono ?_
            rintro e w2 ⟨g1, cap1, rfl, hL, hc1, hc2, hb⟩
            have HB2 := hide (below_one HB1.out hb)
            have HG1 := hide (And.intro hL (And.intro hc1 hc2))
            clear hb hL hc1 hc2
            go_wp2_with fail
            refine (HA2.out _ HB2.out).mono ?_
            rintro e w3 ⟨g2, cap2, rfl, hL, hc1, hc2, hb⟩
            have HB3 := hide (below_one HB2.out hb)
            have HG1' := hide (HG1.out.1.below hb)
            have HG2 := hide (And.intro hL (And.intro hc1 hc2))
            clear hb hL hc1 hc2
            go_wp2_with fail
            refine (HP1.out _ HB3.out).mono ?_
            rintro e w4 ⟨rfl, hb⟩
            have HB4 := hide (below_one HB3.out hb)
            have HX1 := hide (HG1'.out.below hb)
            have HX2 := hide (HG2.out.1.below hb)
            clear hb
            go_wp2_with fail
            refine (HP2.out _ HB4.out).mono ?_
            rintro e w5 ⟨rfl, hb⟩
            have HB5 := hide (below_one HB4.out hb)
            have HY1 := hide (HX1.out.below hb)
            have HY2 := hide (HX2.out.below hb)
            clear hb
            go_wp2_with fail
            refine ((sameLs_any (some ⟨g1, 0, none⟩) (some ⟨g2, 0, none⟩) L L cap1 cap2 w5 HY1.out HY2.out HLL.out).mono fun e w' h => (show e = .returned (.bool true) ∧ Below w5.heap.size w5 w' from ⟨by rw [h.1, sameL_iff.2 rfl], h.2⟩)).mono ?_
            rintro e w6 ⟨rfl, hb⟩
            have HB6 := hide (below_one HB5.out hb)
            clear hb
            go_wp2_with fail
            go_ret
            exact ⟨by simp, HB6.out⟩
end Go.Proofs.YtalgceplcahgbaaDoor
