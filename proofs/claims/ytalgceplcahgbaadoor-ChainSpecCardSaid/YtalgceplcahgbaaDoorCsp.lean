/- ChainSpec answers true. -/
import Derived.Test.YtalgceplcahgbaaDoorRck
import Derived.Test.YtalgceplcahgbaaDoorSan
namespace Go.Proofs.YtalgceplcahgbaaDoor
open Go.RowKit Go.Shelf

set_option maxRecDepth 20000 in
set_option maxHeartbeats 6400000 in
theorem cspec_walk (A : Option Addr) (l : List Lr) (ca : Nat) (w : World) (hT : Tab w) (hl : Lks w A l) (hlc : l.length ≤ ca) (hcx : ca ≤ 9223372036854775807) :
    Calls Tryd.prog 11 #[.slice A l.length ca] w (LawPost w) := by
  have HT := hide hT
  have HL := hide hl
  clear hT hl
  have HSA := hide (sane_any w HT.out)
  have HF1 := hide (fun (W : World) (h : Below w.heap.size w W) => few_any A l ca W (HL.out.below h) (by omega))
  cases hfl : fewL l with
  | false =>
    rw [hfl] at HF1
    clear hfl
    go_enter Tryd.func11, Tryd.ntmps11
    go_wp2_with fail
    refine HSA.out.mono ?_
    rintro e w1 ⟨rfl, hb⟩
    have HB1 := hide hb
    clear hb HSA
    go_wp2_with fail
    refine (HF1.out _ HB1.out).mono ?_
    rintro e wz ⟨rfl, rfl⟩
    go_wp2_with fail
    go_ret
    exact ⟨rfl, HB1.out⟩
  | true =>
    have HSP := hide (fewL_spec hfl)
    have HSL := hide (fewL_short hfl)
    have HC1 := hide (fun (W : World) (h : Below w.heap.size w W) => check_any A l ca W (HT.out.below h) (HL.out.below h) hlc hcx HSL.out)
    have HC2 := hide (fun (W : World) (h : Below w.heap.size w W) => rcheck_any A l ca W (HL.out.below h) hlc hcx HSP.out.2 HSP.out.1)
    have HH1 := hide (fun (W : World) (h : Below w.heap.size w W) => head_any A l ca W (HT.out.below h) (HL.out.below h) hlc hcx HSL.out)
    have HH2 := hide (fun (W : World) (h : Below w.heap.size w W) => rhead_any A l ca W (HL.out.below h) hlc hcx HSL.out)
    have H32 := hide (hdA_32 (lnks l))
    rw [hfl] at HF1
    clear hfl
    generalize hdA (lnks l) = g at *
    generalize chkA hd0 hdL (lnks l) = v at *
    have hvv : (v == v) = true := by simp
    have HVE := hide (show true = (g == g) by simp)
    go_enter Tryd.func11, Tryd.ntmps11
    go_wp2_with fail
    refine HSA.out.mono ?_
    rintro e w1 ⟨rfl, hb⟩
    have HB1 := hide hb
    clear hb HSA
    go_wp2_with fail
    refine (HF1.out _ HB1.out).mono ?_
    rintro e wz ⟨rfl, rfl⟩
    go_wp2_with fail
    refine (HC1.out _ HB1.out).mono ?_
    rintro e w2 ⟨rfl, hb⟩
    have HB2 := hide (below_one HB1.out hb)
    clear hb
    go_wp2_with fail
    refine (HC2.out _ HB2.out).mono ?_
    rintro e w3 ⟨rfl, hb⟩
    have HB3 := hide (below_one HB2.out hb)
    clear hb
    go_wp2_with fail
    refine (HH1.out _ HB3.out).mono ?_
    rintro e w4 ⟨rfl, hb⟩
    have HB4 := hide (below_one HB3.out hb)
    clear hb
    go_wp2_with fail
    refine (HH2.out _ HB4.out).mono ?_
    rintro e w5 ⟨rfl, hb⟩
    have HB5 := hide (below_one HB4.out hb)
    clear hb
    go_wp2_with (refine wpList_eqlD rfl (.tmp 15) (.tmp 17) 26 rfl g g rfl rfl H32.out H32.out _ HVE.out ?_)
    go_ret
    exact ⟨rfl, HB5.out⟩
end Go.Proofs.YtalgceplcahgbaaDoor
