/- MerkleSpec's walk. -/
import Derived.Test.YthjfeodclphgaaaDoorOpn
import Derived.Test.YthjfeodclphgaaaDoorLw
import Derived.Test.YthjfeodclphgaaaDoorRsa
namespace Go.Proofs.YthjfeodclphgaaaDoor
open Go.RowKit Go.Shelf
/-- What Prove answers, of both. -/
def PrvP (p : List (List UInt8)) (e0 : Int) (W : World) (e : Ending) (w' : World) : Prop :=
  ∃ (A : Option Addr) (c : Nat), e = .returned (.tuple #[.slice A p.length c, .int .i64 e0]) ∧ Ds w' A p ∧ Below W.heap.size W w'
theorem prove_both (PA : Option Addr) (pl : List Lf) (pc : Nat) (i : Int) (w : World) (hT : Tab w) (hl : LvIn w PA pl) (hn : pl.length ≤ 40) :
    ∃ (p : List (List UInt8)) (e0 : Int), D32 p ∧ p.length ≤ 16 ∧ (∀ W, Below w.heap.size w W → Calls Tryd.prog 36 #[.slice PA pl.length pc, .int .i64 i] W (PrvP p e0 W)) ∧
      (∀ W, Below w.heap.size w W → Calls Tryd.prog 37 #[.slice PA pl.length pc, .int .i64 i] W (PrvP p e0 W)) := by
  by_cases hi : 0 ≤ i ∧ i < pl.length
  · obtain ⟨k, rfl⟩ : ∃ k : Nat, i = (k : Nat) := ⟨i.toNat, by omega⟩
    have hk : k < pl.length := by omega
    have hd : D32 (proveR sha tagN (rowF pl) k) := proveR_32 pl.length _ _ (by rw [rowF_len]; exact Nat.le_refl _) (by rw [rowF_len]; exact hk) (rowF_32 pl)
    refine ⟨proveR sha tagN (rowF pl) k, 0, hd, prove_16 (by omega), fun W h => (prove_yes PA pl pc k W (hT.below h) (hl.below h) hk (by omega)).mono ?_, fun W h => (rprove_yes PA pl pc k W (hl.below h) hk (by omega)).mono ?_⟩ <;>
    · rintro e w' ⟨A, c, he, ho, hb⟩
      obtain ⟨A', c', e', hds⟩ := own_dsrc ho hd rfl
      cases e'
      exact ⟨A, c, he, hds.ds, hb⟩
  · have hL : leafB (pl.length : Nat) i = false := by unfold leafB; simp; omega
    refine ⟨[], 1, (fun d h => by cases h), by simp, fun W _ => (prove_no PA pl.length pc i W hL).mono ?_, fun W _ => (rprove_no PA pl.length pc i W hL).mono ?_⟩ <;>
    · rintro e w' ⟨he, hb⟩
      exact ⟨none, 0, he, (fun h => absurd rfl h), hb⟩
set_option maxRecDepth 20000 in
set_option maxHeartbeats 6400000 in
theorem spec_walk (PA : Option Addr) (pl : List Lf) (pc : Nat) (i : Int) (w : World) (hT : Tab w) (hr : LvRaw w PA pl) (hn : pl.length ≤ 9223372036854775807) :
    Calls Tryd.prog 11 #[.slice PA pl.length pc, .int .i64 i] w (LawPost w) := by
  have HT := hide hT
  have HR := hide hr
  have HS := hide (sane_any w hT)
  clear hT hr
  go_enter Tryd.func11, Tryd.ntmps11
  go_wp2_with fail
  refine HS.out.mono ?_
  rintro e w1 ⟨rfl, hb⟩
  have HB1 := hide hb
  clear hb HS
  go_wp2_with fail
  refine (few_any PA pl pc w1 (HR.out.below HB1.out).cel hn HR.out.big).mono ?_
  rintro e w2 ⟨rfl, rfl⟩
  cases hf : fewB pl with
  | false =>
    clear hf
    go_wp2_with fail
    go_ret
    exact ⟨rfl, HB1.out⟩
  | true =>
    have HF := hide hf
    clear hf
    have HV := hide ((HR.out.below HB1.out).lv HF.out)
    have hn40 := (few_spec HF.out).1
    have HTW := hide (HT.out.below HB1.out)
    clear hn
    obtain ⟨p, e0, hd, h16, h36, h37⟩ := prove_both PA pl pc i w1 HTW.out HV.out hn40
    have HD := hide hd
    have H36 := hide h36
    have H37 := hide h37
    have HRT := hide (fun (W : World) (h : Below w1.heap.size w1 W) => root_any PA pl pc W (HTW.out.below h) (HV.out.below h) (by omega))
    have HRR := hide (fun (W : World) (h : Below w1.heap.size w1 W) => rroot_any PA pl pc W (HV.out.below h) (by omega))
    have HRB := hide (rootB_len pl)
    clear hd h36 h37
    generalize rootB pl = r at *
    go_wp2_with fail
    refine (H36.out w1 (Below.refl _ _)).mono ?_
    rintro e w3 ⟨A, c, rfl, hds, hb⟩
    have H3 := hide (And.intro hds hb)
    clear hds hb
    go_wp2_with fail
    refine (H37.out w3 H3.out.2).mono ?_
    rintro e w4 ⟨A', c', rfl, hds, hb⟩
    have H4 := hide (And.intro (H3.out.1.below hb) (And.intro hds (below_one H3.out.2 hb)))
    clear hds hb
    go_wp2_with fail
    refine (HRT.out w4 H4.out.2.2).mono ?_
    rintro e w5 ⟨rfl, hb⟩
    have H5 := hide (And.intro (H4.out.1.below hb) (And.intro (H4.out.2.1.below hb) (below_one H4.out.2.2 hb)))
    clear hb
    go_wp2_with fail
    refine (HRR.out w5 H5.out.2.2).mono ?_
    rintro e w6 ⟨rfl, hb⟩
    have H6 := hide (And.intro (H5.out.1.below hb) (And.intro (H5.out.2.1.below hb) (below_one H5.out.2.2 hb)))
    clear hb
    go_wp2_with (refine wpList_eql2 (by rfl) (.tmp 27) (.tmp 29) 26 rfl r r rfl rfl HRB.out HRB.out true (by simp) ?_)
    refine (rsame_any p p.length c c' A A' w6 HD.out H6.out.1 H6.out.2.1 rfl (by omega)).mono ?_
    rintro e w7 ⟨rfl, hb⟩
    have H7 := hide (below_one H6.out.2.2 hb)
    clear hb
    go_wp2_with fail
    go_ret
    exact ⟨by simp, below_one HB1.out H7.out⟩
end Go.Proofs.YthjfeodclphgaaaDoor
