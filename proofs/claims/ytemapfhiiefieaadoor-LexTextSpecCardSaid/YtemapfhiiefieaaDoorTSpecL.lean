/- LexTextSpec: its walk. -/
import Derived.Test.YtemapfhiiefieaaDoorRtxt
import Derived.Deep.RegionHeld3
namespace Go.Proofs.YtemapfhiiefieaaDoor
open Go.RowKit

theorem samesT_refl : ∀ l : List Tok, samesT l l = true
  | [] => rfl
  | t :: l => by simp [samesT, sameT, samesT_refl l]

set_option maxRecDepth 10000 in
set_option maxHeartbeats 1600000 in
theorem tspec_walk (A C : Option Addr) (l m : List Tok) (ca cb : Nat) (s : List UInt8) (w : World) (hT : Tab w) (hP : Pow w) (hl : l.length * 40 ≤ 140737488351232) (hm : m.length * 40 ≤ 140737488351232) (hA : Toks w A l) (hC : Toks w C m) (hF : ∀ t ∈ l, t.Fit) (hG : ∀ t ∈ m, t.Fit) (hs : s.length ≤ 140737488351232) :
    Calls Tryd.prog 4 #[.slice A l.length ca, .slice C m.length cb, .string (str s)] w fun e w' => e = .returned (.bool true) ∧ Below w.heap.size w w' := by
  have H0 := hide (((Ks.new hT hP).more hA).more hC)
  have HF := hide hF
  have HG := hide hG
  have hss := str_size s
  clear hT hP hA hF hG hC
  go_enter Tryd.func4, Tryd.ntmps4
  go_wp2_with fail
  with_reducible refine (sane_any w H0.out.tab H0.out.pow).mono ?_
  rintro e w1 ⟨rfl, hb⟩
  have H1 := hide (H0.out.later hb)
  clear hb H0
  go_wp2_with fail
  refine (rfew_any A l ca w1 hl (H1.out.at (by simp)) HF.out).mono ?_
  rintro e w2 ⟨r, rfl, hr, hb⟩
  have H2 := hide (H1.out.later hb)
  clear hb H1
  cases r with
  | false =>
    go_wp2_with fail
    go_ret
    exact ⟨rfl, H2.out.1.1⟩
  | true =>
    have HS := hide (hr rfl)
    clear hr
    go_wp2_with fail
    refine (rfew_any C m cb w2 hm (H2.out.at (by simp)) HG.out).mono ?_
    rintro e w3 ⟨r, rfl, hr, hb⟩
    have H3 := hide (H2.out.later hb)
    clear hb H2
    cases r with
    | false =>
      go_wp2_with fail
      go_ret
      exact ⟨rfl, H3.out.1.1⟩
    | true =>
      have HS2 := hide (hr rfl)
      clear hr
      by_cases h6 : 1000 < s.length
      · have h6d : decide ((1000 : Int) < (s.length : Int)) = true := by simp; omega
        go_wp2_with fail
        go_ret
        exact ⟨rfl, H3.out.1.1⟩
      · have h6d : decide ((1000 : Int) < (s.length : Int)) = false := by simp; omega
        have HV := hide (small_text HS.out HF.out)
        have HLE := hide HS.out.1
        go_wp2_with fail
        refine (text16_any A l ca w3 (by have := HLE.out; omega) (H3.out.at (by simp)) H3.out.tab H3.out.pow HV.out.1 (by have := HV.out.2; omega)).mono ?_
        rintro e w4 ⟨he, hb⟩
        have H4 := hide (H3.out.later hb)
        clear hb H3
        have HR := hide (rtext_any A l ca w4 (by have := HLE.out; omega) (H4.out.at (by simp)) (fun t ht => (HV.out.1 t ht).1))
        obtain ⟨X, E, hXE⟩ : ∃ X E, (if l.all validT = true then Value.tuple #[.string ⟨(joinT l).toArray⟩, .int .i64 0] else .tuple #[.string ⟨#[]⟩, .int .i64 30]) = .tuple #[.string X, .int .i64 E] := by
          cases l.all validT
          · exact ⟨_, _, rfl⟩
          · exact ⟨_, _, rfl⟩
        have HXE := hide hXE
        clear hXE
        rw [HXE.out] at he
        subst he
        go_wp2_with fail
        refine HR.out.mono ?_
        rintro e w5 ⟨he, hb⟩
        rw [HXE.out] at he
        subst he
        have H5 := hide (H4.out.later hb)
        clear hb H4 HR HXE
        have hXX : decide (X.toList = X.toList) = true := by simp
        go_wp2_with fail
        clear hXX
        have HLL := hide HS2.out.1
        refine (same_any A C l m ca cb w5 (by have := HLE.out; omega) (H5.out.at (by simp)) (H5.out.at (by simp))).mono ?_
        rintro e w6 ⟨rfl, hb⟩
        have H6 := hide (H5.out.later hb)
        have HRS := hide (rsame_any A C l m ca cb w6 (by have := HLE.out; omega) (H6.out.at (by simp)) (H6.out.at (by simp)))
        generalize samesT l m = q at *
        clear hb H5
        go_wp2_with fail
        refine HRS.out.mono ?_
        rintro e w7 ⟨rfl, hb⟩
        have H7 := hide (H6.out.later hb)
        clear hb H6 HRS
        have hqq : (q == q) = true := by simp
        go_wp2_with fail
        clear hqq
        refine (same_is A A l l l.length l.length ca ca true w7 rfl rfl (by have := HLE.out; omega) (H7.out.at (by simp)) (H7.out.at (by simp)) (samesT_refl l)).mono ?_
        rintro e w8 ⟨rfl, hb⟩
        have H8 := hide (H7.out.later hb)
        clear hb H7
        go_wp2_with fail
        refine (name_any s w8 H8.out.tab (by omega)).mono ?_
        rintro e _ ⟨rfl, rfl⟩
        go_wp2_with fail
        refine (rname_any s w8 (by omega)).mono ?_
        rintro e _ ⟨rfl, rfl⟩
        generalize nameB s = z at *
        go_wp2_with fail
        go_ret
        exact ⟨by cases z <;> rfl, H8.out.1.1⟩
theorem tspec_any (A C : Option Addr) (l m : List Tok) (ca cb : Nat) (s : ByteArray) (w : World) (h : Tab w ∧ Pow w) (hl : l.length * 40 ≤ 140737488351232) (hm : m.length * 40 ≤ 140737488351232) (hA : Toks w A l) (hC : Toks w C m) (hF : ∀ t ∈ l, t.Fit) (hG : ∀ t ∈ m, t.Fit) (hs : s.size ≤ 140737488351232) :
    Calls Tryd.prog 4 #[.slice A l.length ca, .slice C m.length cb, .string s] w fun e w' => e = .returned (.bool true) ∧ Below w.heap.size w w' := by
  have := tspec_walk A C l m ca cb s.data.toList w h.1 h.2 hl hm hA hC hF hG (by simpa using hs)
  rwa [str_data] at this
end Go.Proofs.YtemapfhiiefieaaDoor
