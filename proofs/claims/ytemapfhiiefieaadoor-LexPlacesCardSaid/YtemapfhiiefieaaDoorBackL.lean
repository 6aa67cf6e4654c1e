/- LexBack: its walk. -/
import Derived.Test.YtemapfhiiefieaaDoorJn
namespace Go.Proofs.YtemapfhiiefieaaDoor
open Go.RowKit

theorem text_len (t : Tok) : t.text.data.toList.length = t.text.size := Array.length_toList
theorem mem_sumT : ∀ {l : List Tok} {t : Tok}, t ∈ l → t.text.size ≤ sumT l
  | u :: l, t, h => by
    have e : sumT (u :: l) = u.text.size + sumT l := rfl
    rcases List.mem_cons.1 h with rfl | h
    · omega
    · have := mem_sumT h
      omega
theorem small_text {l : List Tok} (hS : Small l) (hF : ∀ t ∈ l, t.Fit) : (∀ t ∈ l, t.text.data.toList.length ≤ 1000000000 ∧ -9223372036854775808 ≤ t.n ∧ t.n ≤ 9223372036854775807) ∧ (joinT l).length ≤ 6400 := by
  constructor
  · intro t ht
    have h1 := mem_sumT ht
    have h2 := (hF t ht).2.1
    have h3 := hS.2
    refine ⟨?_, h2⟩
    rw [text_len t]
    omega
  · have := joinT_len 21 l (fun t ht => textT_any t (hF t ht).2.1)
    have h1 := hS.1
    have h2 := hS.2
    omega
/-- What Lex answers is valid; its text is read again. -/
theorem lexed_text (m : List UInt8) (xs : List Tk) (h : lexS m = .ok xs) (hm : m.length ≤ 3000) : xs.length ≤ 3000 ∧ (toks xs).all validT = true ∧ (∀ t ∈ toks xs, t.text.data.toList.length ≤ 1000000000 ∧ -9223372036854775808 ≤ t.n ∧ t.n ≤ 9223372036854775807) ∧ (joinT (toks xs)).length ≤ 45000 ∧ ∃ ys, lexS (joinT (toks xs)) = .ok ys ∧ samesT (toks xs) (toks ys) = true ∧ ys.length = (toks xs).length := by
  rw [lexS_R] at h
  obtain ⟨h1, h2, h3⟩ := lexR_ok m 0 xs h
  have hv := toks_valid h1
  have hs := sumT_toks xs
  refine ⟨by omega, hv, ?_, ?_, lex_join _ _ hv⟩
  · intro t ht
    have h4 := mem_sumT ht
    have h5 := List.all_eq_true.1 hv t ht
    have h7 : t.text.data.toList.length ≤ 1000000000 := by rw [text_len t]; omega
    obtain ⟨u, hu, rfl⟩ := List.mem_map.1 ht
    refine ⟨h7, by simp only; omega, ?_⟩
    have h6 := h1 u hu
    unfold Tk.ok at h6
    rw [validT_tk] at h6
    split at h6
    · simp only [Bool.and_eq_true, beq_iff_eq] at h6; simp only; omega
    · split at h6
      · simp only [Bool.and_eq_true, decide_eq_true_eq] at h6; simp only; omega
      · split at h6
        · simp only [Bool.and_eq_true, beq_iff_eq] at h6; simp only; omega
        · cases h6
  · have h4 := joinT_len 13 (toks xs) (fun t ht => textT_len t (List.all_eq_true.1 hv t ht))
    rw [List.length_map] at h4
    omega

set_option maxRecDepth 10000 in
set_option maxHeartbeats 1600000 in
theorem back_walk (A : Option Addr) (l : List Tok) (ca : Nat) (m : List UInt8) (w : World) (hT : Tab w) (hP : Pow w) (hl : l.length * 40 ≤ 140737488351232) (hA : Toks w A l) (hF : ∀ t ∈ l, t.Fit) (hm : m.length ≤ 140737488351232) :
    Calls Tryd.prog 5 #[.slice A l.length ca, .string (str m)] w fun e w' => e = .returned (.bool true) ∧ Below w.heap.size w w' := by
  have H0 := hide ((Ks.new hT hP).more hA)
  have HF := hide hF
  have hs := str_size m
  clear hT hP hA hF
  go_enter Tryd.func5, Tryd.ntmps5
  go_wp2_with fail
  with_reducible refine (sane_any w H0.out.tab H0.out.pow).mono ?_
  rintro e w1 ⟨rfl, hb⟩
  have H1 := hide (H0.out.later hb)
  clear hb H0
  go_wp2_with fail
  refine (rfew_any A l ca w1 hl (H1.out.at (by simp)) HF.out).mono ?_
  rintro e w2 ⟨r, rfl, hr, hb⟩
  have H2 := hide (H1.out.later hb)
  clear hb H1
  cases r with
  | false =>
    go_wp2_with fail
    go_ret
    exact ⟨rfl, H2.out.1.1⟩
  | true =>
    have HS := hide (hr rfl)
    clear hr
    by_cases h6 : 3000 < m.length
    · have h6d : decide ((3000 : Int) < (m.length : Int)) = true := by simp; omega
      go_wp2_with fail
      go_ret
      exact ⟨rfl, H2.out.1.1⟩
    · have h6d : decide ((3000 : Int) < (m.length : Int)) = false := by simp; omega
      have HV := hide (small_text HS.out HF.out)
      have hl2 := HS.out.1
      cases hv : l.all validT with
      | false =>
        have HR := hide (text_bad A l l.length ca w2 rfl (by omega) (H2.out.at (by simp)) H2.out.tab H2.out.pow HV.out.1 (by have := HV.out.2; omega) hv)
        clear hv
        go_wp2_with fail
        refine HR.out.mono ?_
        rintro e w3 ⟨rfl, hb⟩
        have H3 := hide (H2.out.later hb)
        clear hb H2 HR
        go_wp2_with fail
        refine (lex_ans m w3 H3.out.tab (by omega)).mono ?_
        rintro e x2 ⟨ha, hb⟩
        have K2 := hide (H3.out.later hb)
        clear hb
        cases hx : lexS m with
        | error p =>
          rw [hx] at ha
          obtain rfl := ha
          go_wp2_with fail
          go_ret
          exact ⟨rfl, K2.out.1.1⟩
        | ok xs =>
          rw [hx] at ha
          obtain ⟨A2, c2, rfl, ht2, _⟩ := ha
          have K3 := hide (K2.out.more ht2)
          clear ht2 K2
          have HOK := hide (lexed_text m xs hx (by omega))
          go_wp2_with fail
          refine (text_ok A2 (toks xs) xs.length c2 (joinT (toks xs)) x2 (by simp) (by have := HOK.out.1; omega) (K3.out.at (by simp)) K3.out.tab K3.out.pow HOK.out.2.2.1 rfl (by have := HOK.out.2.2.2.1; omega) HOK.out.2.1).mono ?_
          rintro e x4 ⟨rfl, hb⟩
          have K4 := hide (K3.out.later hb)
          clear hb K3
          obtain ⟨ys, hy, hsame, hlen⟩ := HOK.out.2.2.2.2
          go_wp2_with fail
          refine (lex_okn (joinT (toks xs)) ys xs.length x4 K4.out.tab (by have := HOK.out.2.2.2.1; omega) hy (by simp [hlen])).mono ?_
          rintro e x5 ⟨A5, c5, rfl, ht5, hb⟩
          have K5 := hide ((K4.out.later hb).more ht5)
          clear hb ht5 K4
          go_wp2_with fail
          refine (same_is A2 A5 (toks xs) (toks ys) xs.length xs.length c2 c5 true x5 (by simp) (by simp [hlen]) (by have := HOK.out.1; omega) (K5.out.at (by simp)) (K5.out.at (by simp)) hsame).mono ?_
          rintro e x6 ⟨rfl, hb⟩
          have K6 := hide (K5.out.later hb)
          clear hb K5
          go_wp2_with fail
          go_ret
          exact ⟨rfl, K6.out.1.1⟩
      | true =>
        obtain ⟨ts, hts, hsame0, hlen0⟩ := lex_join l 0 hv
        rw [← lexS_R] at hts
        have HTS := hide hts
        have HSM := hide hsame0
        have HR := hide (text_ok A l l.length ca (joinT l) w2 rfl (by omega) (H2.out.at (by simp)) H2.out.tab H2.out.pow HV.out.1 rfl (by have := HV.out.2; omega) hv)
        clear hv hts hsame0
        go_wp2_with fail
        refine HR.out.mono ?_
        rintro e w3 ⟨rfl, hb⟩
        have H3 := hide (H2.out.later hb)
        clear hb H2 HR
        go_wp2_with fail
        refine (lex_okn (joinT l) ts l.length w3 H3.out.tab (by have := HV.out.2; omega) HTS.out hlen0).mono ?_
        rintro e w4 ⟨A4, c4, rfl, ht4, hb⟩
        have H4 := hide ((H3.out.later hb).more ht4)
        clear hb ht4 H3
        go_wp2_with fail
        refine (same_is A A4 l (toks ts) l.length l.length ca c4 true w4 rfl (by simp [hlen0]) (by omega) (H4.out.at (by simp)) (H4.out.at (by simp)) HSM.out).mono ?_
        rintro e w5 ⟨rfl, hb⟩
        have H5 := hide (H4.out.later hb)
        clear hb H4
        go_wp2_with fail
        refine (lex_ans m w5 H5.out.tab (by omega)).mono ?_
        rintro e x2 ⟨ha, hb⟩
        have K2 := hide (H5.out.later hb)
        clear hb
        cases hx : lexS m with
        | error p =>
          rw [hx] at ha
          obtain rfl := ha
          go_wp2_with fail
          go_ret
          exact ⟨rfl, K2.out.1.1⟩
        | ok xs =>
          rw [hx] at ha
          obtain ⟨A2, c2, rfl, ht2, _⟩ := ha
          have K3 := hide (K2.out.more ht2)
          clear ht2 K2
          have HOK := hide (lexed_text m xs hx (by omega))
          go_wp2_with fail
          refine (text_ok A2 (toks xs) xs.length c2 (joinT (toks xs)) x2 (by simp) (by have := HOK.out.1; omega) (K3.out.at (by simp)) K3.out.tab K3.out.pow HOK.out.2.2.1 rfl (by have := HOK.out.2.2.2.1; omega) HOK.out.2.1).mono ?_
          rintro e x4 ⟨rfl, hb⟩
          have K4 := hide (K3.out.later hb)
          clear hb K3
          obtain ⟨ys, hy, hsame, hlen⟩ := HOK.out.2.2.2.2
          go_wp2_with fail
          refine (lex_okn (joinT (toks xs)) ys xs.length x4 K4.out.tab (by have := HOK.out.2.2.2.1; omega) hy (by simp [hlen])).mono ?_
          rintro e x5 ⟨A5, c5, rfl, ht5, hb⟩
          have K5 := hide ((K4.out.later hb).more ht5)
          clear hb ht5 K4
          go_wp2_with fail
          refine (same_is A2 A5 (toks xs) (toks ys) xs.length xs.length c2 c5 true x5 (by simp) (by simp [hlen]) (by have := HOK.out.1; omega) (K5.out.at (by simp)) (K5.out.at (by simp)) hsame).mono ?_
          rintro e x6 ⟨rfl, hb⟩
          have K6 := hide (K5.out.later hb)
          clear hb K5
          go_wp2_with fail
          go_ret
          exact ⟨rfl, K6.out.1.1⟩
theorem back_any (A : Option Addr) (l : List Tok) (ca : Nat) (s : ByteArray) (w : World) (h : Tab w ∧ Pow w) (hl : l.length * 40 ≤ 140737488351232) (hA : Toks w A l) (hF : ∀ t ∈ l, t.Fit) (hs : s.size ≤ 140737488351232) :
    Calls Tryd.prog 5 #[.slice A l.length ca, .string s] w fun e w' => e = .returned (.bool true) ∧ Below w.heap.size w w' := by
  have := back_walk A l ca s.data.toList w h.1 h.2 hl hA hF (by simpa using hs)
  rwa [str_data] at this
end Go.Proofs.YtemapfhiiefieaaDoor
