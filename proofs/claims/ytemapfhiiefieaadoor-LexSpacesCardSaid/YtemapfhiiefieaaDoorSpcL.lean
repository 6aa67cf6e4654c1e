/- LexSpaces: its walk. -/
import Derived.Test.YtemapfhiiefieaaDoorGap
namespace Go.Proofs.YtemapfhiiefieaaDoor
open Go.RowKit

theorem Byts.below {w w' : World} {A : Option Addr} {l : List UInt8} (h : Byts w A l) (hb : Below w.heap.size w w') : Byts w' A l := fun i hi => by
  obtain ⟨b, o, e, hlt, hc⟩ := h i hi
  refine ⟨b, o, e, Nat.lt_of_lt_of_le hlt hb.size, ?_⟩
  rw [World.cell?_of_block (a := ⟨b, o + i, none⟩) (hb.block b hlt)]; exact hc

theorem sumT_take_le (l : List Tok) (k : Nat) : sumT (l.take k) ≤ sumT l := by
  have h : sumT (l.take k ++ l.drop k) = sumT (l.take k) + sumT (l.drop k) := by unfold sumT; rw [List.map_append, List.sum_append]
  rw [List.take_append_drop] at h
  omega
theorem gaps_blk (w W : World) (ws : List UInt8) (h : W = w.alloc (.cells #[.string ⟨#[32]⟩, .string ⟨#[9]⟩, .string ⟨#[10]⟩, .string ⟨#[13, 10]⟩, .string ⟨#[32, 32]⟩, .string ((⟨#[47, 47]⟩ : ByteArray) ++ str ws ++ (⟨#[10]⟩ : ByteArray)), .string ⟨#[32, 47, 47, 32, 10]⟩, .string ⟨#[10, 47, 47, 10]⟩] 9)) :
    Blk W w.heap.size 9 ((gaps ws).map fun g => .string (str g)) ∧ Below w.heap.size w W := by
  subst h
  refine ⟨?_, below_new _ _⟩
  have e : (⟨#[47, 47]⟩ : ByteArray) ++ str ws ++ (⟨#[10]⟩ : ByteArray) = str (47 :: 47 :: ws ++ [10]) := by
    rw [show (⟨#[47, 47]⟩ : ByteArray) = str [47, 47] from rfl, show (⟨#[10]⟩ : ByteArray) = str [10] from rfl, str_app, str_app]
    rfl
  rw [e]
  exact Blk.new w 9 _

set_option maxRecDepth 10000 in
set_option maxHeartbeats 1600000 in
theorem spaces_walk (A C : Option Addr) (l : List Tok) (ca : Nat) (u : List UInt8) (cu : Nat) (nt : List UInt8) (w : World) (hT : Tab w) (hP : Pow w) (hl : l.length * 40 ≤ 140737488351232) (hA : Toks w A l) (hF : ∀ t ∈ l, t.Fit) (hC : Byts w C u) (hn : nt.length ≤ 140737488351232) :
    Calls Tryd.prog 8 #[.slice A l.length ca, .slice C u.length cu, .string (str nt)] w fun e w' => e = .returned (.bool true) ∧ Below w.heap.size w w' := by
  have H0 := hide ((Ks.new hT hP).more hA)
  have HC0 := hide hC
  have HF := hide hF
  have hs := str_size nt
  clear hT hP hA hF hC
  go_enter Tryd.func8, Tryd.ntmps8
  go_wp2_with fail
  with_reducible refine (sane_any w H0.out.tab H0.out.pow).mono ?_
  rintro e w1 ⟨rfl, hb⟩
  have H1 := hide (H0.out.later hb)
  have HC1 := hide (HC0.out.below hb)
  clear hb H0 HC0
  go_wp2_with fail
  refine (rfew_any A l ca w1 hl (H1.out.at (by simp)) HF.out).mono ?_
  rintro e w2 ⟨r, rfl, hr, hb⟩
  have H2 := hide (H1.out.later hb)
  have HC2 := hide (HC1.out.below hb)
  clear hb H1 HC1
  cases r with
  | false =>
    go_wp2_with fail
    go_ret
    exact ⟨rfl, H2.out.1.1⟩
  | true =>
    have HS := hide (hr rfl)
    clear hr
    by_cases h6 : 100 < nt.length
    · have h6d : decide ((100 : Int) < (nt.length : Int)) = true := by simp; omega
      go_wp2_with fail
      go_ret
      exact ⟨rfl, H2.out.1.1⟩
    · have h6d : decide ((100 : Int) < (nt.length : Int)) = false := by simp; omega
      have HV := hide (small_text HS.out HF.out)
      have hl2 := HS.out.1
      go_wp2_with fail
      go_loop [7, 8] (fun x i => ∃ k : Nat, k ≤ nt.length ∧ i = .int .i64 k ∧ x = .string (str (plain (nt.take k))) ∧ (plain (nt.take k)).length ≤ k) (fun _ i => nt.length - (intOf i).toNat)
      case atStart => exact ⟨0, Nat.zero_le _, rfl, rfl, by simp [plain]⟩
      case round =>
        obtain ⟨k, hk, rfl, rfl, hpl⟩ := hrel
        have hps := str_size (plain (nt.take k))
        by_cases hlt : k < nt.length
        · have hg : (str nt)[k]'(by rw [hs]; exact hlt) = nt[k] := rfl
          have HTK := hide (plain_take hlt)
          have hc256 := nt[k].toNat_lt
          have HSL := hide (show (str nt).extract k (k + 1) = str [nt[k]] by
            apply ByteArray.ext
            simp [ByteArray.data_extract]
            rw [List.take_one, List.head?_drop, List.getElem?_eq_getElem hlt]
            rfl)
          generalize nt[k] = c at *
          by_cases h10 : c.toNat = 10
          · have e1 : ((c.toNat : Int) != 10) = false := by simp; omega
            rw [if_pos h10, List.append_nil] at HTK
            clear h10
            go_wp2_with fail
            exact ⟨⟨k + 1, by omega, by go_num, by rw [HTK.out], by rw [HTK.out]; omega⟩, by simp [intOf]; omega⟩
          · have e1 : ((c.toNat : Int) != 10) = true := by simp; omega
            rw [if_neg h10] at HTK
            have hsl := HSL.out
            have hs1 := str_size [c]
            clear h10
            go_wp2_with fail
            exact ⟨⟨k + 1, by omega, by go_num, by rw [HTK.out, str_app], by rw [HTK.out, List.length_append]; simp; omega⟩, by simp [intOf]; omega⟩
        · obtain rfl : k = nt.length := by omega
          rw [List.take_length] at hpl hps
          rw [List.take_length]
          have HPN := hide (plain_ne nt)
          generalize plain nt = ws at *
          go_wp2_with fail
          refine name_code ?_
          intro W3 HW3
          obtain ⟨hblk, hbw⟩ := gaps_blk w2 W3 ws HW3.out
          have HBK := hide hblk
          have H3 := hide (H2.out.later hbw)
          have HC3 := hide (HC2.out.below hbw)
          have HGS := hide (fun g hg => gaps_short (ws := ws) (by omega) g hg)
          have HGG := hide (gaps_gap HPN.out)
          have HXL := hide hblk.lt
          have HL8 := hide (gaps_len ws)
          clear hblk hbw HW3 H2 HC2 hk hlt hpl hps
          generalize gaps ws = gs at *
          clear HPN
          go_loopw [10, 54] (fun x i wr => ∃ (k : Nat) (S : List UInt8), k ≤ l.length ∧ i = .int .i64 k ∧ x = .string (str S) ∧ Hid (Sofar S (l.take k)) ∧ Hid (Below W3.heap.size W3 wr)) (fun _ i _ => l.length - (intOf i).toNat)
          case atStart => exact ⟨0, [10], Nat.zero_le _, rfl, rfl, hide Sofar.start, hide (Below.refl _ _)⟩
          case round =>
            obtain ⟨k, S, hk, rfl, rfl, HSF, HB⟩ := hrel
            have hsl : S.length ≤ 30000 := by
              have h1 := HSF.out.2.1
              have h2 := sumT_take_le l k
              have h3 := HS.out.2
              rw [List.length_take] at h1
              omega
            have hss := str_size S
            have HR := hide (H3.out.later HB.out)
            have HCR := hide (HC3.out.below HB.out)
            by_cases hlt : k < l.length
            · obtain ⟨b, o, rfl, hblt, c0, c1, c2, c3⟩ := (HR.out.at (A := A) (l := l) (by simp)) k hlt
              have HTK := hide (List.take_succ_eq_append_getElem hlt)
              have HAF := hide (all_false hlt)
              have HVK := hide (HV.out.1 l[k] (List.getElem_mem hlt))
              have htl := (HV.out.1 l[k] (List.getElem_mem hlt)).1
              rw [text_len] at htl
              have HMS := mem_sumT (List.getElem_mem hlt)
              have HSM2 := HS.out.2
              generalize l[k] = t at *
              obtain ⟨tk, s, n, p⟩ := t
              simp only at c0 c1 c2 c3 htl HMS
              go_wp2_with fail
              refine name_world ?_
              intro W4 HW4
              have HB4 : Hid (Below wr.heap.size wr W4 ∧ Toks W4 (some ⟨wr.heap.size + 1, 0, none⟩) [⟨tk, s, n, p⟩]) := by
                have e := HW4.out
                subst e
                refine hide ⟨below_one (below_new _ _) (below_new _ _), ?_⟩
                have := tok_new (wr.alloc (.cells #[.int .i64 tk, .string s, .int .i64 n, .int .i64 p] 35)) tk n p s
                rw [show (wr.alloc (.cells #[.int .i64 tk, .string s, .int .i64 n, .int .i64 p] 35)).heap.size = wr.heap.size + 1 by simp] at this
                exact this
              have H4 := hide (HR.out.later HB4.out.1)
              have HC4 := hide (HCR.out.below HB4.out.1)
              clear HW4 c0 c1 c2 c3
              have hta := textT_any ⟨tk, s, n, p⟩ HVK.out.2
              simp only at hta
              cases hv : validT ⟨tk, s, n, p⟩ with
              | false =>
                have HX := hide (HAF.out hv)
                have HVV := hide (show ([⟨tk, s, n, p⟩] : List Tok).all validT = false by simp [hv])
                clear hv
                refine (text_bad _ [⟨tk, s, n, p⟩] 1 1 W4 rfl (by omega) HB4.out.2 H4.out.tab H4.out.pow (by intro t ht; obtain rfl := List.mem_singleton.1 ht; exact HVK.out) (by rw [joinT_one, show (textT ⟨tk, s, n, p⟩).data.toList.length = (textT ⟨tk, s, n, p⟩).size from Array.length_toList]; omega) HVV.out).mono ?_
                rintro e w5 ⟨rfl, hb⟩
                have H5 := hide (H4.out.later hb)
                clear hb H4
                go_wp2_with fail
                refine (text_bad _ l l.length ca w5 rfl (by omega) (H5.out.at (by simp)) H5.out.tab H5.out.pow HV.out.1 (by have := HV.out.2; omega) HX.out).mono ?_
                rintro e w6 ⟨rfl, hb⟩
                have H6 := hide (H5.out.later hb)
                clear hb H5
                go_wp2_with fail
                go_ret
                exact ⟨rfl, H6.out.1.1⟩
              | true =>
                have HVT := hide hv
                have HVV := hide (show ([⟨tk, s, n, p⟩] : List Tok).all validT = true by simp [hv])
                clear hv
                refine (text_ok _ [⟨tk, s, n, p⟩] 1 1 (textT ⟨tk, s, n, p⟩).data.toList W4 rfl (by omega) HB4.out.2 H4.out.tab H4.out.pow (by intro t ht; obtain rfl := List.mem_singleton.1 ht; exact HVK.out) (joinT_one _) (by rw [show (textT ⟨tk, s, n, p⟩).data.toList.length = (textT ⟨tk, s, n, p⟩).size from Array.length_toList]; omega) HVV.out).mono ?_
                rintro e w5 ⟨rfl, hb⟩
                have H5 := hide (H4.out.later hb)
                have HC5 := hide (HC4.out.below hb)
                have HB5 : Hid (Below W3.heap.size W3 w5) := hide (below_one (below_one HB.out HB4.out.1) hb)
                have HBK5 := hide (HBK.out.below HB5.out HXL.out)
                have hot := str_size (textT ⟨tk, s, n, p⟩).data.toList
                rw [show (textT ⟨tk, s, n, p⟩).data.toList.length = (textT ⟨tk, s, n, p⟩).size from Array.length_toList] at hot
                clear hb H4 HC4 HB4 HCR HR
                by_cases hku : k < u.length
                · have hkd : decide ((k : Int) < (u.length : Int)) = true := by simp; omega
                  obtain ⟨b', o', rfl, _, cb⟩ := HC5.out k hku
                  generalize u[k] = c at *
                  have hc256 := c.toNat_lt
                  obtain ⟨q, hq⟩ : ∃ q, c.toNat % 8 = q := ⟨_, rfl⟩
                  have hq8 : q < gs.length := by rw [HL8.out]; omega
                  have hmod : ((c.toNat : Int) % 8) = (q : Int) := by omega
                  have hcell : w5.cell? ⟨w2.heap.size, q, none⟩ = some (.string (str gs[q])) := by
                    rw [HBK5.out.cell]; simp [hq8]
                  have HGG2 := hide (HGG.out gs[q] (List.getElem_mem hq8))
                  have hgl := HGS.out gs[q] (List.getElem_mem hq8)
                  have hq8' : q < 8 := by rw [HL8.out] at hq8; exact hq8
                  generalize gs[q] = g at *
                  have hgs := str_size g
                  clear hq hq8 HMS
                  go_wp2_with fail
                  refine ⟨⟨k + 1, S ++ ((textT ⟨tk, s, n, p⟩).data.toList ++ [32] ++ g), by omega, by go_num, ?_, ?_, HB5⟩, by simp [intOf]; omega⟩
                  · rw [show (⟨#[32]⟩ : ByteArray) = str [32] from rfl, str_app, str_app, str_app]
                  · rw [HTK.out]
                    exact hide (HSF.out.more _ HVT.out g HGG2.out hgl)
                · have hkd : decide ((k : Int) < (u.length : Int)) = false := by simp; omega
                  go_wp2_with fail
                  refine ⟨⟨k + 1, S ++ ((textT ⟨tk, s, n, p⟩).data.toList ++ [32] ++ [32]), by omega, by go_num, ?_, ?_, HB5⟩, by simp [intOf]; omega⟩
                  · rw [show (⟨#[32]⟩ : ByteArray) = str [32] from rfl, str_app, str_app, str_app]
                  · rw [HTK.out]
                    exact hide (HSF.out.more _ HVT.out [32] (Gap.white (by decide)) (by simp))
            · obtain rfl : k = l.length := by omega
              rw [List.take_length] at HSF
              obtain ⟨ts, hts, hsame, hlen⟩ := HSF.out.done
              have HSM := hide hsame
              have HTS := hide hts
              clear hsame hts
              go_wp2_with fail
              refine (lex_okn S ts l.length wr HR.out.tab (by omega) HTS.out hlen).mono ?_
              rintro e w4 ⟨A4, c4, rfl, ht4, hb⟩
              have H4 := hide ((HR.out.later hb).more ht4)
              clear hb ht4 HR
              go_wp2_with fail
              refine (same_is A A4 l (toks ts) l.length l.length ca c4 true w4 rfl (by simp [hlen]) (by omega) (H4.out.at (by simp)) (H4.out.at (by simp)) HSM.out).mono ?_
              rintro e w5 ⟨rfl, hb⟩
              have H5 := hide (H4.out.later hb)
              clear hb H4
              go_wp2_with fail
              go_ret
              exact ⟨rfl, H5.out.1.1⟩
theorem spaces_any (A C : Option Addr) (l : List Tok) (ca : Nat) (u : List UInt8) (cu : Nat) (s : ByteArray) (w : World) (h : Tab w ∧ Pow w) (hl : l.length * 40 ≤ 140737488351232) (hA : Toks w A l) (hF : ∀ t ∈ l, t.Fit) (hC : Byts w C u) (hs : s.size ≤ 140737488351232) :
    Calls Tryd.prog 8 #[.slice A l.length ca, .slice C u.length cu, .string s] w fun e w' => e = .returned (.bool true) ∧ Below w.heap.size w w' := by
  have := spaces_walk A C l ca u cu s.data.toList w h.1 h.2 hl hA hF hC (by simpa using hs)
  rwa [str_data] at this
end Go.Proofs.YtemapfhiiefieaaDoor
