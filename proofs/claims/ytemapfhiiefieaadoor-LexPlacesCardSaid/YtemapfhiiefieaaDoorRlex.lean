/- Lex of the reference. -/
import Derived.Test.YtemapfhiiefieaaDoorRnu
import Derived.Test.YtemapfhiiefieaaDoorAppT
import Derived.Test.YtemapfhiiefieaaDoorRsg
namespace Go.Proofs.YtemapfhiiefieaaDoor
open Go.RowKit

theorem tw_slice {p : UInt8 → Bool} (l : List UInt8) (k j : Nat) (hkj : k ≤ j) (hj : j ≤ l.length) (h1 : ∀ q (h : q < l.length), k ≤ q → q < j → p l[q] = true) (h2 : ∀ h : j < l.length, p l[j] = false) :
    ((l.drop k).takeWhile p).length = j - k ∧ (str l).extract k j = str ((l.drop k).takeWhile p) := by
  have h := takeWhile_take (p := p) (l.drop k) (j - k) (by rw [List.length_drop]; omega) (fun q hq hlt => by
    rw [List.getElem_drop]
    exact h1 _ _ (by omega) (by omega)) (fun hq => by
    rw [List.getElem_drop]
    have := h2 (by rw [List.length_drop] at hq; omega)
    have e : k + (j - k) = j := by omega
    simp only [e]
    exact this)
  rw [h]
  refine ⟨by rw [List.length_take, List.length_drop]; omega, ?_⟩
  apply ByteArray.ext
  simp [ByteArray.data_extract]
theorem str_one (l : List UInt8) (k : Nat) (h : k < l.length) : (str l).extract k (k + 1) = str [l[k]] := by
  apply ByteArray.ext
  simp [ByteArray.data_extract]
  rw [List.take_one, List.head?_drop, List.getElem?_eq_getElem h]
  rfl
/-- What is read of a source, and what is left. -/
def At (l : List UInt8) (k : Nat) (ts : List Tk) : Prop := lexS l = (lexR (l.drop k) k).map (ts ++ ·) ∧ ts.length ≤ k
theorem At.start (l : List UInt8) : At l 0 [] := by
  refine ⟨?_, Nat.le_refl _⟩
  rw [List.drop_zero, lexS_R]
  cases lexR l 0 <;> simp [Except.map]
theorem At.skip {l : List UInt8} {k sz : Nat} {ts : List Tk} (h : At l k ts) (hs : stp (l.drop k) = some (sz, none)) : At l (k + sz) ts := by
  refine ⟨?_, by have := h.2; omega⟩
  rw [h.1, lexR_skip hs, List.drop_drop]
theorem At.tok {l : List UInt8} {k sz kd n : Nat} {t : List UInt8} {ts : List Tk} (h : At l k ts) (hs : stp (l.drop k) = some (sz, some (kd, t, n))) : At l (k + sz) (ts ++ [⟨kd, t, n, k⟩]) := by
  have hz := (stp_size hs).1
  refine ⟨?_, by have := h.2; simp; omega⟩
  rw [h.1, lexR_tok hs, List.drop_drop]
  cases lexR (l.drop (k + sz)) (k + sz) <;> simp [Except.map]
theorem At.wrong {l : List UInt8} {k : Nat} {ts : List Tk} (h : At l k ts) (hk : k < l.length) (hs : stp (l.drop k) = none) : lexS l = .error k := by
  rw [h.1, lexR_wrong (List.ne_nil_of_length_pos (by rw [List.length_drop]; omega)) hs]
  rfl
theorem At.done {l : List UInt8} {ts : List Tk} (h : At l l.length ts) : lexS l = .ok ts := by
  rw [h.1, List.drop_length, lexR_nil]
  simp [Except.map]

set_option maxRecDepth 10000 in
set_option maxHeartbeats 800000 in
theorem rlex_any (l : List UInt8) (w : World) (hl : l.length ≤ 1000000) : Calls Tryd.prog 13 #[.string (str l)] w (LexPost l w) := by
  have hs := str_size l

  by_cases h6 : 65536 < l.length
  · have h6d : decide ((65536 : Int) < (l.length : Int)) = true := by simp; omega
    go_enter Tryd.func13, Tryd.ntmps13
    go_wp2_with fail
    refine bodyPost_ret (v := .tuple #[.slice none 0 0, .int .i64 0, .int .i64 2]) (by simp [results, Tryd.results13, go_sem]) rfl ?_
    exact ⟨by rw [if_pos h6], Below.refl _ _⟩
  · have h6d : decide ((65536 : Int) < (l.length : Int)) = false := by simp; omega
    have HOE := hide (own_empty w w.heap.size 35 35 4 rfl (Nat.le_refl _))
    have HBE := hide (below_new w (.cells #[] 35))
    go_enter Tryd.func13, Tryd.ntmps13
    go_wp2_with fail
    go_loopw [5, 6] (fun v i wr => ∃ (k : Nat) (ts : List Tk), k ≤ l.length ∧ i = .int .i64 k ∧ Hid (At l k ts) ∧ Hid (wr.ownsRow w.heap.size 35 4 v ts.length (tcs ts)) ∧ Hid (Below w.heap.size w wr)) (fun _ i _ => l.length - (intOf i).toNat)
    case atStart => exact ⟨0, [], Nat.zero_le _, rfl, hide (At.start l), HOE, HBE⟩
    case round =>
      clear HOE HBE
      obtain ⟨k, ts, hk, rfl, HAT, HO, HB⟩ := hrel
      obtain ⟨Av, Nv, Cv, rfl⟩ := own_slice HO.out
      by_cases hlt : k < l.length
      · have hg : (str l)[k]'(by rw [hs]; exact hlt) = l[k] := rfl
        have HD := hide (drop_head hlt)
        have hc256 := l[k].toNat_lt
        have HW := hide (rspace_any l[k] wr)
        by_cases c1 : cls l[k] = 1
        · have HA2 := hide (HAT.out.skip (sz := 1) (by rw [HD.out]; simp [stp, c1]))
          have hw : isWh l[k] = true := by simp [isWh, c1]
          rw [hw] at HW
          clear hw
          generalize l[k] = c at *
          go_wp2_with fail
          refine HW.out.mono ?_
          rintro e _ ⟨rfl, rfl⟩
          go_wp2_with fail
          refine ⟨⟨k + 1, ts, by omega, by go_num, HA2, HO, HB⟩, by simp [intOf]; omega⟩
        · have hw : isWh l[k] = false := by simp [isWh, c1]
          rw [hw] at HW
          clear hw
          by_cases cm : l[k] = 47 ∧ ∃ h : k + 1 < l.length, l[k + 1] = 47
          · obtain ⟨cm1, h2, cm2⟩ := cm
            have hg2 : (str l)[k + 1]'(by rw [hs]; exact h2) = l[k + 1] := rfl
            have HST := hide (show stp (l.drop k) = some (((l.drop k).takeWhile isLn).length, none) by
              rw [HD.out, drop_head h2, cm1, cm2]; simp [stp, show cls 47 = 2 by decide])
            have e1 : ((l[k].toNat : Int) == 47) = true := by rw [cm1]; rfl
            have e2 : ((l[k + 1].toNat : Int) == 47) = true := by rw [cm2]; rfl
            have d256 := l[k + 1].toNat_lt
            clear cm1 cm2 HD c1
            generalize l[k] = c at *
            generalize l[k + 1] = d at *
            go_wp2_with fail
            refine HW.out.mono ?_
            rintro e _ ⟨rfl, rfl⟩
            go_wp2_with fail
            clear e1 e2 hg2 hg d256 hc256 HW
            go_loop [6] (fun i => ∃ j : Nat, i = .int .i64 j ∧ k ≤ j ∧ j ≤ l.length ∧ Hid (∀ q (h : q < l.length), k ≤ q → q < j → isLn l[q] = true)) (fun i => l.length - (intOf i).toNat)
            case atStart => exact ⟨k, rfl, Nat.le_refl _, hk, hide (by intros; omega)⟩
            case round =>
              obtain ⟨j, rfl, hkj, hj, HQ⟩ := hrel
              by_cases hjl : j < l.length
              · have hgj : (str l)[j]'(by rw [hs]; exact hjl) = l[j] := rfl
                have j256 := l[j].toNat_lt
                by_cases hn : l[j].toNat = 10
                · have e1 : ((l[j].toNat : Int) != 10) = false := by simp; omega
                  have HE := hide (tw_slice (p := isLn) l k j hkj hj HQ.out (fun h => by simp [isLn, hn]))
                  clear hn HQ
                  generalize l[j] = x at *
                  go_wp2_with fail
                  have hz := (stp_size HST.out).1
                  have hel := HE.out.1
                  refine ⟨⟨j, ts, by omega, rfl, ?_, HO, HB⟩, by simp [intOf]; omega⟩
                  have h := HAT.out.skip HST.out
                  rw [show k + _ = j by omega] at h
                  exact hide h
                · have e1 : ((l[j].toNat : Int) != 10) = true := by simp; omega
                  have HQ2 : Hid (∀ q (h : q < l.length), k ≤ q → q < j + 1 → isLn l[q] = true) := hide fun q h h1 h2 => by
                    by_cases e : q = j
                    · subst e; simp [isLn, hn]
                    · exact HQ.out q h h1 (by omega)
                  clear hn HQ
                  generalize l[j] = x at *
                  go_wp2_with fail
                  refine ⟨⟨j + 1, by go_num, by omega, by omega, HQ2⟩, by simp [intOf]; omega⟩
              · obtain rfl : j = l.length := by omega
                have HE := hide (tw_slice (p := isLn) l k l.length hkj hj HQ.out (fun h => absurd h (by omega)))
                clear HQ
                go_wp2_with fail
                have hz := (stp_size HST.out).1
                have hel := HE.out.1
                refine ⟨⟨l.length, ts, by omega, rfl, ?_, HO, HB⟩, by simp [intOf]; omega⟩
                have h := HAT.out.skip HST.out
                rw [show k + _ = l.length by omega] at h
                exact hide h
          · have HLT := hide (rletter_any l[k] wr)
            have HFG := hide (rfigure_any l[k] wr)
            have HSN := hide (rsign_any l[k] wr)
            by_cases c4 : cls l[k] = 4
            · have HST := hide (show stp (l.drop k) = if nameB ((l.drop k).takeWhile isNm) = true then some (((l.drop k).takeWhile isNm).length, some (1, (l.drop k).takeWhile isNm, 0)) else none by rw [HD.out]; simp [stp, c4])
              have e1 : ((l[k].toNat : Int) == 47) = false := by
                have : l[k].toNat ≠ 47 := fun e => by rw [show l[k] = 47 from UInt8.toNat_inj.1 e] at c4; exact absurd c4 (by decide)
                simp; omega
              rw [show isLt l[k] = true by simp [isLt, c4]] at HLT
              clear c1 c4 cm HFG HSN HD
              generalize l[k] = c at *
              obtain ⟨tw, htw⟩ : ∃ tw, (l.drop k).takeWhile isNm = tw := ⟨_, rfl⟩
              rw [htw] at HST
              have HTW := hide htw
              clear htw
              go_wp2_with fail
              refine HW.out.mono ?_
              rintro e _ ⟨rfl, rfl⟩
              go_wp2_with fail
              refine HLT.out.mono ?_
              rintro e _ ⟨rfl, rfl⟩
              go_wp2_with fail
              clear e1 hg hc256 HW HLT
              go_loop [6] (fun i => ∃ j : Nat, i = .int .i64 j ∧ k ≤ j ∧ j ≤ l.length ∧ Hid (∀ q (h : q < l.length), k ≤ q → q < j → isNm l[q] = true)) (fun i => l.length - (intOf i).toNat)
              case atStart => exact ⟨k, rfl, Nat.le_refl _, hk, hide (by intros; omega)⟩
              case round =>
                obtain ⟨j, rfl, hkj, hj, HQ⟩ := hrel
                by_cases hjl : j < l.length
                · have hgj : (str l)[j]'(by rw [hs]; exact hjl) = l[j] := rfl
                  have j256 := l[j].toNat_lt
                  have HP := hide (rpart_any l[j] wr)
                  rcases hn : isNm l[j] with _ | _
                  · rw [hn] at HP
                    have HE := hide (tw_slice (p := isNm) l k j hkj hj HQ.out (fun _ => hn))
                    clear hn HQ
                    generalize l[j] = x at *
                    go_wp2_with fail
                    refine HP.out.mono ?_
                    rintro e _ ⟨rfl, rfl⟩
                    clear HP j256
                    have hsl := HE.out.2
                    have hel := HE.out.1
                    rw [HTW.out] at hsl hel
                    have HNM := hide (rname_any tw wr (by omega))
                    cases hn : nameB tw with
                    | false =>
                      rw [hn] at HNM
                      rw [hn, if_neg (by simp)] at HST
                      have HX := hide (HAT.out.wrong hlt HST.out)
                      clear hn
                      go_wp2_with fail
                      refine HNM.out.mono ?_
                      rintro e _ ⟨rfl, rfl⟩
                      go_wp2_with fail
                      refine bodyPost_ret (v := .tuple #[.slice none 0 0, .int .i64 (k : Nat), .int .i64 30]) (by simp [results, Tryd.results13, go_sem]) rfl ?_
                      exact ⟨by rw [if_neg h6, HX.out], HB.out⟩
                    | true =>
                      rw [hn] at HNM
                      rw [hn, if_pos rfl] at HST
                      have hz := (stp_size HST.out).1
                      clear hn
                      go_wp2_with fail
                      refine HNM.out.mono ?_
                      rintro e _ ⟨rfl, rfl⟩
                      have HC := hide (show [Value.int .i64 1, .string (str tw), .int .i64 0, .int .i64 (k : Nat)] = tcs [⟨1, tw, 0, k⟩] by rfl)
                      have HVO := hide (own_later HO.out (below_new wr (.cells #[.int .i64 1, .string (str tw), .int .i64 0, .int .i64 (k : Nat)] 35)))
                      have HNO : Hid ((wr.alloc (.cells #[.int .i64 1, .string (str tw), .int .i64 0, .int .i64 (k : Nat)] 35)).ownsRow 0 35 4 (.slice (some ⟨wr.heap.size, 0, none⟩) 1 1) 1 (tcs [⟨1, tw, 0, k⟩])) := by
                        rw [← HC.out]
                        exact hide (World.ownsRow_lit (base := 0) (size := 4) (e := 35) wr #[.int .i64 1, .string (str tw), .int .i64 0, .int .i64 (k : Nat)] 1 (Nat.zero_le _) (by decide) rfl)
                      have HSE := hide (show w.heap.size ≤ (wr.alloc (.cells #[.int .i64 1, .string (str tw), .int .i64 0, .int .i64 (k : Nat)] 35)).heap.size by have := HB.out.size; simp; omega)
                      have HBA := hide (HB.out.alloc HB.out.size (.cells #[.int .i64 1, .string (str tw), .int .i64 0, .int .i64 (k : Nat)] 35))
                      have HVL := hide (fun k' (e : (Value.slice Av Nv Cv).ownBlock = some k') => (HO.out.lt k' e).1)
                      have HTL := hide (show ts.length + 1 ≤ 1000000 by have := HAT.out.2; omega)
                      go_wp2_with (at_builtin; refine wpList_of_wp (by rfl) (wp_app_tk (.tmp 78) (.tmp 85) rfl w.heap.size _ ts.length ts rfl rfl HVO.out 0 _ 1 [⟨1, tw, 0, k⟩] rfl rfl HNO.out HTL.out HSE.out ?_); intro v6 w6 hown6 hg6)
                      have HB6 := hide (HBA.out.grown hg6 HSE.out (fun k' e => HVL.out k' e))
                      have HO6 := hide hown6
                      clear hown6 hg6 HVO HNO HVL HSE HBA
                      refine ⟨⟨j, ts ++ [⟨1, tw, 0, k⟩], by omega, by first | rfl | go_num, ?_, ?_, HB6⟩, by simp [intOf]; omega⟩
                      · have h := HAT.out.tok HST.out
                        rw [show k + _ = j by omega] at h
                        exact hide h
                      · rw [List.length_append]; exact HO6
                  · rw [hn] at HP
                    have HQ2 : Hid (∀ q (h : q < l.length), k ≤ q → q < j + 1 → isNm l[q] = true) := hide fun q h h1 h2 => by
                      by_cases e : q = j
                      · subst e; exact hn
                      · exact HQ.out q h h1 (by omega)
                    clear hn HQ
                    generalize l[j] = x at *
                    go_wp2_with fail
                    refine HP.out.mono ?_
                    rintro e _ ⟨rfl, rfl⟩
                    go_wp2_with fail
                    refine ⟨⟨j + 1, by go_num, by omega, by omega, HQ2⟩, by simp [intOf]; omega⟩
                · obtain rfl : j = l.length := by omega
                  have HE := hide (tw_slice (p := isNm) l k l.length hkj hj HQ.out (fun h => absurd h (by omega)))
                  clear HQ
                  have hsl := HE.out.2
                  have hel := HE.out.1
                  rw [HTW.out] at hsl hel
                  have HNM := hide (rname_any tw wr (by omega))
                  cases hn : nameB tw with
                  | false =>
                    rw [hn] at HNM
                    rw [hn, if_neg (by simp)] at HST
                    have HX := hide (HAT.out.wrong hlt HST.out)
                    clear hn
                    go_wp2_with fail
                    refine HNM.out.mono ?_
                    rintro e _ ⟨rfl, rfl⟩
                    go_wp2_with fail
                    refine bodyPost_ret (v := .tuple #[.slice none 0 0, .int .i64 (k : Nat), .int .i64 30]) (by simp [results, Tryd.results13, go_sem]) rfl ?_
                    exact ⟨by rw [if_neg h6, HX.out], HB.out⟩
                  | true =>
                    rw [hn] at HNM
                    rw [hn, if_pos rfl] at HST
                    have hz := (stp_size HST.out).1
                    clear hn
                    go_wp2_with fail
                    refine HNM.out.mono ?_
                    rintro e _ ⟨rfl, rfl⟩
                    have HC := hide (show [Value.int .i64 1, .string (str tw), .int .i64 0, .int .i64 (k : Nat)] = tcs [⟨1, tw, 0, k⟩] by rfl)
                    have HVO := hide (own_later HO.out (below_new wr (.cells #[.int .i64 1, .string (str tw), .int .i64 0, .int .i64 (k : Nat)] 35)))
                    have HNO : Hid ((wr.alloc (.cells #[.int .i64 1, .string (str tw), .int .i64 0, .int .i64 (k : Nat)] 35)).ownsRow 0 35 4 (.slice (some ⟨wr.heap.size, 0, none⟩) 1 1) 1 (tcs [⟨1, tw, 0, k⟩])) := by
                      rw [← HC.out]
                      exact hide (World.ownsRow_lit (base := 0) (size := 4) (e := 35) wr #[.int .i64 1, .string (str tw), .int .i64 0, .int .i64 (k : Nat)] 1 (Nat.zero_le _) (by decide) rfl)
                    have HSE := hide (show w.heap.size ≤ (wr.alloc (.cells #[.int .i64 1, .string (str tw), .int .i64 0, .int .i64 (k : Nat)] 35)).heap.size by have := HB.out.size; simp; omega)
                    have HBA := hide (HB.out.alloc HB.out.size (.cells #[.int .i64 1, .string (str tw), .int .i64 0, .int .i64 (k : Nat)] 35))
                    have HVL := hide (fun k' (e : (Value.slice Av Nv Cv).ownBlock = some k') => (HO.out.lt k' e).1)
                    have HTL := hide (show ts.length + 1 ≤ 1000000 by have := HAT.out.2; omega)
                    go_wp2_with (at_builtin; refine wpList_of_wp (by rfl) (wp_app_tk (.tmp 78) (.tmp 85) rfl w.heap.size _ ts.length ts rfl rfl HVO.out 0 _ 1 [⟨1, tw, 0, k⟩] rfl rfl HNO.out HTL.out HSE.out ?_); intro v6 w6 hown6 hg6)
                    have HB6 := hide (HBA.out.grown hg6 HSE.out (fun k' e => HVL.out k' e))
                    have HO6 := hide hown6
                    clear hown6 hg6 HVO HNO HVL HSE HBA
                    refine ⟨⟨l.length, ts ++ [⟨1, tw, 0, k⟩], by omega, by first | rfl | go_num, ?_, ?_, HB6⟩, by simp [intOf]; omega⟩
                    · have h := HAT.out.tok HST.out
                      rw [show k + _ = l.length by omega] at h
                      exact hide h
                    · rw [List.length_append]; exact HO6
            · by_cases c3 : cls l[k] = 3
              · have HST := hide (show stp (l.drop k) = (match numB ((l.drop k).takeWhile isDg) with | some n => some (((l.drop k).takeWhile isDg).length, some (2, [], n)) | none => none) by rw [HD.out]; simp [stp, c3]; rfl)
                have e1 : ((l[k].toNat : Int) == 47) = false := by
                  have : l[k].toNat ≠ 47 := fun e => by rw [show l[k] = 47 from UInt8.toNat_inj.1 e] at c3; exact absurd c3 (by decide)
                  simp; omega
                rw [show isLt l[k] = false by simp [isLt, c4]] at HLT
                have HCD := hide (show isDg l[k] = true by simp [isDg, c3])
                rw [HCD.out] at HFG
                clear c1 c4 c3 cm HSN
                generalize l[k] = c at *
                obtain ⟨tw, htw⟩ : ∃ tw, (l.drop k).takeWhile isDg = tw := ⟨_, rfl⟩
                rw [htw] at HST
                have HTW := hide htw
                clear htw
                go_wp2_with fail
                refine HW.out.mono ?_
                rintro e _ ⟨rfl, rfl⟩
                go_wp2_with fail
                refine HLT.out.mono ?_
                rintro e _ ⟨rfl, rfl⟩
                go_wp2_with fail
                refine HFG.out.mono ?_
                rintro e _ ⟨rfl, rfl⟩
                go_wp2_with fail
                clear e1 hg hc256 HW HLT HFG
                go_loop [6] (fun i => ∃ j : Nat, i = .int .i64 j ∧ k ≤ j ∧ j ≤ l.length ∧ Hid (∀ q (h : q < l.length), k ≤ q → q < j → isDg l[q] = true)) (fun i => l.length - (intOf i).toNat)
                case atStart => exact ⟨k, rfl, Nat.le_refl _, hk, hide (by intros; omega)⟩
                case round =>
                  obtain ⟨j, rfl, hkj, hj, HQ⟩ := hrel
                  by_cases hjl : j < l.length
                  · have hgj : (str l)[j]'(by rw [hs]; exact hjl) = l[j] := rfl
                    have j256 := l[j].toNat_lt
                    have HP := hide (rfigure_any l[j] wr)
                    rcases hn : isDg l[j] with _ | _
                    · rw [hn] at HP
                      have HE := hide (tw_slice (p := isDg) l k j hkj hj HQ.out (fun _ => hn))
                      clear hn HQ
                      generalize l[j] = x at *
                      go_wp2_with fail
                      refine HP.out.mono ?_
                      rintro e _ ⟨rfl, rfl⟩
                      clear HP j256
                      have hsl := HE.out.2
                      have hel := HE.out.1
                      rw [HTW.out] at hsl hel
                      have HALL := hide (show ∀ i (h : i < tw.length), isDg tw[i] = true from fun i h => by
                        have := HTW.out
                        subst this
                        exact List.all_eq_true.1 (List.all_takeWhile (p := isDg) (l := l.drop k)) _ (List.getElem_mem h))
                      have hpos : 0 < tw.length := by
                        have := HTW.out
                        rw [HD.out] at this
                        rw [← this, List.takeWhile_cons, if_pos HCD.out]
                        simp
                      have HNM := hide (rnumber_any tw wr HALL.out hpos (by omega))
                      cases hn : numB tw with
                      | none =>
                        unfold RNumPost at HNM
                        rw [hn] at HNM HST
                        have HX := hide (HAT.out.wrong hlt HST.out)
                        clear hn
                        go_wp2_with fail
                        refine HNM.out.mono ?_
                        rintro e w1 ⟨⟨z, rfl, _⟩, hb1⟩
                        have HB1 := hide (below_one HB.out hb1)
                        clear hb1
                        simp only [Option.isSome_none]
                        go_wp2_with fail
                        refine bodyPost_ret (v := .tuple #[.slice none 0 0, .int .i64 (k : Nat), .int .i64 30]) (by simp [results, Tryd.results13, go_sem]) rfl ?_
                        exact ⟨by rw [if_neg h6, HX.out], HB1.out⟩
                      | some m =>
                        unfold RNumPost at HNM
                        rw [hn] at HNM HST
                        simp only at HST
                        clear hn
                        go_wp2_with fail
                        refine HNM.out.mono ?_
                        rintro e w1 ⟨⟨z, rfl, hz⟩, hb1⟩
                        obtain rfl := hz m rfl
                        have HB1 := hide (below_one HB.out hb1)
                        have HO1 := hide (own_later HO.out hb1)
                        clear hb1 HB HO HNM
                        have HB := HB1
                        have HO := HO1
                        clear HB1 HO1
                        simp only [Option.isSome_some]
                        have HC := hide (show [Value.int .i64 2, .string (str []), .int .i64 (m : Nat), .int .i64 (k : Nat)] = tcs [⟨2, [], m, k⟩] by rfl)
                        have HVO := hide (own_later HO.out (below_new w1 (.cells #[.int .i64 2, .string (str []), .int .i64 (m : Nat), .int .i64 (k : Nat)] 35)))
                        have HNO : Hid ((w1.alloc (.cells #[.int .i64 2, .string (str []), .int .i64 (m : Nat), .int .i64 (k : Nat)] 35)).ownsRow 0 35 4 (.slice (some ⟨w1.heap.size, 0, none⟩) 1 1) 1 (tcs [⟨2, [], m, k⟩])) := by
                          rw [← HC.out]
                          exact hide (World.ownsRow_lit (base := 0) (size := 4) (e := 35) w1 #[.int .i64 2, .string (str []), .int .i64 (m : Nat), .int .i64 (k : Nat)] 1 (Nat.zero_le _) (by decide) rfl)
                        have HSE := hide (show w.heap.size ≤ (w1.alloc (.cells #[.int .i64 2, .string (str []), .int .i64 (m : Nat), .int .i64 (k : Nat)] 35)).heap.size by have := HB.out.size; simp; omega)
                        have HBA := hide (HB.out.alloc HB.out.size (.cells #[.int .i64 2, .string (str []), .int .i64 (m : Nat), .int .i64 (k : Nat)] 35))
                        have HVL := hide (fun k' (e : (Value.slice Av Nv Cv).ownBlock = some k') => (HO.out.lt k' e).1)
                        have HTL := hide (show ts.length + 1 ≤ 1000000 by have := HAT.out.2; omega)
                        go_wp2_with (at_builtin; refine wpList_of_wp (by rfl) (wp_app_tk (.tmp 114) (.tmp 118) rfl w.heap.size _ ts.length ts rfl rfl HVO.out 0 _ 1 [⟨2, [], m, k⟩] rfl rfl HNO.out HTL.out HSE.out ?_); intro v6 w6 hown6 hg6)
                        have HB6 := hide (HBA.out.grown hg6 HSE.out (fun k' e => HVL.out k' e))
                        have HO6 := hide hown6
                        clear hown6 hg6 HVO HNO HVL HSE HBA
                        refine ⟨⟨j, ts ++ [⟨2, [], m, k⟩], by omega, by first | rfl | go_num, ?_, ?_, HB6⟩, by simp [intOf]; omega⟩
                        · have h := HAT.out.tok HST.out
                          rw [show k + _ = j by omega] at h
                          exact hide h
                        · rw [List.length_append]; exact HO6
                    · rw [hn] at HP
                      have HQ2 : Hid (∀ q (h : q < l.length), k ≤ q → q < j + 1 → isDg l[q] = true) := hide fun q h h1 h2 => by
                        by_cases e : q = j
                        · subst e; exact hn
                        · exact HQ.out q h h1 (by omega)
                      clear hn HQ
                      generalize l[j] = x at *
                      go_wp2_with fail
                      refine HP.out.mono ?_
                      rintro e _ ⟨rfl, rfl⟩
                      go_wp2_with fail
                      refine ⟨⟨j + 1, by go_num, by omega, by omega, HQ2⟩, by simp [intOf]; omega⟩
                  · obtain rfl : j = l.length := by omega
                    have HE := hide (tw_slice (p := isDg) l k l.length hkj hj HQ.out (fun h => absurd h (by omega)))
                    clear HQ
                    have hsl := HE.out.2
                    have hel := HE.out.1
                    rw [HTW.out] at hsl hel
                    have HALL := hide (show ∀ i (h : i < tw.length), isDg tw[i] = true from fun i h => by
                      have := HTW.out
                      subst this
                      exact List.all_eq_true.1 (List.all_takeWhile (p := isDg) (l := l.drop k)) _ (List.getElem_mem h))
                    have hpos : 0 < tw.length := by
                      have := HTW.out
                      rw [HD.out] at this
                      rw [← this, List.takeWhile_cons, if_pos HCD.out]
                      simp
                    have HNM := hide (rnumber_any tw wr HALL.out hpos (by omega))
                    cases hn : numB tw with
                    | none =>
                      unfold RNumPost at HNM
                      rw [hn] at HNM HST
                      have HX := hide (HAT.out.wrong hlt HST.out)
                      clear hn
                      go_wp2_with fail
                      refine HNM.out.mono ?_
                      rintro e w1 ⟨⟨z, rfl, _⟩, hb1⟩
                      have HB1 := hide (below_one HB.out hb1)
                      clear hb1
                      simp only [Option.isSome_none]
                      go_wp2_with fail
                      refine bodyPost_ret (v := .tuple #[.slice none 0 0, .int .i64 (k : Nat), .int .i64 30]) (by simp [results, Tryd.results13, go_sem]) rfl ?_
                      exact ⟨by rw [if_neg h6, HX.out], HB1.out⟩
                    | some m =>
                      unfold RNumPost at HNM
                      rw [hn] at HNM HST
                      simp only at HST
                      clear hn
                      go_wp2_with fail
                      refine HNM.out.mono ?_
                      rintro e w1 ⟨⟨z, rfl, hz⟩, hb1⟩
                      obtain rfl := hz m rfl
                      have HB1 := hide (below_one HB.out hb1)
                      have HO1 := hide (own_later HO.out hb1)
                      clear hb1 HB HO HNM
                      have HB := HB1
                      have HO := HO1
                      clear HB1 HO1
                      simp only [Option.isSome_some]
                      have HC := hide (show [Value.int .i64 2, .string (str []), .int .i64 (m : Nat), .int .i64 (k : Nat)] = tcs [⟨2, [], m, k⟩] by rfl)
                      have HVO := hide (own_later HO.out (below_new w1 (.cells #[.int .i64 2, .string (str []), .int .i64 (m : Nat), .int .i64 (k : Nat)] 35)))
                      have HNO : Hid ((w1.alloc (.cells #[.int .i64 2, .string (str []), .int .i64 (m : Nat), .int .i64 (k : Nat)] 35)).ownsRow 0 35 4 (.slice (some ⟨w1.heap.size, 0, none⟩) 1 1) 1 (tcs [⟨2, [], m, k⟩])) := by
                        rw [← HC.out]
                        exact hide (World.ownsRow_lit (base := 0) (size := 4) (e := 35) w1 #[.int .i64 2, .string (str []), .int .i64 (m : Nat), .int .i64 (k : Nat)] 1 (Nat.zero_le _) (by decide) rfl)
                      have HSE := hide (show w.heap.size ≤ (w1.alloc (.cells #[.int .i64 2, .string (str []), .int .i64 (m : Nat), .int .i64 (k : Nat)] 35)).heap.size by have := HB.out.size; simp; omega)
                      have HBA := hide (HB.out.alloc HB.out.size (.cells #[.int .i64 2, .string (str []), .int .i64 (m : Nat), .int .i64 (k : Nat)] 35))
                      have HVL := hide (fun k' (e : (Value.slice Av Nv Cv).ownBlock = some k') => (HO.out.lt k' e).1)
                      have HTL := hide (show ts.length + 1 ≤ 1000000 by have := HAT.out.2; omega)
                      go_wp2_with (at_builtin; refine wpList_of_wp (by rfl) (wp_app_tk (.tmp 114) (.tmp 118) rfl w.heap.size _ ts.length ts rfl rfl HVO.out 0 _ 1 [⟨2, [], m, k⟩] rfl rfl HNO.out HTL.out HSE.out ?_); intro v6 w6 hown6 hg6)
                      have HB6 := hide (HBA.out.grown hg6 HSE.out (fun k' e => HVL.out k' e))
                      have HO6 := hide hown6
                      clear hown6 hg6 HVO HNO HVL HSE HBA
                      refine ⟨⟨l.length, ts ++ [⟨2, [], m, k⟩], by omega, by first | rfl | go_num, ?_, ?_, HB6⟩, by simp [intOf]; omega⟩
                      · have h := HAT.out.tok HST.out
                        rw [show k + _ = l.length by omega] at h
                        exact hide h
                      · rw [List.length_append]; exact HO6
              · rw [show isLt l[k] = false by simp [isLt, c4]] at HLT
                rw [show isDg l[k] = false by simp [isDg, c3]] at HFG
                by_cases c2 : cls l[k] = 2
                · have HCH := hide (str_one l k hlt)
                  rw [show isSg l[k] = true by simp [isSg, c2]] at HSN
                  have hnc : ¬ (l.drop k).take 2 = [47, 47] := by
                    rw [HD.out]
                    intro e
                    have h47 : l[k] = 47 := by simp only [List.take_succ_cons, List.cons.injEq] at e; exact e.1
                    by_cases h2 : k + 1 < l.length
                    · rw [drop_head h2] at e
                      simp only [List.take_succ_cons, List.cons.injEq] at e
                      exact cm ⟨h47, h2, e.2.1⟩
                    · rw [List.drop_eq_nil_of_le (by omega)] at e
                      simp only [List.take_succ_cons, List.take_nil, List.cons.injEq] at e
                      exact absurd e.2 (by simp)
                  have HST := hide (show stp (l.drop k) = some (1, some (3, [l[k]], 0)) by
                    rw [HD.out] at hnc ⊢
                    simp only [stp, c2, if_neg hnc]; simp)
                  clear hnc c1 c3 c4 c2
                  by_cases h47 : l[k] = 47
                  · have e1 : ((l[k].toNat : Int) == 47) = true := by rw [h47]; rfl
                    by_cases h2 : k + 1 < l.length
                    · have hg2 : (str l)[k + 1]'(by rw [hs]; exact h2) = l[k + 1] := rfl
                      have d256 := l[k + 1].toNat_lt
                      have e2 : ((l[k + 1].toNat : Int) == 47) = false := by
                        have : l[k + 1].toNat ≠ 47 := fun e => cm ⟨h47, h2, UInt8.toNat_inj.1 e⟩
                        simp; omega
                      clear cm h47 HD
                      generalize l[k] = c at *
                      generalize l[k + 1] = d at *
                      go_wp2_with fail
                      refine HW.out.mono ?_
                      rintro e _ ⟨rfl, rfl⟩
                      go_wp2_with fail
                      refine HLT.out.mono ?_
                      rintro e _ ⟨rfl, rfl⟩
                      go_wp2_with fail
                      refine HFG.out.mono ?_
                      rintro e _ ⟨rfl, rfl⟩
                      go_wp2_with fail
                      refine HSN.out.mono ?_
                      rintro e _ ⟨rfl, rfl⟩
                      have hsl := HCH.out
                      have HC := hide (show [Value.int .i64 3, .string (str [c]), .int .i64 0, .int .i64 (k : Nat)] = tcs [⟨3, [c], 0, k⟩] by rfl)
                      have HVO := hide (own_later HO.out (below_new wr (.cells #[.int .i64 3, .string (str [c]), .int .i64 0, .int .i64 (k : Nat)] 35)))
                      have HNO : Hid ((wr.alloc (.cells #[.int .i64 3, .string (str [c]), .int .i64 0, .int .i64 (k : Nat)] 35)).ownsRow 0 35 4 (.slice (some ⟨wr.heap.size, 0, none⟩) 1 1) 1 (tcs [⟨3, [c], 0, k⟩])) := by
                        rw [← HC.out]
                        exact hide (World.ownsRow_lit (base := 0) (size := 4) (e := 35) wr #[.int .i64 3, .string (str [c]), .int .i64 0, .int .i64 (k : Nat)] 1 (Nat.zero_le _) (by decide) rfl)
                      have HSE := hide (show w.heap.size ≤ (wr.alloc (.cells #[.int .i64 3, .string (str [c]), .int .i64 0, .int .i64 (k : Nat)] 35)).heap.size by have := HB.out.size; simp; omega)
                      have HBA := hide (HB.out.alloc HB.out.size (.cells #[.int .i64 3, .string (str [c]), .int .i64 0, .int .i64 (k : Nat)] 35))
                      have HVL := hide (fun k' (e : (Value.slice Av Nv Cv).ownBlock = some k') => (HO.out.lt k' e).1)
                      have HTL := hide (show ts.length + 1 ≤ 1000000 by have := HAT.out.2; omega)
                      go_wp2_with (at_builtin; refine wpList_of_wp (by rfl) (wp_app_tk (.tmp 128) (.tmp 135) rfl w.heap.size _ ts.length ts rfl rfl HVO.out 0 _ 1 [⟨3, [c], 0, k⟩] rfl rfl HNO.out HTL.out HSE.out ?_); intro v6 w6 hown6 hg6)
                      have HB6 := hide (HBA.out.grown hg6 HSE.out (fun k' e => HVL.out k' e))
                      have HO6 := hide hown6
                      clear hown6 hg6 HVO HNO HVL HSE HBA
                      refine ⟨⟨k + 1, ts ++ [⟨3, [c], 0, k⟩], by omega, by first | rfl | go_num, ?_, ?_, HB6⟩, by simp [intOf]; omega⟩
                      · exact hide (HAT.out.tok HST.out)
                      · rw [List.length_append]; exact HO6
                    · have e2 : decide ((k : Int) + 1 < (l.length : Int)) = false := by simp; omega
                      clear cm h47 HD
                      generalize l[k] = c at *
                      go_wp2_with fail
                      refine HW.out.mono ?_
                      rintro e _ ⟨rfl, rfl⟩
                      go_wp2_with fail
                      refine HLT.out.mono ?_
                      rintro e _ ⟨rfl, rfl⟩
                      go_wp2_with fail
                      refine HFG.out.mono ?_
                      rintro e _ ⟨rfl, rfl⟩
                      go_wp2_with fail
                      refine HSN.out.mono ?_
                      rintro e _ ⟨rfl, rfl⟩
                      have hsl := HCH.out
                      have HC := hide (show [Value.int .i64 3, .string (str [c]), .int .i64 0, .int .i64 (k : Nat)] = tcs [⟨3, [c], 0, k⟩] by rfl)
                      have HVO := hide (own_later HO.out (below_new wr (.cells #[.int .i64 3, .string (str [c]), .int .i64 0, .int .i64 (k : Nat)] 35)))
                      have HNO : Hid ((wr.alloc (.cells #[.int .i64 3, .string (str [c]), .int .i64 0, .int .i64 (k : Nat)] 35)).ownsRow 0 35 4 (.slice (some ⟨wr.heap.size, 0, none⟩) 1 1) 1 (tcs [⟨3, [c], 0, k⟩])) := by
                        rw [← HC.out]
                        exact hide (World.ownsRow_lit (base := 0) (size := 4) (e := 35) wr #[.int .i64 3, .string (str [c]), .int .i64 0, .int .i64 (k : Nat)] 1 (Nat.zero_le _) (by decide) rfl)
                      have HSE := hide (show w.heap.size ≤ (wr.alloc (.cells #[.int .i64 3, .string (str [c]), .int .i64 0, .int .i64 (k : Nat)] 35)).heap.size by have := HB.out.size; simp; omega)
                      have HBA := hide (HB.out.alloc HB.out.size (.cells #[.int .i64 3, .string (str [c]), .int .i64 0, .int .i64 (k : Nat)] 35))
                      have HVL := hide (fun k' (e : (Value.slice Av Nv Cv).ownBlock = some k') => (HO.out.lt k' e).1)
                      have HTL := hide (show ts.length + 1 ≤ 1000000 by have := HAT.out.2; omega)
                      go_wp2_with (at_builtin; refine wpList_of_wp (by rfl) (wp_app_tk (.tmp 128) (.tmp 135) rfl w.heap.size _ ts.length ts rfl rfl HVO.out 0 _ 1 [⟨3, [c], 0, k⟩] rfl rfl HNO.out HTL.out HSE.out ?_); intro v6 w6 hown6 hg6)
                      have HB6 := hide (HBA.out.grown hg6 HSE.out (fun k' e => HVL.out k' e))
                      have HO6 := hide hown6
                      clear hown6 hg6 HVO HNO HVL HSE HBA
                      refine ⟨⟨k + 1, ts ++ [⟨3, [c], 0, k⟩], by omega, by first | rfl | go_num, ?_, ?_, HB6⟩, by simp [intOf]; omega⟩
                      · exact hide (HAT.out.tok HST.out)
                      · rw [List.length_append]; exact HO6
                  · have e1 : ((l[k].toNat : Int) == 47) = false := by
                      have : l[k].toNat ≠ 47 := fun e => h47 (UInt8.toNat_inj.1 e)
                      simp; omega
                    clear cm h47 HD
                    generalize l[k] = c at *
                    go_wp2_with fail
                    refine HW.out.mono ?_
                    rintro e _ ⟨rfl, rfl⟩
                    go_wp2_with fail
                    refine HLT.out.mono ?_
                    rintro e _ ⟨rfl, rfl⟩
                    go_wp2_with fail
                    refine HFG.out.mono ?_
                    rintro e _ ⟨rfl, rfl⟩
                    go_wp2_with fail
                    refine HSN.out.mono ?_
                    rintro e _ ⟨rfl, rfl⟩
                    have hsl := HCH.out
                    have HC := hide (show [Value.int .i64 3, .string (str [c]), .int .i64 0, .int .i64 (k : Nat)] = tcs [⟨3, [c], 0, k⟩] by rfl)
                    have HVO := hide (own_later HO.out (below_new wr (.cells #[.int .i64 3, .string (str [c]), .int .i64 0, .int .i64 (k : Nat)] 35)))
                    have HNO : Hid ((wr.alloc (.cells #[.int .i64 3, .string (str [c]), .int .i64 0, .int .i64 (k : Nat)] 35)).ownsRow 0 35 4 (.slice (some ⟨wr.heap.size, 0, none⟩) 1 1) 1 (tcs [⟨3, [c], 0, k⟩])) := by
                      rw [← HC.out]
                      exact hide (World.ownsRow_lit (base := 0) (size := 4) (e := 35) wr #[.int .i64 3, .string (str [c]), .int .i64 0, .int .i64 (k : Nat)] 1 (Nat.zero_le _) (by decide) rfl)
                    have HSE := hide (show w.heap.size ≤ (wr.alloc (.cells #[.int .i64 3, .string (str [c]), .int .i64 0, .int .i64 (k : Nat)] 35)).heap.size by have := HB.out.size; simp; omega)
                    have HBA := hide (HB.out.alloc HB.out.size (.cells #[.int .i64 3, .string (str [c]), .int .i64 0, .int .i64 (k : Nat)] 35))
                    have HVL := hide (fun k' (e : (Value.slice Av Nv Cv).ownBlock = some k') => (HO.out.lt k' e).1)
                    have HTL := hide (show ts.length + 1 ≤ 1000000 by have := HAT.out.2; omega)
                    go_wp2_with (at_builtin; refine wpList_of_wp (by rfl) (wp_app_tk (.tmp 128) (.tmp 135) rfl w.heap.size _ ts.length ts rfl rfl HVO.out 0 _ 1 [⟨3, [c], 0, k⟩] rfl rfl HNO.out HTL.out HSE.out ?_); intro v6 w6 hown6 hg6)
                    have HB6 := hide (HBA.out.grown hg6 HSE.out (fun k' e => HVL.out k' e))
                    have HO6 := hide hown6
                    clear hown6 hg6 HVO HNO HVL HSE HBA
                    refine ⟨⟨k + 1, ts ++ [⟨3, [c], 0, k⟩], by omega, by first | rfl | go_num, ?_, ?_, HB6⟩, by simp [intOf]; omega⟩
                    · exact hide (HAT.out.tok HST.out)
                    · rw [List.length_append]; exact HO6
                · rw [show isSg l[k] = false by simp [isSg, c2]] at HSN
                  have HST := hide (show stp (l.drop k) = none by rw [HD.out]; simp [stp, c1, c2, c3, c4])
                  have HX := hide (HAT.out.wrong hlt HST.out)
                  have e1 : ((l[k].toNat : Int) == 47) = false := by
                    have : l[k].toNat ≠ 47 := fun e => by rw [show l[k] = 47 from UInt8.toNat_inj.1 e] at c2; exact absurd (show cls 47 = 2 by decide) c2
                    simp; omega
                  clear c1 c2 c3 c4 cm HD
                  generalize l[k] = c at *
                  go_wp2_with fail
                  refine HW.out.mono ?_
                  rintro e _ ⟨rfl, rfl⟩
                  go_wp2_with fail
                  refine HLT.out.mono ?_
                  rintro e _ ⟨rfl, rfl⟩
                  go_wp2_with fail
                  refine HFG.out.mono ?_
                  rintro e _ ⟨rfl, rfl⟩
                  go_wp2_with fail
                  refine HSN.out.mono ?_
                  rintro e _ ⟨rfl, rfl⟩
                  go_wp2_with fail
                  refine bodyPost_ret (v := .tuple #[.slice none 0 0, .int .i64 (k : Nat), .int .i64 30]) (by simp [results, Tryd.results13, go_sem]) rfl ?_
                  exact ⟨by rw [if_neg h6, HX.out], HB.out⟩
      · obtain rfl : k = l.length := by omega
        have HX := hide HAT.out.done
        go_wp2_with fail
        refine bodyPost_ret (v := .tuple #[.slice Av Nv Cv, .int .i64 0, .int .i64 0]) (by simp [results, Tryd.results13, go_sem]) rfl ?_
        refine ⟨?_, HB.out⟩
        rw [if_neg h6, HX.out]
        exact ⟨_, rfl, HO.out⟩
end Go.Proofs.YtemapfhiiefieaaDoor
