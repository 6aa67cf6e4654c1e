/- CodecLists: the encoding of a list ends with the encodings of its elements, and its size is that of as many zeros with the elements' sizes. No condition. The walk. -/
import Derived.Test.YtccdencaidopnaaLists
namespace Go.Proofs.Ytccdencaidopnaa
open Go.RowKit

theorem bulk {l : List VT} (h : ∀ i (h : i < l.length), Small 200 l[i]) : VT.sz.szs l ≤ 200 * l.length ∧ (VT.enc.encs l).length ≤ 42000 * l.length := by
  induction l with
  | nil => simp [VT.sz.szs, VT.enc.encs]
  | cons t r ih =>
    have h0 := h 0 (by simp)
    have h1 := ih fun i hi => h (i + 1) (by simpa using hi)
    simp only [List.getElem_cons_zero] at h0
    simp only [VT.sz.szs, VT.enc.encs, List.length_cons, List.length_append]
    have := h0.1
    have := h0.2
    omega

theorem Inb.drop {w : World} {b o : Nat} {l : List UInt8} (hi : Inb w (some ⟨b, o, none⟩) l) (n : Nat) : Inb w (some ⟨b, o + n, none⟩) (l.drop n) := by
  refine ⟨by rintro p ⟨⟩; rfl, fun i h => ?_⟩
  have h' : n + i < l.length := by rw [List.length_drop] at h; omega
  obtain ⟨b1, o1, e, hlt, hc⟩ := hi.bytes (n + i) h'
  simp only [Option.some.injEq, Addr.mk.injEq, and_true] at e
  obtain ⟨rfl, rfl⟩ := e
  exact ⟨_, _, rfl, hlt, by rw [Nat.add_assoc, hc, List.getElem_drop]⟩

theorem wrap_i64_id {x : Int} (h : -9223372036854775808 ≤ x ∧ x ≤ 9223372036854775807) : IntKind.i64.wrap x = x := by
  rw [IntKind.wrap_i64]; omega

set_option maxRecDepth 10000 in
set_option maxHeartbeats 3200000 in
theorem lists_walk (T : VT) (w : World) (hin : T.In w) (hk3 : T.kind = 3) (hn0 : T.num = 0) (hs0 : T.str = ⟨#[]⟩) :
    Calls Try.prog 8 #[T.sl] w fun e w' => e = .returned (.bool true) ∧ Below w.heap.size w w' := by
  obtain ⟨i0, hi0, hz0, hz1, hz2⟩ := info_parts Try.info5
  have HI := hide (And.intro hi0 (And.intro hz0 (And.intro hz1 hz2)))
  obtain ⟨j0, hj0, hy0, hy1, hy2⟩ := info_parts Try.info24
  have HJ := hide (And.intro hj0 (And.intro hy0 (And.intro hy1 hy2)))
  have hcap : T.els.length * 48 ≤ 140737488351232 := hin.facts.2.2.2
  have HT3 := hide (And.intro hk3 (And.intro hn0 hs0))
  have HV := hide (show T.val = .agg #[.int .i64 3, .int .i64 0, .string ⟨#[]⟩, T.sl] by rw [VT.val, hk3, hn0, hs0])
  have HF := fun W (hW : T.In W) => hide (few_sl T W hW)
  obtain ⟨A, -, hsl, hA⟩ := hin.open
  rw [hsl] at HV HF ⊢
  have HVE := hide (fun W (hW : T.In W) (h1 : T.sz ≤ 1000000) (h2 : T.enc.length ≤ 4294967296) => show Calls Try.prog 12 #[.agg #[.int .i64 3, .int .i64 0, .string ⟨#[]⟩, .slice A T.els.length T.cap]] W (EncPost T W) from by rw [← HV.out]; exact encode_any T W hW h1 h2)
  clear hi0 hz0 hz1 hz2 hj0 hy0 hy1 hy2 hsl hk3 hn0 hs0 HV
  go_enter Try.func8, Try.ntmps8
  go_wp2_with fail
  refine (sane_any _).mono ?_
  rintro e w1 ⟨rfl, hb1⟩
  have hb1 := hide hb1
  go_wp2_with fail
  refine (HF _ (hin.later hb1.out)).out.mono ?_
  rintro e w3 ⟨f, rfl, hf, hb3⟩
  have hB3 := hide (below_one hb1.out hb3)
  clear hb1 hb3 HF
  cases f with
  | false =>
    go_wp2_with fail
    go_ret
    exact ⟨rfl, hB3.out⟩
  | true =>
    have hS := hide (hf.out rfl)
    clear hf
    by_cases hlen : T.els.length ≤ 20
    · have hl0 : (T.els.length : Int) ≤ 20 := by omega
      have HBK := hide (bulk hS.out)
      have HTL := hide (show T.enc.length = 1 + (numeral T.els.length).length + (VT.enc.encs T.els).length by
        rw [VT.enc_eq, if_neg (by have := HT3.out.1; omega), if_neg (by have := HT3.out.1; omega)]
        simp only [List.length_cons, List.length_append]
        omega)
      have HNL := hide (numeral_len (u := T.els.length) (by omega)).2
      have HTZ := hide (VT.sz_eq T)
      have HTE := fun W (hW : T.In W) => hide (HVE.out W hW (by have := HTZ.out; have := HBK.out.1; omega) (by have := HTL.out; have := HBK.out.2; have := HNL.out.1; omega))
      go_wp2_with fail
      go_loopw [3, 4, 5, 31] (fun x z s i wr => ∃ k : Nat, k ≤ T.els.length ∧ i = .int .i64 k ∧ s = .int .i64 ((VT.enc.encs (T.els.take k)).length : Nat) ∧ Hid (Own w.heap.size x (VT.enc.encs (T.els.take k)) wr) ∧ Hid (wr.ownsRow w.heap.size 24 4 z k (cellsOf (zeros k))) ∧ Hid (∀ j (h : j < T.els.length), j < k → chk T.els[j] = 0) ∧ Below w.heap.size w wr) (fun _ _ _ i _ => T.els.length - (intOf i).toNat)
      case atStart => exact ⟨0, Nat.zero_le _, rfl, by simp [VT.enc.encs], hide (World.ownsRow_nil _ _ _ _), hide (World.ownsRow_nil _ _ _ _), hide (by intros; omega), hB3.out⟩
      case round =>
        obtain ⟨k, hk, rfl, rfl, HX, HZ, HC, hb⟩ := hrel
        by_cases hlt : k < T.els.length
        · obtain ⟨b, o, rfl, ha⟩ := hA k hlt
          obtain ⟨⟨c0, c1, c2, c3⟩, hink⟩ := (hin.later hb).el ha hlt
          have HK := hide (hS.out k hlt)
          have HTK := hide (VT.encs_take hlt)
          have hsk := VT.encs_get_le hlt
          have hbk := HBK.out.2
          have hob := hide (OB.mk (w0 := wr) (Box.new wr T.els[k]) (hink.alloc _) (below_new _ _))
          have hne := List.length_pos_iff.2 (enc_ne T.els[k])
          have HBR := hide hb
          clear ha hb
          by_cases hc : chk T.els[k] = 0
          · have HCK := hide hc
            go_wp2_with fail
            refine (encode_ok T.els[k] _ hob.out.out.2.1 (by have := HK.out.1; omega) (by have := HK.out.2; omega) hc).mono ?_
            rintro e w4 ⟨v4, rfl, hb4, ho4⟩
            have hs4 := hide (hob.out.keep hb4)
            have hB4 := hide (below_two HBR.out hb4)
            have hX4 := hide ((HX.out.later (below_new wr (.cells #[.int .i64 (T.els[k]).kind, .int .i64 (T.els[k]).num, .string (T.els[k]).str, (T.els[k]).sl] 24))).later hb4)
            have hZ4 := hide (((HZ.out.alloc (.cells #[.int .i64 (T.els[k]).kind, .int .i64 (T.els[k]).num, .string (T.els[k]).str, (T.els[k]).sl] 24))).kept (only_of_below hb4 none) (by cases u4.ownBlock with | none => exact .inl rfl | some x => exact .inr (by simp)))
            have hO4 := hide ho4
            clear hob hb4 ho4 hc c0 c1 c2 c3 HX HZ
            obtain ⟨x0, x1, x2, x3, _⟩ := hs4.out
            have HSZ := hide (size_of T.els[k] w4 hs4.out.out.2.1 (by have := HK.out.1; omega) (by have := HK.out.2; omega))
            rw [HCK.out, if_pos rfl] at HSZ
            have hlk := congrArg List.length HTK.out
            rw [List.length_append] at hlk
            have hle2 := VT.encs_take_le T.els (k + 1)
            have HLK := hide hlk
            clear hlk
            go_wp2_with fail
            refine HSZ.out.mono ?_
            rintro e w5 ⟨rfl, hb5⟩
            have hB5 := hide (below_one hB4.out hb5)
            have hX5 := hide (hX4.out.later hb5)
            have hZ5 := hide (hZ4.out.kept (only_of_below hb5 none) (by cases u4.ownBlock with | none => exact .inl rfl | some x => exact .inr (by simp)))
            obtain ⟨g, cap, rfl, hcl⟩ := (hO4.out.later hb5).form hne
            have hs5 := hB5.out.size
            clear hb5 hX4 hZ4 hO4 hs4 hB4 HSZ x0 x1 x2 x3
            go_wp2_with (first
              | (at_builtin; refine wpList_append_own _ rfl _ _ 27 rfl w.heap.size 5 i0 (.int .u8 0) 1 1 Try.underlying27 HI.out.1 HI.out.2.1 HI.out.2.2.1 HI.out.2.2.2 rfl (by decide) _ _ (bs (VT.enc.encs (T.els.take k))) rfl hX5.out ⟨g, 0, none⟩ _ cap (bs (T.els[k]).enc) rfl (by rw [bs_length, Nat.mul_one]) hcl (bs_one _) (by unfold maxLen; omega) (by omega) hs5 ?_; intro x6 w6 hown6 hg6 _; have hZ6 := hide (hZ5.out.kept hg6 (own_apart hZ5.out hX5.out (by decide))); have hB6 := hide (hB5.out.grown hg6 hs5 (fun k hk => (World.ownsRow.lt hX5.out k hk).1)); have hX6 := hide (show Own w.heap.size x6 (VT.enc.encs (T.els.take (k + 1))) w6 by rw [HTK.out]; unfold Own; rw [List.length_append, bs_append]; exact hown6))
              | (go_at_call 23; refine (int_any 0 _).mono ?_; rintro e w7 ⟨rfl, hb7⟩; have hB7 := hide (below_one hB6.out hb7); have hX7 := hide (hX6.out.later hb7); have hZ7 := hide (hZ6.out.kept (only_of_below hb7 none) (by cases u4.ownBlock with | none => exact .inl rfl | some x => exact .inr (by simp))); have hs7 := hB7.out.size)
              | (at_builtin; refine wpList_append_own _ rfl _ _ 22 rfl w.heap.size 24 j0 _ 4 56 Try.underlying22 HJ.out.1 HJ.out.2.1 HJ.out.2.2.1 HJ.out.2.2.2 rfl (by decide) _ k (cellsOf (zeros k)) rfl (hZ7.out.alloc _) ⟨w7.heap.size, 0, none⟩ 1 1 (cells4 (intT 0)) rfl rfl (World.news_of_block (cs := (cells4 (intT 0)).toArray) (t := 24) (fr := (0, 0)) (heap_alloc_new w7 _)) (by simp [Value.oneCell', cells4]) (by unfold maxLen; omega) (by omega) (by simp; omega) ?_; intro z8 w8 hown8 hg8 _))
            refine ⟨⟨k + 1, by omega, by go_num, val_num (by have := HLK.out; omega), hide ?_, hide ?_, hide (fun j h hj => ?_), ?_⟩, by simp [intOf]; omega⟩
            · exact World.ownsRow.kept (World.ownsRow.alloc hX7.out _) hg8 (own_apart (w := w7.alloc (.cells #[.int .i64 1, .int .i64 0, .string ⟨#[]⟩, .slice none 0 0] 24)) (World.ownsRow.alloc hX7.out _) (hZ7.out.alloc _) (by decide))
            · rw [← zeros_snoc]; exact hown8
            · by_cases e : j = k
              · subst e; exact HCK.out
              · exact HC.out j h (by omega)
            · exact (hB7.out.alloc hs7 _).grown hg8 (by simp; omega) (fun k hk => (World.ownsRow.lt hZ7.out k hk).1)
          · have HCT := hide (chk_list HT3.out.1 hlt hc)
            have hc0 : ((chk T.els[k] : Int) == 0) = false := by simp; omega
            have ht0 : ((chk T : Int) != 0) = true := by have := HCT.out; simp; omega
            have HEN := hide (encode_any T.els[k] _ hob.out.out.2.1 (by have := HK.out.1; omega) (by have := HK.out.2; omega))
            have HSZ := fun W (hW : (T.els[k]).In W) => hide (size_of T.els[k] W hW (by have := HK.out.1; omega) (by have := HK.out.2; omega))
            simp only [if_neg hc] at HSZ
            unfold EncPost at HEN HTE
            clear hc HX HZ
            generalize chk T.els[k] = c at *
            generalize chk T = ct at *
            go_wp2_with fail
            refine HEN.out.mono ?_
            rintro e w4 ⟨v4, rfl, hb4, -⟩
            have hs4 := hide (hob.out.keep hb4)
            have hB4 := hide (below_two HBR.out hb4)
            clear hob hb4 HEN c0 c1 c2 c3
            obtain ⟨x0, x1, x2, x3, _⟩ := hs4.out
            go_wp2_with fail
            refine (HSZ _ hs4.out.out.2.1).out.mono ?_
            rintro e w5 ⟨rfl, hb5⟩
            have hB5 := hide (below_one hB4.out hb5)
            clear hb5 hs4 hB4 HSZ x0 x1 x2 x3
            go_wp2_with fail
            refine (list_any _ _ _ _).mono ?_
            rintro e w6 ⟨rfl, hb6⟩
            have hB6 := hide (below_one hB5.out hb6)
            clear hb6
            go_wp2_with fail
            refine (HTE _ (hin.later hB6.out)).out.mono ?_
            rintro e w7 ⟨v7, rfl, hb7, -⟩
            have hB7 := hide (below_one hB6.out hb7)
            clear hb7
            go_wp2_with fail
            go_ret
            exact ⟨rfl, hB7.out⟩
        · obtain rfl : k = T.els.length := by omega
          have HFT := hide (List.take_length (l := T.els))
          have HWF := hide (show T.wf = true by
            rw [VT.wf_eq, HT3.out.1, HT3.out.2.1, HT3.out.2.2, VT.wfs_iff.2 (fun i h => chk_wf (HC.out i h h))]
            simp [Lib.toList_data])
          have hB := hide hb
          rw [HFT.out] at HX
          rw [HFT.out]
          clear HC hb
          go_wp2_with fail
          refine (list_any _ _ _ _).mono ?_
          rintro e w4 ⟨rfl, hb4⟩
          have hB4 := hide (below_one hB.out hb4)
          have hX4 := hide (HX.out.later hb4)
          have hZ4 := hide (HZ.out.kept (only_of_below hb4 none) (by cases u4.ownBlock with | none => exact .inl rfl | some x => exact .inr (by simp)))
          clear hb4 hB HX HZ
          go_wp2_with fail
          refine (HTE _ (hin.later hB4.out)).out.mono ?_
          rintro e w5 ⟨v5, rfl, hb5, ho5⟩
          have hB5 := hide (below_one hB4.out hb5)
          by_cases hc : chk T = 0
          · rw [if_pos hc] at ho5
            rw [hc]
            have hX5 := hide (hX4.out.later hb5)
            have hZ5 := hide (hZ4.out.kept (only_of_below hb5 none) (by cases u4.ownBlock with | none => exact .inl rfl | some x => exact .inr (by simp)))
            have hO5 := hide (show Own w4.heap.size v5 T.enc w5 from ho5)
            obtain ⟨Z, rfl, hz3, hzn, hzs, hze, hzin, hzc, hzz, hzl⟩ := zeros_list hZ5.out (by omega)
            have HZV := hide (show Z.val = .agg #[.int .i64 3, .int .i64 0, .string ⟨#[]⟩, Z.sl] by rw [VT.val, hz3, hzn, hzs])
            have HZS := fun W (hW : Z.In W) => hide (size_of Z W hW (by omega) (by have := HNL.out.1; omega))
            rw [hzc, if_pos rfl, hzl] at HZS
            have HZI := hide hzin
            rw [HZV.out] at HZS
            clear hc ho5 hb5 hX4 hZ4 hZ5 hz3 hzn hzs hze hzin hzc hzz hzl
            go_wp2_with fail
            refine (list_any _ _ _ _).mono ?_
            rintro e w6 ⟨rfl, hb6⟩
            have hB6 := hide (below_one hB5.out hb6)
            have HZI6 := hide (HZI.out.later hb6)
            have hX6 := hide (hX5.out.later hb6)
            have hO6 := hide (hO5.out.later hb6)
            clear hb6 HZI hX5 hO5
            go_wp2_with fail
            refine (HZS _ HZI6.out).out.mono ?_
            rintro e w7 ⟨rfl, hb7⟩
            have hB7 := hide (below_one hB6.out hb7)
            obtain ⟨a1, p1, rfl, hx, -, -, -⟩ := (hX6.out.later hb7).inb
            obtain ⟨g, p2, rfl, -⟩ := (hO6.out.later hb7).form (List.length_pos_iff.2 (enc_ne T))
            have HCX := hide (fun W (hW : Below w7.heap.size w7 W) => ((hX6.out.later hb7).later hW).conv)
            have HCO := hide (hO6.out.later hb7)
            have HCS := hide (fun W (hW : Below w7.heap.size w7 W) (cc : Nat) => show (convert 27 9 (.slice (some ⟨g, 1 + (numeral T.els.length).length, none⟩) (VT.enc.encs T.els).length cc)).run Try.prog W = .ok (.string ⟨(VT.enc.encs T.els).toArray⟩) W from by
              obtain ⟨a9, c9, e9, hi9, -, -, -⟩ := Own.inb ((hO6.out.later hb7).later hW)
              injection e9 with e9 _ _
              subst e9
              have hd := hi9.drop (1 + (numeral T.els.length).length)
              have hq : T.enc.drop (1 + (numeral T.els.length).length) = VT.enc.encs T.els := by
                rw [VT.enc_eq, if_neg (by have := HT3.out.1; omega), if_neg (by have := HT3.out.1; omega), Nat.add_comm, List.drop_succ_cons, List.drop_left]
              rw [hq, Nat.zero_add] at hd
              have := hd.conv (VT.enc.encs T.els).length cc (Nat.le_refl _)
              rw [List.take_length] at this
              exact this)
            have HCN := hide (fun W (hW : Below w7.heap.size w7 W) (h0 : VT.enc.encs T.els = []) (cc : Nat) => show (convert 27 9 (.slice (some ⟨g, 0, none⟩) 0 cc)).run Try.prog W = .ok (.string ⟨(VT.enc.encs T.els).toArray⟩) W from by
              obtain ⟨a9, c9, e9, hi9, -, -, -⟩ := Own.inb ((hO6.out.later hb7).later hW)
              injection e9 with e9 _ _
              subst e9
              have := hi9.conv 0 cc (Nat.zero_le _)
              rw [this, h0]
              rfl)
            have HE0 := hide (show (VT.enc.encs T.els).length = 0 → VT.enc.encs T.els = [] from List.eq_nil_of_length_eq_zero)
            generalize (⟨(VT.enc.encs T.els).toArray⟩ : ByteArray) = S at *
            clear hb7 hX6 hO6 HZS HZI6
            have hTL := HTL.out
            have hNL := HNL.out
            have hBK := HBK.out.2
            generalize hE : (VT.enc.encs T.els).length = E at *
            generalize hC : T.enc.length = C at *
            generalize hN : (numeral T.els.length).length = N at *
            obtain ⟨P, hP⟩ : ∃ P, P = 1 + N := ⟨_, rfl⟩
            obtain ⟨Y, hY⟩ : ∃ Y, Y = 1 + N + 2 * T.els.length := ⟨_, rfl⟩
            rw [← hY]
            have hPE : P + E = C := by omega
            have hP2 : 2 ≤ P := by omega
            have hPm : P ≤ 11 := by omega
            have hYm : Y ≤ 51 := by omega
            have hEm : E ≤ 840000 := by omega
            have h26 : (C : Int) - E = P := by omega
            have h27 : (C : Int) = (Y : Int) - 2 * (T.els.length : Int) + E := by omega
            have h28 : 2 ≤ (P : Int) := by omega
            have H27 := hide (And.intro h26 (And.intro h27 (And.intro hPE (And.intro hY hP))))
            clear h27 hPE hY hP hTL hNL hBK hE hC hN
            go_wp2_with fail
            clear h26 hA
            obtain ⟨h26, h27, hPE, -, -⟩ := H27.out
            have b27 : ((C : Int) == (Y : Int) - 2 * (T.els.length : Int) + (E : Int)) = true := by simp; omega
            have hCE : C - P = E := by omega
            have hPC : P ≤ C := by omega
            have hPC2 : (P : Int) ≤ C := by omega
            have hp2 : C ≤ p2 := by
              obtain ⟨_, _, e, _, h, _⟩ := Own.inb HCO.out
              injection e with _ _ e
              omega
            have hY2 : 2 * (T.els.length : Int) ≤ Y := by omega
            have hPN : 1 + N = P := H27.out.2.2.2.2.symm
            clear h26 h27 H27 hS HBK HTE HVE HFT HTL HNL HTZ HWF hin HT3
            have cv1 := fun k => HCX.out (w7.drewN k) (below_drewN (Below.refl _ _) k)
            have hw1 : IntKind.i64.wrap (2 * (T.els.length : Int)) = 2 * (T.els.length : Int) := wrap_i64_id (by omega)
            have hw2 : IntKind.i64.wrap ((Y : Int) - 2 * (T.els.length : Int)) = (Y : Int) - 2 * (T.els.length : Int) := wrap_i64_id (by omega)
            have hw3 : IntKind.i64.wrap ((Y : Int) - 2 * (T.els.length : Int) + (E : Int)) = (Y : Int) - 2 * (T.els.length : Int) + (E : Int) := wrap_i64_id (by omega)
            have h28 : decide (2 ≤ (P : Int)) = true := by simp; omega
            by_cases hpp : p2 = P
            · obtain rfl : E = 0 := by omega
              have cv2 := fun k cc => HCN.out (w7.drewN k) (below_drewN (Below.refl _ _) k) (HE0.out rfl) cc
              obtain rfl : P = p2 := hpp.symm
              obtain rfl : C = P := by omega
              have c27 : ((C : Int) == (Y : Int) - 2 * (T.els.length : Int)) = true := by simp at b27 ⊢; omega
              clear HCX HCO HCS HCN HE0 hPN
              generalize T.els.length = n at *
              go_quiet (fail)
              go_wp2_with fail
              go_ret
              exact ⟨rfl, below_drewN hB7.out _⟩
            · have cv2 := fun k cc => HCS.out (w7.drewN k) (below_drewN (Below.refl _ _) k) cc
              rw [hPN] at cv2
              clear HCX HCO HCS HCN HE0 hPN
              generalize T.els.length = n at *
              go_quiet (fail)
              go_wp2_with fail
              go_ret
              exact ⟨rfl, below_drewN hB7.out _⟩
          · have hc2 : chk T = 2 := by
              unfold chk at hc ⊢
              rw [if_pos HWF.out] at hc ⊢
              split at hc
              · rw [if_pos (by assumption)]
              · omega
            rw [hc2]
            clear hc hc2 ho5 hb5
            go_wp2_with fail
            go_ret
            exact ⟨rfl, hB5.out⟩
    · have hlen' : 20 < (T.els.length : Int) := by omega
      go_wp2_with fail
      go_ret
      exact ⟨rfl, hB3.out⟩
end Go.Proofs.Ytccdencaidopnaa
