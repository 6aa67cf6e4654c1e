/- LexJoined: its walk. -/
import Derived.Test.YtemapfhiiefieaaDoorAppT
import Derived.Test.YtemapfhiiefieaaDoorWrongL
namespace Go.Proofs.YtemapfhiiefieaaDoor
open Go.RowKit

theorem equal_self (l : List Tk) : equalT (toks l) (toks l) = true := by unfold equalT; rw [same_self, places_self]; rfl

set_option maxRecDepth 10000 in
set_option maxHeartbeats 1600000 in
theorem joined_walk (l m : List UInt8) (w : World) (hT : Tab w) (hP : Pow w) (hl : l.length ≤ 140737488351232) (hm : m.length ≤ 140737488351232) :
    Calls Tryd.prog 7 #[.string (str l), .string (str m)] w fun e w' => e = .returned (.bool true) ∧ Below w.heap.size w w' := by
  have H0 := hide (Ks.new hT hP)
  have hs := str_size l
  have hs2 := str_size m
  clear hT hP
  by_cases h6 : 3000 < l.length + m.length
  · have h6d : decide ((3000 : Int) < (l.length : Int) + (m.length : Int)) = true := by simp; omega
    go_enter Tryd.func7, Tryd.ntmps7
    go_wp2_with fail
    with_reducible refine (sane_any w H0.out.tab H0.out.pow).mono ?_
    rintro e w1 ⟨rfl, hb⟩
    have HB := hide hb
    clear hb
    go_wp2_with fail
    go_ret
    exact ⟨rfl, HB.out⟩
  · have h6d : decide ((3000 : Int) < (l.length : Int) + (m.length : Int)) = false := by simp; omega
    have hfeed := lexR_feed m l 0
    go_enter Tryd.func7, Tryd.ntmps7
    go_wp2_with fail
    with_reducible refine (sane_any w H0.out.tab H0.out.pow).mono ?_
    rintro e w1 ⟨rfl, hb⟩
    have H1 := hide (H0.out.later hb)
    clear hb H0
    go_wp2_with fail
    have HJ := hide (show (str l ++ (⟨#[10]⟩ : ByteArray) ++ str m) = str (l ++ 10 :: m) by rw [show (⟨#[10]⟩ : ByteArray) = str [10] from rfl, str_app, str_app, List.append_assoc]; rfl)
    cases hx : lexR l 0 with
    | error p =>
      rw [hx] at hfeed
      simp only at hfeed
      rw [← lexS_R] at hx hfeed
      with_reducible refine (lex_wrong l p w1 H1.out.tab (by omega) hx).mono ?_
      rintro e w2 ⟨rfl, hb⟩
      have H2 := hide (H1.out.later hb)
      clear hb H1
      go_wp2_with fail
      refine (lex_ans m w2 H2.out.tab (by omega)).mono ?_
      rintro e w3 ⟨ha, hb⟩
      have H3 := hide (H2.out.later hb)
      clear hb H2
      cases hy : lexS m with
      | error q =>
        rw [hy] at ha
        obtain rfl := ha
        go_wp2_with fail
        rw [HJ.out]
        with_reducible refine (lex_wrong (l ++ 10 :: m) p w3 H3.out.tab (by simp; omega) hfeed).mono ?_
        rintro e w4 ⟨rfl, hb⟩
        have H4 := hide (H3.out.later hb)
        clear hb H3
        go_wp2_with fail
        go_ret
        exact ⟨rfl, H4.out.1.1⟩
      | ok ts =>
        rw [hy] at ha
        obtain ⟨A, c, rfl, _, _⟩ := ha
        go_wp2_with fail
        rw [HJ.out]
        with_reducible refine (lex_wrong (l ++ 10 :: m) p w3 H3.out.tab (by simp; omega) hfeed).mono ?_
        rintro e w4 ⟨rfl, hb⟩
        have H4 := hide (H3.out.later hb)
        clear hb H3
        go_wp2_with fail
        go_ret
        exact ⟨rfl, H4.out.1.1⟩
    | ok xs =>
      rw [hx] at hfeed
      simp only at hfeed
      rw [lexR_zero m (0 + l.length + 1), Nat.zero_add] at hfeed
      rw [← lexS_R] at hx hfeed
      refine (lex_ans l w1 H1.out.tab (by omega)).mono ?_
      rintro e w2 ⟨ha, hb⟩
      rw [hx] at ha
      obtain ⟨A2, c2, rfl, ht2, ho2⟩ := ha
      have H2 := hide (H1.out.later hb)
      have HO2 := hide ho2
      clear hb H1 ht2 ho2
      go_wp2_with fail
      cases hy : lexR m 0 with
      | error q =>
        rw [hy] at hfeed
        simp only [shiftE, Except.map] at hfeed
        rw [← lexS_R] at hy
        with_reducible refine (lex_wrong m q w2 H2.out.tab (by omega) hy).mono ?_
        rintro e w3 ⟨rfl, hb⟩
        have H3 := hide (H2.out.later hb)
        clear hb H2
        go_wp2_with fail
        rw [HJ.out]
        with_reducible refine (lex_wrongn (l ++ 10 :: m) _ w3 H3.out.tab (by simp; omega) hfeed ((q : Int) + (l.length : Int) + 1) (by omega)).mono ?_
        rintro e w4 ⟨rfl, hb⟩
        have H4 := hide (H3.out.later hb)
        have hq := (lexR_bad [] m 0 q (by rw [← lexS_R]; exact hy)).2.1
        clear hb H3
        go_wp2_with fail
        go_ret
        exact ⟨rfl, H4.out.1.1⟩
      | ok ys =>
        rw [hy] at hfeed
        simp only [shiftE, Except.map] at hfeed
        have HLX := hide (lexR_ok l 0 xs (by rw [← lexS_R]; exact hx)).2.1
        have HLY := hide (lexR_ok m 0 ys hy).2.1
        rw [← lexS_R] at hy
        refine (lex_ans m w2 H2.out.tab (by omega)).mono ?_
        rintro e w3 ⟨ha, hb⟩
        rw [hy] at ha
        obtain ⟨A3, c3, rfl, ht3, ho3⟩ := ha
        have H3 := hide ((H2.out.later hb).more ht3)
        have HO2' := hide (own_later HO2.out hb)
        clear hb H2 ht3 ho3 HO2
        go_wp2_with fail
        rw [HJ.out]
        with_reducible refine (lex_ok (l ++ 10 :: m) _ w3 H3.out.tab (by simp; omega) hfeed).mono ?_
        rintro e w4 ⟨A4, c4, rfl, ht4, hb⟩
        have H4 := hide ((H3.out.later hb).more ht4)
        have HO4 := hide (own_later HO2'.out hb)
        clear hb H3 ht4 HO2'
        have HOE := hide (own_empty w4 w4.heap.size 35 35 4 rfl (Nat.le_refl _))
        have HOL := hide (own_later HO4.out (below_new w4 (.cells #[] 35)))
        have HSE := hide (show w4.heap.size ≤ (w4.alloc (.cells #[] 35)).heap.size by simp)
        clear HO4
        go_wp2_with (at_builtin; refine wpList_of_wp (by rfl) (wp_app_tk (.tmp 82) (.tmp 83) rfl w4.heap.size _ 0 [] rfl rfl HOE.out w1.heap.size _ xs.length xs rfl rfl HOL.out (by have := HLX.out; omega) HSE.out ?_); intro v5 w5 hown5 hg5)
        have hb5 : Below w4.heap.size w4 w5 := below_of_only (below_new w4 _) hg5 (Nat.le_refl _)
        have HB5 := hide hb5
        rw [List.nil_append, Nat.zero_add] at hown5
        have HO5 := hide hown5
        have hyl : ys.length ≤ 3000 := by have := HLY.out; omega
        clear hg5 hb5 hown5 HOE HOL HSE
        go_loopw [14, 87] (fun v i wr => ∃ k : Nat, k ≤ ys.length ∧ i = .int .i64 k ∧ Hid (wr.ownsRow w4.heap.size 35 4 v (xs.length + k) (tcs (xs ++ (ys.take k).map (Tk.shift (l.length + 1)))) ∧ Below w4.heap.size w4 wr)) (fun _ i _ => ys.length - (intOf i).toNat)
        case atStart =>
          exact ⟨0, Nat.zero_le _, rfl, hide ⟨by simpa using HO5.out, HB5.out⟩⟩
        case round =>
          clear HO5 HB5
          obtain ⟨k, hk, rfl, HI⟩ := hrel
          by_cases hlt : k < ys.length
          · obtain ⟨b, o, rfl, _, x0, x1, x2, x3⟩ := ((H4.out.at (A := A3) (l := toks ys) (by simp)).below HI.out.2) k (by simpa using hlt)
            simp only [toks, List.getElem_map] at x0 x1 x2 x3
            have HTK := hide (show (ys.take (k + 1)).map (Tk.shift (l.length + 1)) = (ys.take k).map (Tk.shift (l.length + 1)) ++ [Tk.shift (l.length + 1) ys[k]] by rw [List.take_succ_eq_append_getElem hlt, List.map_append]; rfl)
            have htp := (lexR_pos m 0 ys (by rw [← lexS_R]; exact hy) ys[k] (List.getElem_mem hlt)).2
            rw [Nat.zero_add] at htp
            generalize ys[k] = t at *
            have HC := hide (show [Value.int .i64 (t.kind : Nat), .string (str t.text), .int .i64 (t.n : Nat), .int .i64 ((t.pos : Int) + ((l.length : Int) + 1))] = tcs [Tk.shift (l.length + 1) t] by simp [tcs, Tk.cs, Tk.shift])
            have HW1 := hide (below_new wr (.cells #[.int .i64 (t.kind : Nat), .string (str t.text), .int .i64 (t.n : Nat), .int .i64 ((t.pos : Int) + ((l.length : Int) + 1))] 35))
            have HW2 := hide (below_one HW1.out (below_new _ (.cells #[.int .i64 (t.kind : Nat), .string (str t.text), .int .i64 (t.n : Nat), .int .i64 ((t.pos : Int) + ((l.length : Int) + 1))] 35)))
            have HVO := hide (own_later HI.out.1 HW2.out)
            have HNO : Hid (((wr.alloc (.cells #[.int .i64 (t.kind : Nat), .string (str t.text), .int .i64 (t.n : Nat), .int .i64 ((t.pos : Int) + ((l.length : Int) + 1))] 35)).alloc (.cells #[.int .i64 (t.kind : Nat), .string (str t.text), .int .i64 (t.n : Nat), .int .i64 ((t.pos : Int) + ((l.length : Int) + 1))] 35)).ownsRow 0 35 4 (.slice (some ⟨wr.heap.size + 1, 0, none⟩) 1 1) 1 (tcs [Tk.shift (l.length + 1) t])) := by
              have := World.ownsRow_lit (base := 0) (size := 4) (e := 35) (wr.alloc (.cells #[.int .i64 (t.kind : Nat), .string (str t.text), .int .i64 (t.n : Nat), .int .i64 ((t.pos : Int) + ((l.length : Int) + 1))] 35)) #[.int .i64 (t.kind : Nat), .string (str t.text), .int .i64 (t.n : Nat), .int .i64 ((t.pos : Int) + ((l.length : Int) + 1))] 1 (Nat.zero_le _) (by decide) rfl
              rw [show (wr.alloc (.cells #[.int .i64 (t.kind : Nat), .string (str t.text), .int .i64 (t.n : Nat), .int .i64 ((t.pos : Int) + ((l.length : Int) + 1))] 35)).heap.size = wr.heap.size + 1 by simp] at this
              rw [← HC.out]
              exact hide this
            have HSE := hide (show w4.heap.size ≤ ((wr.alloc (.cells #[.int .i64 (t.kind : Nat), .string (str t.text), .int .i64 (t.n : Nat), .int .i64 ((t.pos : Int) + ((l.length : Int) + 1))] 35)).alloc (.cells #[.int .i64 (t.kind : Nat), .string (str t.text), .int .i64 (t.n : Nat), .int .i64 ((t.pos : Int) + ((l.length : Int) + 1))] 35)).heap.size by have := HI.out.2.size; simp; omega)
            have HVL := hide (fun k' (e : u14.ownBlock = some k') => (HI.out.1.lt k' e).1)
            obtain ⟨Av, Nv, Cv, rfl⟩ := own_slice HI.out.1
            go_wp2_with (at_builtin; refine wpList_of_wp (by rfl) (wp_app_tk (.tmp 98) (.tmp 100) rfl w4.heap.size _ (xs.length + k) (xs ++ (ys.take k).map (Tk.shift (l.length + 1))) rfl (by simp; omega) HVO.out 0 _ 1 [Tk.shift (l.length + 1) t] rfl rfl HNO.out (by have := HLX.out; have := HLY.out; omega) HSE.out ?_); intro v6 w6 hown6 hg6)
            have HB6 := hide ((HI.out.2.trans (HW2.out.mono HI.out.2.size)).grown hg6 HSE.out (fun k' e => HVL.out k' e))
            have HO6 := hide hown6
            clear hown6 hg6 HVO HNO HVL HSE HW1 HW2 HC x0 x1 x2 x3
            go_roundw
            case rel =>
              refine ⟨k + 1, by omega, by go_num, hide ⟨?_, HB6.out⟩⟩
              rw [HTK.out, ← List.append_assoc, ← Nat.add_assoc]
              exact HO6.out
            case measure => simp [intOf]; omega
          · obtain rfl : k = ys.length := by omega
            have hfin : wr.ownsRow w4.heap.size 35 4 u14 (xs ++ ys.map (Tk.shift (l.length + 1))).length (tcs (xs ++ ys.map (Tk.shift (l.length + 1)))) := by
              have := HI.out.1
              rw [List.take_length] at this
              rw [List.length_append, List.length_map]
              exact this
            obtain ⟨Av, cv, rfl, htv⟩ := toks_own hfin
            rw [List.length_append, List.length_map]
            have HTV := hide htv
            have H5 := hide (H4.out.later HI.out.2)
            clear htv hfin HI H4
            have hlen : (xs ++ ys.map (Tk.shift (l.length + 1))).length = xs.length + ys.length := by simp
            go_wp2_with fail
            have HLE := hide (show xs.length + ys.length ≤ 100000 by have := HLX.out; have := HLY.out; omega)
            refine (requal_is A4 Av (toks (xs ++ ys.map (Tk.shift (l.length + 1)))) (toks (xs ++ ys.map (Tk.shift (l.length + 1)))) (xs.length + ys.length) (xs.length + ys.length) c4 cv true wr (by simp) (by simp) HLE.out (H5.out.at (by simp)) HTV.out (equal_self _)).mono ?_
            rintro e w7 ⟨rfl, hb⟩
            have H7 := hide (H5.out.later hb)
            clear hb H5
            go_wp2_with fail
            go_ret
            exact ⟨rfl, H7.out.1.1⟩
theorem joined_any (s t : ByteArray) (w : World) (h : Tab w ∧ Pow w) (hs : s.size ≤ 140737488351232) (ht : t.size ≤ 140737488351232) :
    Calls Tryd.prog 7 #[.string s, .string t] w fun e w' => e = .returned (.bool true) ∧ Below w.heap.size w w' := by
  have := joined_walk s.data.toList t.data.toList w h.1 h.2 (by simpa using hs) (by simpa using ht)
  rwa [str_data, str_data] at this
end Go.Proofs.YtemapfhiiefieaaDoor
