/- sane of the statements answers true: its walk. -/
import Derived.Test.YtccdencaidopnaaSane
namespace Go.Proofs.Ytccdencaidopnaa
open Go.RowKit

/-- The list of the number 100 and the text ab, at a block. -/
def abT (g : Nat) : VT := .mk 3 0 ⟨#[]⟩ (some ⟨g, 0, none⟩) 2 [intT 100, textT ⟨#[97, 98]⟩]

theorem abT_enc (g : Nat) : (abT g).enc = [3, 2, 1, 200, 1, 2, 2, 97, 98] := by rfl
theorem abT_sz (g : Nat) : (abT g).sz = 3 := by rfl
theorem abT_wf (g : Nat) : (abT g).wf = true := by simp [abT, intT, textT, VT.wf, VT.wf.wfs, Lib.toList_data]
theorem abT_chk (g : Nat) : chk (abT g) = 0 := by
  have : (abT g).dep = 1 := by rfl
  simp [chk, abT_wf, this]
theorem neg3_enc : (intT (-3)).enc = [1, 5] := by rfl

theorem abT_in {w : World} {g : Nat} (h : w.heap[g]? = some (.cells #[.int .i64 1, .int .i64 100, .string ⟨#[]⟩, .slice none 0 0, .int .i64 2, .int .i64 0, .string ⟨#[97, 98]⟩, .slice none 0 0] 24 (0, 0))) : (abT g).In w := by
  refine VT.In.mk (by simp [abT, VT.kind]) (by simp [abT, VT.num]) (by simp [abT, VT.str, ByteArray.size]) (by simp [abT, VT.els]) (fun _ => ⟨g, 0, rfl⟩) (fun i hi b o e => ?_)
  simp only [abT, VT.adr, Option.some.injEq, Addr.mk.injEq, and_true] at e
  obtain ⟨rfl, rfl⟩ := e
  have hc := fun j => cell_of_row w g j _ _ _ h
  match i, hi with
  | 0, _ => exact ⟨⟨by rw [hc]; rfl, by rw [hc]; rfl, by rw [hc]; rfl, by rw [hc]; rfl⟩, intT_in 100 (by omega) w⟩
  | 1, _ => exact ⟨⟨by rw [hc]; rfl, by rw [hc]; rfl, by rw [hc]; rfl, by rw [hc]; rfl⟩, textT_in _ (by simp [ByteArray.size]) w⟩
  | i + 2, hi => exact absurd hi (by simp [abT, VT.els])

theorem Box.more {w : World} {X : Nat} {t : VT} (h : Box w X t) (o : Obj) : Box (w.alloc o) X t := h.later (below_new _ _)
/-- The cells of the boxed list, in full. -/
theorem abT_cells {w : World} {X G : Nat} (h : Box w X (abT G)) : w.cell? ⟨X, 0, none⟩ = some (.int .i64 3) ∧ w.cell? ⟨X, 1, none⟩ = some (.int .i64 0) ∧ w.cell? ⟨X, 2, none⟩ = some (.string ⟨#[]⟩) ∧ w.cell? ⟨X, 3, none⟩ = some (.slice (some ⟨G, 0, none⟩) 2 2) := h.cells

/-- '[]byte(s)'. -/
theorem bytes_of (s : ByteArray) (w : World) (hs : s.size ≤ 1000000000) : ∃ g cap w', (convert 9 27 (.string s)).run Try.prog w = .ok (.slice (some ⟨g, 0, none⟩) s.size cap) w' ∧ Below w.heap.size w w' ∧ Inb w' (some ⟨g, 0, none⟩) s.data.toList ∧ s.size ≤ cap ∧ cap ≤ 9223372036854775807 := by
  refine ⟨_, _, _, run_bytes_of_string w 9 27 5 s Try.underlying9 Try.underlying27 Try.underlying5, ?_, ⟨by rintro p ⟨⟩; rfl, fun i hi => ⟨_, 0, rfl, by simp, ?_⟩⟩, grownCap_ge _ _ _ _, ?_⟩
  · exact (Below.refl _ _).drew.alloc (by simp) _
  · rw [cell_of_row _ w.heap.size (0 + i) _ _ _ (heap_alloc_new w.drew _), Nat.zero_add, bytesRow_at s _ i (by simpa using hi)]
    simp
  · have := grownCap_le_maxLen w s.size 0 5 (by unfold maxLen; omega)
    unfold maxLen at this
    omega

theorem no_enc0 : ∀ t : VT, t.wf = true → t.fits → ([] : List UInt8) ≠ t.enc := fun t _ _ h => enc_ne t h.symm

theorem no_enc1 (l : List UInt8) (hl : ∀ u r, u < 18446744073709551616 → l ≠ numeral u ++ r ∨ r ≠ []) : ∀ t : VT, t.wf = true → t.fits → 1 :: l ≠ t.enc := by
  intro t hw hf h
  have hk := cons_enc (rest := []) hw (by simpa using h)
  rw [VT.enc_eq, if_pos (by simpa using hk)] at h
  rw [VT.fits_eq] at hf
  simp at h
  rcases hl _ [] (uns_lt hf.1.1 hf.1.2) with h1 | h1
  · exact h1 (by simpa using h)
  · exact h1 rfl

theorem no_enc_a : ∀ t : VT, t.wf = true → t.fits → ([1, 128, 0] : List UInt8) ≠ t.enc :=
  no_enc1 [128, 0] fun u r hu => .inl (numeral_not (d := [128]) (c := 0) (r := []) (by intro x hx; simp at hx; subst hx; decide) (by decide) (.inl ⟨by simp, by decide⟩) hu)

theorem no_enc_b : ∀ t : VT, t.wf = true → t.fits → ([1, 5, 0] : List UInt8) ≠ t.enc :=
  no_enc1 [5, 0] fun u r hu => by
    by_cases h : ([5, 0] : List UInt8) = numeral u ++ r
    · right
      have h5 : numeral 5 = [5] := by rfl
      have := (numeral_prefix (u := 5) (r := [0]) (by omega) hu (by rw [h5]; simpa using h)).2
      rw [← this]; simp
    · exact .inl h

theorem no_enc_c : ∀ t : VT, t.wf = true → t.fits → ([2, 3, 97] : List UInt8) ≠ t.enc := by
  intro t hw hf h
  have hk := cons_enc (rest := []) hw (by simpa using h)
  rw [text_enc (by simpa using hk)] at h
  rw [VT.fits_eq] at hf
  simp only [List.cons.injEq, true_and] at h
  have h3 : numeral 3 = [3] := by rfl
  obtain ⟨h4, h5⟩ := numeral_prefix (u := 3) (u' := t.str.size) (r := [97]) (r' := t.str.data.toList) (by omega) (by have := hf.2.1; omega) (by rw [h3]; simpa using h)
  have := congrArg List.length h5
  rw [Array.length_toList] at this
  have hs : t.str.data.size = t.str.size := rfl
  simp at this
  omega

set_option maxRecDepth 10000 in
set_option maxHeartbeats 1600000 in
theorem sane_any (w : World) : Calls Try.prog 10 #[] w fun e w' => e = .returned (.bool true) ∧ Below w.heap.size w w' := by
  go_enter Try.func10, Try.ntmps10
  go_wp2_with fail
  refine (int_any (-3) _).mono ?_
  rintro e w1 ⟨rfl, hb1⟩
  go_wp2_with fail
  refine (encode_ok (intT (-3)) w1 (intT_in _ (by omega) _) (by simp [intT_sz]) (by simp [neg3_enc]) (intT_chk _)).mono ?_
  rintro e w2 ⟨va, rfl, hb2, ho2⟩
  rw [neg3_enc] at ho2
  have HB2 := hide (below_one hb1 hb2)
  have HO2 := hide ho2
  clear hb1 hb2 ho2
  go_wp2_with (first | (go_at_call 23; refine (int_any _ _).mono ?_; rintro e w3 ⟨rfl, hb3⟩) | (go_at_call 24; refine (text_any _ _).mono ?_; rintro e w4 ⟨rfl, hb4⟩) | (go_at_call 22; refine (list_any _ _ _ _).mono ?_; rintro e w5 ⟨rfl, hb5⟩))
  have hin5 := hide ((abT_in (heap_alloc_new w4 _)).later hb5)
  have bx6 := hide (Box.new w5 (abT w4.heap.size))
  have hB5 := hide (below_two (below_one (below_one HB2.out hb3) hb4) hb5)
  have HO5 := hide (((((HO2.out.later hb3).later hb4).later (below_new _ _)).later hb5).later (below_new w5 (.cells #[.int .i64 3, .int .i64 0, .string ⟨#[]⟩, .slice (some ⟨w4.heap.size, 0, none⟩) 2 2] 24)))
  have hin6 := hide (hin5.out.alloc (.cells #[.int .i64 3, .int .i64 0, .string ⟨#[]⟩, .slice (some ⟨w4.heap.size, 0, none⟩) 2 2] 24))
  have hB6 := hide (hB5.out.alloc hB5.out.size (.cells #[.int .i64 3, .int .i64 0, .string ⟨#[]⟩, .slice (some ⟨w4.heap.size, 0, none⟩) 2 2] 24))
  clear hb3 hb4 hb5 hin5 hB5
  change Hid (Box (w5.alloc (.cells #[.int .i64 3, .int .i64 0, .string ⟨#[]⟩, .slice (some ⟨w4.heap.size, 0, none⟩) 2 2] 24)) w5.heap.size (abT w4.heap.size)) at bx6
  generalize w5.alloc (.cells #[.int .i64 3, .int .i64 0, .string ⟨#[]⟩, .slice (some ⟨w4.heap.size, 0, none⟩) 2 2] 24) = w6 at *
  generalize w4.heap.size = G at *
  generalize w5.heap.size = X3 at *
  refine (encode_ok (abT G) w6 hin6.out (by simp [abT_sz]) (by simp [abT_enc]) (abT_chk _)).mono ?_
  rintro e w7 ⟨vb, rfl, hb7, ho7⟩
  rw [abT_enc] at ho7
  have bx7 := hide (bx6.out.later hb7)
  have hin7 := hide (hin6.out.later hb7)
  have HO7 := hide (HO5.out.later hb7)
  have hB7 := hide (below_one hB6.out hb7)
  clear bx6 hin6 HO5 hB6 hb7 HO2 HB2
  obtain ⟨a, cap, rfl, hinb, hcap1, hcap2, hcap3⟩ := ho7.inb
  have HB7 := hide ho7
  have HI7 := hide (And.intro hinb (And.intro hcap1 (And.intro hcap2 hcap3)))
  clear ho7 hinb hcap1 hcap2 hcap3
  go_wp2_with fail
  refine (decode_any a [3, 2, 1, 200, 1, 2, 2, 97, 98] cap w7 HI7.out.1 (by simp) HI7.out.2.1 HI7.out.2.2.1 HI7.out.2.2.2).mono ?_
  rintro e w8 ⟨⟨t, rfl, htin, htw, htd, hte⟩ | ⟨rfl, hno⟩, hb8⟩
  · have hsame := (VT.enc_prefix _ (abT G) t [] [] (Nat.le_refl _) (abT_wf G) htw (VT.In.fits _ (Nat.le_refl _) hin7.out) (VT.In.fits _ (Nat.le_refl _) htin) (by rw [abT_enc, hte])).1
    have HS := hide hsame
    have bx8 := hide (bx7.out.later hb8)
    have hin8 := hide (hin7.out.later hb8)
    have HO8 := hide (HO7.out.later hb8)
    have HV8 := hide (HB7.out.later hb8)
    have hB8 := hide (below_one hB7.out hb8)
    have htin8 := hide htin
    clear hte hsame htw htd hb8 htin bx7 hin7 HO7 HB7 hB7 HI7
    have x0 := fun o => (abT_cells (bx8.out.more o)).1
    have x1 := fun o => (abT_cells (bx8.out.more o)).2.1
    have x2 := fun o => (abT_cells (bx8.out.more o)).2.2.1
    have x3 := fun o => (abT_cells (bx8.out.more o)).2.2.2
    go_wp2_with fail
    refine (size_of (abT G) _ (hin8.out.alloc _) (by simp [abT_sz]) (by simp [abT_enc])).mono ?_
    rintro e w9 ⟨rfl, hb9⟩
    rw [abT_chk, if_pos rfl, abT_enc]
    have hbx := below_new w8 (.cells #[.int .i64 t.kind, .int .i64 t.num, .string t.str, t.sl] 24)
    have bx9 := hide ((bx8.out.more (.cells #[.int .i64 t.kind, .int .i64 t.num, .string t.str, t.sl] 24)).later hb9)
    have by9 := hide ((Box.new w8 t).later hb9)
    have hin9 := hide ((hin8.out.later hbx).later hb9)
    have htin9 := hide ((htin8.out.later hbx).later hb9)
    have cva := ((HO8.out.later hbx).later hb9).conv
    have cvb : (convert 27 9 (.slice a 9 cap)).run Try.prog w9 = .ok (.string ⟨#[3, 2, 1, 200, 1, 2, 2, 97, 98]⟩) w9 := ((HV8.out.later hbx).later hb9).conv
    have hB9 := hide (below_one (hB8.out.alloc hB8.out.size (.cells #[.int .i64 t.kind, .int .i64 t.num, .string t.str, t.sl] 24)) hb9)
    clear x0 x1 x2 x3 bx8 hin8 HO8 HV8 hB8 htin8 hbx hb9
    obtain ⟨x0, x1, x2, x3⟩ := abT_cells bx9.out
    obtain ⟨y0, y1, y2, y3⟩ := by9.out.cells
    generalize w8.heap.size = X8 at *
    go_wp2_with fail
    refine (same_any _ (abT G) t (Nat.le_refl _) w9 hin9.out htin9.out).mono ?_
    rintro e w10 ⟨rfl, hb10⟩
    rw [HS.out]
    have HB10 := hide (below_one hB9.out hb10)
    clear cva cvb x0 x1 x2 x3 y0 y1 y2 y3 bx9 by9 hin9 htin9 hB9 hb10 HS
    go_wp2_with (first | (go_at_call 24; refine (text_any _ _).mono ?_; rintro e w11 ⟨rfl, hb11⟩) | (go_at_call 22; refine (list_any _ _ _ _).mono ?_; rintro e w12 ⟨rfl, hb12⟩))
    refine (same_any _ (textT ⟨#[]⟩) (.mk 3 0 ⟨#[]⟩ none 0 []) (Nat.le_refl _) w12 (textT_in _ (by simp [ByteArray.size]) _) (VT.In.mk (by simp [VT.kind]) (by simp [VT.num]) (by simp [VT.str, ByteArray.size]) (by simp [VT.els]) (by simp [VT.els]) (by intro i h; simp [VT.els] at h))).mono ?_
    rintro e w13 ⟨rfl, hb13⟩
    have hf : (textT ⟨#[]⟩).same (.mk 3 0 ⟨#[]⟩ none 0 []) = false := by rfl
    rw [hf]
    have HB13 := hide (below_one (below_one (below_one HB10.out hb11) hb12) hb13)
    clear hf hb11 hb12 hb13 HB10
    go_wp2_with fail
    have hZ := hide (heap_alloc_new w13 (.cells #[.string ⟨#[]⟩, .string ⟨#[1, 128, 0]⟩, .string ⟨#[1, 5, 0]⟩, .string ⟨#[2, 3, 97]⟩] 9))
    have HB14 := hide (HB13.out.alloc HB13.out.size (.cells #[.string ⟨#[]⟩, .string ⟨#[1, 128, 0]⟩, .string ⟨#[1, 5, 0]⟩, .string ⟨#[2, 3, 97]⟩] 9))
    generalize w13.alloc (.cells #[.string ⟨#[]⟩, .string ⟨#[1, 128, 0]⟩, .string ⟨#[1, 5, 0]⟩, .string ⟨#[2, 3, 97]⟩] 9) = w14 at *
    generalize w13.heap.size = Z at *
    go_loopw [79] (fun i wr => ∃ k : Nat, k ≤ 4 ∧ i = .int .i64 k ∧ Below w.heap.size w wr ∧ Hid (Z < w14.heap.size) ∧ Below w14.heap.size w14 wr) (fun i _ => 4 - (intOf i).toNat)
    case atStart => exact ⟨0, by omega, rfl, HB14.out, hide (Array.getElem?_eq_some_iff.1 hZ.out).1, Below.refl _ _⟩
    case round =>
      obtain ⟨k, hk, rfl, hb, hZlt, hbz⟩ := hrel
      have hZr := hide ((hbz.block Z hZlt.out).trans hZ.out)
      by_cases hlt : k < 4
      · rcases (by omega : k = 0 ∨ k = 1 ∨ k = 2 ∨ k = 3) with rfl | rfl | rfl | rfl
        · have z := cell_of_row wr Z 0 _ _ _ hZr.out
          obtain ⟨g, cap2, w2', hcv, hb', hinb, hc1, hc2⟩ := bytes_of ⟨#[]⟩ wr (by simp [ByteArray.size])
          have HD := hide (decode_any (some ⟨g, 0, none⟩) [] cap2 w2' hinb (by simp) hc1 hc2 (by intro h; cases h))
          have HB' := hide (below_one hb hb')
          have HBZ := hide (below_one hbz hb')
          clear hb' hinb hc1 hc2 hb hbz
          go_wp2_with fail
          refine HD.out.mono ?_
          rintro e w16 ⟨⟨t2, rfl, htin2, htw2, htd2, hte2⟩ | ⟨rfl, hno2⟩, hb16⟩
          · exact absurd hte2 (no_enc0 t2 htw2 (VT.In.fits _ (Nat.le_refl _) htin2))
          · have HB16 := hide (below_one HB'.out hb16)
            have HBZ16 := hide (below_one HBZ.out hb16)
            clear hno2 hb16
            go_wp2_with fail
            refine ⟨⟨1, by omega, by go_num, HB16.out.alloc HB16.out.size _, hZlt, HBZ16.out.alloc HBZ16.out.size _⟩, by simp [intOf]⟩
        · have z := cell_of_row wr Z 1 _ _ _ hZr.out
          obtain ⟨g, cap2, w2', hcv, hb', hinb, hc1, hc2⟩ := bytes_of ⟨#[1, 128, 0]⟩ wr (by simp [ByteArray.size])
          have HD := hide (decode_any (some ⟨g, 0, none⟩) [1, 128, 0] cap2 w2' hinb (by simp) hc1 hc2 (by intro h; cases h))
          have HB' := hide (below_one hb hb')
          have HBZ := hide (below_one hbz hb')
          clear hb' hinb hc1 hc2 hb hbz
          go_wp2_with fail
          refine HD.out.mono ?_
          rintro e w16 ⟨⟨t2, rfl, htin2, htw2, htd2, hte2⟩ | ⟨rfl, hno2⟩, hb16⟩
          · exact absurd hte2 (no_enc_a t2 htw2 (VT.In.fits _ (Nat.le_refl _) htin2))
          · have HB16 := hide (below_one HB'.out hb16)
            have HBZ16 := hide (below_one HBZ.out hb16)
            clear hno2 hb16
            go_wp2_with fail
            refine ⟨⟨2, by omega, by go_num, HB16.out.alloc HB16.out.size _, hZlt, HBZ16.out.alloc HBZ16.out.size _⟩, by simp [intOf]⟩
        · have z := cell_of_row wr Z 2 _ _ _ hZr.out
          obtain ⟨g, cap2, w2', hcv, hb', hinb, hc1, hc2⟩ := bytes_of ⟨#[1, 5, 0]⟩ wr (by simp [ByteArray.size])
          have HD := hide (decode_any (some ⟨g, 0, none⟩) [1, 5, 0] cap2 w2' hinb (by simp) hc1 hc2 (by intro h; cases h))
          have HB' := hide (below_one hb hb')
          have HBZ := hide (below_one hbz hb')
          clear hb' hinb hc1 hc2 hb hbz
          go_wp2_with fail
          refine HD.out.mono ?_
          rintro e w16 ⟨⟨t2, rfl, htin2, htw2, htd2, hte2⟩ | ⟨rfl, hno2⟩, hb16⟩
          · exact absurd hte2 (no_enc_b t2 htw2 (VT.In.fits _ (Nat.le_refl _) htin2))
          · have HB16 := hide (below_one HB'.out hb16)
            have HBZ16 := hide (below_one HBZ.out hb16)
            clear hno2 hb16
            go_wp2_with fail
            refine ⟨⟨3, by omega, by go_num, HB16.out.alloc HB16.out.size _, hZlt, HBZ16.out.alloc HBZ16.out.size _⟩, by simp [intOf]⟩
        · have z := cell_of_row wr Z 3 _ _ _ hZr.out
          obtain ⟨g, cap2, w2', hcv, hb', hinb, hc1, hc2⟩ := bytes_of ⟨#[2, 3, 97]⟩ wr (by simp [ByteArray.size])
          have HD := hide (decode_any (some ⟨g, 0, none⟩) [2, 3, 97] cap2 w2' hinb (by simp) hc1 hc2 (by intro h; cases h))
          have HB' := hide (below_one hb hb')
          have HBZ := hide (below_one hbz hb')
          clear hb' hinb hc1 hc2 hb hbz
          go_wp2_with fail
          refine HD.out.mono ?_
          rintro e w16 ⟨⟨t2, rfl, htin2, htw2, htd2, hte2⟩ | ⟨rfl, hno2⟩, hb16⟩
          · exact absurd hte2 (no_enc_c t2 htw2 (VT.In.fits _ (Nat.le_refl _) htin2))
          · have HB16 := hide (below_one HB'.out hb16)
            have HBZ16 := hide (below_one HBZ.out hb16)
            clear hno2 hb16
            go_wp2_with fail
            refine ⟨⟨4, by omega, by go_num, HB16.out.alloc HB16.out.size _, hZlt, HBZ16.out.alloc HBZ16.out.size _⟩, by simp [intOf]⟩
      · obtain rfl : k = 4 := by omega
        have HB4 := hide hb
        clear hb hbz
        go_wp2_with fail
        refine (check_any (.mk 0 0 ⟨#[]⟩ none 0 []) wr (VT.In.mk (by simp [VT.kind]) (by simp [VT.num]) (by simp [VT.str, ByteArray.size]) (by simp [VT.els]) (by simp [VT.els]) (by intro i h; simp [VT.els] at h)) (by simp [VT.sz, VT.sz.szs])).mono ?_
        rintro e w20 ⟨rfl, hb20⟩
        have hc1 : chk (.mk 0 0 ⟨#[]⟩ none 0 []) = 1 := by simp [chk, VT.wf]
        rw [hc1]
        have HB20 := hide (below_one HB4.out hb20)
        clear hc1 hb20
        go_wp2_with fail
        go_ret
        exact ⟨rfl, HB20.out⟩
  · exact absurd (abT_enc G).symm (hno (abT G) (abT_wf G) (by have : (abT G).dep = 1 := by rfl
                                                              omega) (VT.In.fits _ (Nat.le_refl _) hin7.out))
end Go.Proofs.Ytccdencaidopnaa
