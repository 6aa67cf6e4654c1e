/- encode of the reference, whatever the value; Encode and Size of the reference. -/
import Derived.Test.YtccdencaidopnaaREnc
import Derived.Test.YtccdencaidopnaaRChk
namespace Go.Proofs.Ytccdencaidopnaa
open Go.RowKit

/-- Behind a call that only makes new memory, everything is kept. -/
theorem Keeps.later {B : Nat} {a w w' : World} (h : Keeps B a w) (hB : B ≤ w.heap.size) (hb : Below w.heap.size w w') : Keeps B a w' :=
  ⟨below_step h.below hb hB, fun x cs T hT hx => by
    have h1 := h.other x cs T hT hx
    rw [hb.block x (Array.getElem?_eq_some_iff.1 h1).1]
    exact h1⟩
theorem Box.keeps {B : Nat} {w w' : World} {X : Nat} {t : VT} (h : Box w X t) (hk : Keeps B w w') : Box w' X t := hk.other X _ 24 (by decide) h

set_option maxRecDepth 10000 in
set_option maxHeartbeats 1600000 in
theorem renc_3 (t : VT) (w : World) (hin : t.In w) (h1 : t.kind ≠ 1) (h2 : t.kind ≠ 2) (hlen : t.enc.length ≤ 4294967296) (ih : ∀ i (h : i < t.els.length), REncAt t.els[i]) : Calls Try.prog 29 #[t.val] w (BytesPost t.enc w) := by
  obtain ⟨i0, hi0, hz0, hz1, hz2⟩ := info_parts Try.info5
  have HI := hide (And.intro hi0 (And.intro hz0 (And.intro hz1 hz2)))
  have he : t.enc = ([3] ++ numeral t.els.length) ++ VT.enc.encs t.els := by rw [VT.enc_eq, if_neg h1, if_neg h2]; simp
  have HE := hide he
  rw [he] at hlen
  simp only [List.length_append, List.length_cons, List.length_nil] at hlen
  obtain ⟨_, _, _, hel⟩ := hin.facts
  have hu : t.els.length < 18446744073709551616 := by omega
  obtain ⟨-, hl10, hl1⟩ := numeral_len hu
  have b1 : (t.kind == 1) = false := by simp [h1]
  have b2 : (t.kind == 2) = false := by simp [h2]
  have HN := fun W => hide (rnumeral_any t.els.length hu W)
  have hwr : IntKind.u64.wrap (t.els.length : Int) = t.els.length := by rw [IntKind.wrap_u64]; omega
  have bx := hide (Box.new w t)
  have IH := hide ih
  obtain ⟨A, hv, hsl, hA⟩ := hin.open
  have HSL := hide hsl
  clear hi0 hz0 hz1 hz2 h1 h2 he hsl ih hv
  go_enter Try.func29, Try.ntmps29
  go_wp2_with fail
  have hw1 := hide ((below_new w (.cells #[.int .i64 t.kind, .int .i64 t.num, .string t.str, t.sl] 24)).alloc (by simp) (.cells #[.int .u8 3] 5))
  have ho1 := hide (own_first w (.cells #[.int .i64 t.kind, .int .i64 t.num, .string t.str, t.sl] 24) 3 3 rfl)
  have bx1 := hide (bx.out.later (below_new _ (.cells #[.int .u8 3] 5)))
  generalize (w.alloc (.cells #[.int .i64 t.kind, .int .i64 t.num, .string t.str, t.sl] 24)).alloc (.cells #[.int .u8 3] 5) = w1 at *
  refine (HN w1).out.mono ?_
  rintro e w2 ⟨v2, rfl, hb2, ho2⟩
  obtain ⟨g, cap, rfl, hc⟩ := ho2.form (by omega)
  have hwn := hide (ho1.out.later hb2)
  have bx2 := hide (bx1.out.later hb2)
  have hB2 := hide (below_one hw1.out hb2)
  have hs2 := hB2.out.size
  have hlen2 := bs_length (numeral t.els.length)
  have hone := bs_one (numeral t.els.length)
  generalize hNB : numeral t.els.length = NB at *
  clear ho1 ho2 hw1 hb2 bx bx1 hwr
  go_wp2_with (at_builtin; refine wpList_append_own _ rfl _ _ 27 rfl w.heap.size 5 i0 (.int .u8 0) 1 1 Try.underlying27 HI.out.1 HI.out.2.1 HI.out.2.2.1 HI.out.2.2.2 rfl (by decide) _ 1 (bs [3]) rfl hwn.out ⟨g, 0, none⟩ NB.length cap (bs NB) rfl (by omega) hc hone (by unfold maxLen; omega) (by omega) hs2 ?_; intro v3 w3 hown3 hg3 _)
  have bx3 := hide (bx2.out.keeps ((Keeps.refl _ _).grown hwn.out (Nat.le_refl _) hg3 hs2))
  have hB3 := hide (hB2.out.grown hg3 hs2 (fun k hk => (World.ownsRow.lt hwn.out k hk).1))
  have ho3 := hide (show Own w.heap.size v3 ([3] ++ NB) w3 by unfold Own; rw [List.length_append, bs_append]; exact hown3)
  clear hown3 hg3 hwn bx2 hB2 hc hone hlen2 HN hs2
  go_loopw [3, 4] (fun out i wr => ∃ k : Nat, k ≤ t.els.length ∧ i = .int .i64 k ∧ Hid (Own w.heap.size out ([3] ++ NB ++ VT.enc.encs (t.els.take k)) wr) ∧ Hid (Box wr w.heap.size t) ∧ Below w.heap.size w wr) (fun _ i _ => t.els.length - (intOf i).toNat)
  case atStart => exact ⟨0, Nat.zero_le _, rfl, hide (by simpa [VT.enc.encs] using ho3.out), bx3, hB3.out⟩
  case round =>
    obtain ⟨k, hk, rfl, HO, HX, hb⟩ := hrel
    obtain ⟨_, _, _, y3⟩ := HX.out.cells
    rw [HSL.out] at y3
    have hle := VT.encs_take_le t.els k
    by_cases hlt : k < t.els.length
    · obtain ⟨b, o, rfl, ha⟩ := hA k hlt
      obtain ⟨⟨c0, c1, c2, c3⟩, hink⟩ := (hin.later hb).el ha hlt
      have hsk := VT.encs_get_le hlt
      have HT := hide (VT.encs_take hlt)
      have hlk := congrArg List.length HT.out
      rw [List.length_append] at hlk
      have hle2 := VT.encs_take_le t.els (k + 1)
      have hne := List.length_pos_iff.2 (enc_ne t.els[k])
      have HC := hide (IH.out k hlt wr hink (by omega))
      have hl2 := hide (show ([3] ++ NB ++ VT.enc.encs (t.els.take k)).length = ([3] ++ NB).length + (VT.enc.encs (t.els.take k)).length from List.length_append)
      have hl3 := hide (show ([3] ++ NB).length = 1 + NB.length from List.length_append)
      clear ha
      go_wp2_with (first
        | (go_at_call 29; refine HC.out.mono ?_; rintro e w4 ⟨v4, rfl, hb4, ho4⟩; obtain ⟨g4, cap4, rfl, hc4⟩ := ho4.form hne; have hO4 := hide (HO.out.later hb4); have hB4 := hide (below_one hb hb4); have hs4 := hB4.out.size; have hX4 := hide (HX.out.later hb4))
        | (at_builtin; refine wpList_append_own _ rfl _ _ 27 rfl w.heap.size 5 i0 (.int .u8 0) 1 1 Try.underlying27 HI.out.1 HI.out.2.1 HI.out.2.2.1 HI.out.2.2.2 rfl (by decide) _ _ (bs ([3] ++ NB ++ VT.enc.encs (t.els.take k))) rfl hO4.out ⟨g4, 0, none⟩ _ cap4 (bs (t.els[k]).enc) rfl (by rw [bs_length, Nat.mul_one]) hc4 (bs_one _) (by rw [hl2.out, hl3.out]; unfold maxLen; omega) (by rw [hl2.out, hl3.out]; omega) hs4 ?_; intro v5 w5 hown5 hg5 _))
      refine ⟨⟨k + 1, by omega, by go_num, hide ?_, hide (hX4.out.keeps ((Keeps.refl _ _).grown hO4.out (Nat.le_refl _) hg5 hs4)), hB4.out.grown hg5 hs4 (fun k hk => (World.ownsRow.lt hO4.out k hk).1)⟩, by simp [intOf]; omega⟩
      unfold Own
      rw [HT.out, ← List.append_assoc, List.length_append, bs_append]
      exact hown5
    · obtain rfl : k = t.els.length := by omega
      have HF := hide (List.take_length (l := t.els))
      go_wp2_with fail
      go_ret
      refine ⟨_, rfl, hb, ?_⟩
      have := HO.out
      rw [HF.out] at this
      rw [HE.out]
      exact this

theorem renc_any : ∀ (N : Nat) (t : VT), t.sz ≤ N → REncAt t := by
  intro N
  induction N with
  | zero => intro t h; cases t; simp [VT.sz] at h
  | succ N ih =>
    intro t h w hin hlen
    by_cases h1 : t.kind = 1
    · exact renc_1 t w hin h1
    · by_cases h2 : t.kind = 2
      · exact renc_2 t w hin h2
      · exact renc_3 t w hin h1 h2 hlen fun i hi => ih _ (by have := VT.sz_lt hi; omega)

set_option maxHeartbeats 800000 in
theorem refEncode_any (t : VT) (w : World) (hin : t.In w) (hsz : t.sz ≤ 1000000) (hlen : t.enc.length ≤ 4294967296) : Calls Try.prog 13 #[t.val] w (EncPost t w) := by
  have H1 := fun W hW => hide (rcheck_any t W hW hsz)
  by_cases hc : chk t = 0
  · have HP := hide hc
    rw [hc] at H1
    have H2 := fun W hW => hide (renc_any t.sz t (Nat.le_refl _) W hW hlen)
    clear hc
    go_enter Try.func13, Try.ntmps13
    go_wp2_with (first | (go_at_call 17; refine (H1 _ (hin.alloc _)).out.mono ?_; rintro e w1 ⟨rfl, hb1⟩; have bx1 := hide ((Box.new w t).later hb1); obtain ⟨c0, c1, c2, c3⟩ := bx1.out.cells; have hB1 := hide (below_two (Below.refl _ _) hb1)) | (go_at_call 29; refine (H2 _ ((hin.alloc _).later hb1)).out.mono ?_; rintro e w2 ⟨v, rfl, hb2, ho2⟩))
    go_ret2
    refine ⟨v, by rw [HP.out]; rfl, below_one hB1.out hb2, ?_⟩
    rw [if_pos HP.out]
    exact own_weak ho2 hB1.out.size
  · have hne : ((chk t : Int) != 0) = true := by simp; omega
    have HP := hide hc
    clear hc
    have HG := hide (show ∀ w', Below w.heap.size w w' → EncPost t w (.returned (.tuple #[.slice none 0 0, .int .i64 (chk t : Nat)])) w' from fun w' hb => ⟨_, rfl, hb, by rw [if_neg HP.out]⟩)
    generalize hcc : chk t = c at *
    clear hcc
    go_enter Try.func13, Try.ntmps13
    go_wp2_with (first | (go_at_call 17; refine (H1 _ (hin.alloc _)).out.mono ?_; rintro e w1 ⟨rfl, hb1⟩))
    go_ret2
    exact HG.out _ (below_two (Below.refl _ _) hb1)

set_option maxHeartbeats 800000 in
theorem refSize_any (t : VT) (w : World) (hin : t.In w) (hsz : t.sz ≤ 1000000) (hlen : t.enc.length ≤ 4294967296) :
    Calls Try.prog 15 #[t.val] w fun e w' => e = .returned (.tuple #[.int .i64 (if chk t = 0 then (t.enc.length : Nat) else 0 : Nat), .int .i64 (chk t : Nat)]) ∧ Below w.heap.size w w' := by
  have H1 := fun W hW => hide (refEncode_any t W hW hsz hlen)
  unfold EncPost at H1
  by_cases hc : chk t = 0
  · simp only [if_pos hc] at H1 ⊢
    clear hc
    generalize chk t = c at *
    go_enter Try.func15, Try.ntmps15
    go_wp2_with fail
    refine (H1 _ (hin.alloc _)).out.mono ?_
    rintro e w1 ⟨v, rfl, hb1, ho1⟩
    have hB1 := hide (below_two (Below.refl _ _) hb1)
    obtain ⟨a, cap, rfl, _⟩ := Own.inb ho1
    clear ho1 H1 hb1
    go_wp2_with fail
    go_ret2
    exact ⟨rfl, hB1.out⟩
  · simp only [if_neg hc] at H1 ⊢
    clear hc
    generalize chk t = c at *
    go_enter Try.func15, Try.ntmps15
    go_wp2_with fail
    refine (H1 _ (hin.alloc _)).out.mono ?_
    rintro e w1 ⟨v, rfl, hb1, rfl⟩
    have hB1 := hide (below_two (Below.refl _ _) hb1)
    clear H1 hb1
    go_wp2_with fail
    go_ret2
    exact ⟨rfl, hB1.out⟩
end Go.Proofs.Ytccdencaidopnaa
