/- CodecEncodeSpec: for every value, Check, Encode and Size match the specification. No condition. The walk. -/
import Derived.Test.YtccdencaidopnaaTrip
import Derived.Test.YtccdencaidopnaaREncL
import Derived.Deep.RegionHeld3
namespace Go.Proofs.Ytccdencaidopnaa
open Go.RowKit

/-- A boxed value and two slices that are the same bytes, in a later world. -/
abbrev ES (t : VT) (X : Nat) (v v' : Value) (s : ByteArray) (w0 w : World) : Prop :=
  w.cell? ⟨X, 0, none⟩ = some (.int .i64 t.kind) ∧ w.cell? ⟨X, 1, none⟩ = some (.int .i64 t.num) ∧ w.cell? ⟨X, 2, none⟩ = some (.string t.str) ∧ w.cell? ⟨X, 3, none⟩ = some t.sl ∧
  (convert 27 9 v).run Try.prog w = .ok (.string s) w ∧ (convert 27 9 v').run Try.prog w = .ok (.string s) w ∧ Hid (Below w0.heap.size w0 w)
theorem ES.out {t : VT} {X : Nat} {v v' : Value} {s : ByteArray} {w0 w : World} (h : ES t X v v' s w0 w) : Below w0.heap.size w0 w := h.2.2.2.2.2.2.out

set_option maxRecDepth 10000 in
set_option maxHeartbeats 3200000 in
theorem encspec_walk (t : VT) (w : World) (hin : t.In w) :
    Calls Try.prog 3 #[t.val] w fun e w' => e = .returned (.bool true) ∧ Below w.heap.size w w' := by
  have hob := hide (OB.mk (w0 := w) (Box.new w t) (hin.alloc _) (below_new _ _))
  go_enter Try.func3, Try.ntmps3
  go_wp2_with fail
  refine (sane_any _).mono ?_
  rintro e w1 ⟨rfl, hb1⟩
  have hs1 := hide (hob.out.keep hb1)
  clear hob hb1
  obtain ⟨x0, x1, x2, x3, _⟩ := hs1.out
  go_wp2_with fail
  have hw1 := below_new w1 (.cells #[.int .i64 t.kind, .int .i64 t.num, .string t.str, t.sl] 24)
  have hs2 := hide (hs1.out.keep hw1)
  have hblk := heap_alloc_new w1 (.cells #[.int .i64 t.kind, .int .i64 t.num, .string t.str, t.sl] 24)
  have hfew := hide (few_any w1.heap.size 0 1 [t] _ (by simp) (fun i hi => by
    have hc := fun j => cell_of_row _ w1.heap.size j _ _ _ hblk
    obtain ⟨_, c, _⟩ := hs2.out.out
    match i, hi with
    | 0, _ => exact ⟨⟨by rw [hc]; rfl, by rw [hc]; rfl, by rw [hc]; rfl, by rw [hc]; rfl⟩, c⟩))
  clear x0 x1 x2 x3 hw1 hblk
  refine hfew.out.mono ?_
  rintro e w3 ⟨f, rfl, hf, hb3⟩
  have hs3 := hide (hs2.out.keep hb3)
  clear hs1 hs2 hb3 hfew
  cases f with
  | false =>
    go_wp2_with fail
    go_ret
    exact ⟨rfl, hs3.out.out.2.2⟩
  | true =>
    have ht : Small 200 t := hf.out rfl 0 (by simp)
    have hz : t.sz ≤ 1000000 := by have := ht.1; omega
    have hl : t.enc.length ≤ 4294967296 := by have := ht.2; omega
    have H1 := fun W (hW : t.In W) => hide (encode_any t W hW hz hl)
    have H2 := fun W (hW : t.In W) => hide (refEncode_any t W hW hz hl)
    have H3 := fun W (hW : t.In W) => hide (size_of t W hW hz hl)
    have H4 := fun W (hW : t.In W) => hide (refSize_any t W hW hz hl)
    have H5 := fun W (hW : t.In W) => hide (check_any t W hW hz)
    have H6 := fun W (hW : t.In W) => hide (rcheck_any t W hW hz)
    clear hf ht hz hl
    unfold EncPost at H1 H2
    generalize (if chk t = 0 then t.enc.length else 0) = n at *
    obtain ⟨x0, x1, x2, x3, _⟩ := hs3.out
    go_wp2_with fail
    refine (H1 _ hs3.out.out.2.1).out.mono ?_
    rintro e w4 ⟨v, rfl, hb4, ho4⟩
    have hs4 := hide (hs3.out.keep hb4)
    have ho4 := hide ho4
    clear hs3 hb4 x0 x1 x2 x3
    obtain ⟨x0, x1, x2, x3, _⟩ := hs4.out
    go_wp2_with fail
    refine (H2 _ hs4.out.out.2.1).out.mono ?_
    rintro e w5 ⟨v', rfl, hb5, ho5⟩
    have hs5 := hide (hs4.out.keep hb5)
    have hcv : ∃ s, ∀ W, Below w5.heap.size w5 W → (convert 27 9 v).run Try.prog W = .ok (.string s) W ∧ (convert 27 9 v').run Try.prog W = .ok (.string s) W := by
      by_cases hc : chk t = 0
      · have h4 := ho4.out
        rw [if_pos hc] at h4 ho5
        exact ⟨_, fun W hW => ⟨((Own.later h4 hb5).later hW).conv, (Own.later ho5 hW).conv⟩⟩
      · have h4 := ho4.out
        rw [if_neg hc] at h4 ho5
        subst h4 ho5
        exact ⟨_, fun W _ => ⟨run_convert_bytes_nil W 27 5 Try.underlying27 Try.underlying5 0 0 9 Try.underlying9, run_convert_bytes_nil W 27 5 Try.underlying27 Try.underlying5 0 0 9 Try.underlying9⟩⟩
    obtain ⟨s, hcv⟩ := hcv
    have HCV := hide hcv
    clear hs4 hb5 ho4 ho5 hcv x0 x1 x2 x3 H1 H2
    generalize chk t = c at *
    obtain ⟨x0, x1, x2, x3, _⟩ := hs5.out
    go_wp2_with fail
    refine (H3 _ hs5.out.out.2.1).out.mono ?_
    rintro e w6 ⟨rfl, hb6⟩
    have hs6 := hide (hs5.out.keep hb6)
    clear x0 x1 x2 x3
    obtain ⟨x0, x1, x2, x3, _⟩ := hs6.out
    go_wp2_with fail
    refine (H4 _ hs6.out.out.2.1).out.mono ?_
    rintro e w7 ⟨rfl, hb7⟩
    have hs7 := hide (hs6.out.keep hb7)
    have HK := hide (show ∀ W, Below w7.heap.size w7 W → ES t w.heap.size v v' s w7 W from fun W hW => by
      have h1 := hs7.out.keep hW
      have h2 := HCV.out W (below_one (below_one hb6 hb7) hW)
      exact ⟨h1.1, h1.2.1, h1.2.2.1, h1.2.2.2.1, h2.1, h2.2, hW⟩)
    have HC1 := fun W (hW : Below w7.heap.size w7 W) => hide (H5 W (hs7.out.out.2.1.later hW)).out
    have HC2 := fun W (hW : Below w7.heap.size w7 W) => hide (H6 W (hs7.out.out.2.1.later hW)).out
    have hB7 := hide hs7.out.out.2.2
    clear hs5 hs6 hs7 hb6 hb7 HCV H3 H4 H5 H6 x0 x1 x2 x3
    go_wp2_with fail
    go_region_held3 (fun w' => w'.cell? ⟨w.heap.size, 0, none⟩ = some (.int .i64 t.kind) ∧ w'.cell? ⟨w.heap.size, 1, none⟩ = some (.int .i64 t.num) ∧ w'.cell? ⟨w.heap.size, 2, none⟩ = some (.string t.str) ∧ w'.cell? ⟨w.heap.size, 3, none⟩ = some t.sl ∧
        (convert 27 9 v).run Try.prog w' = .ok (.string s) w' ∧ (convert 27 9 v').run Try.prog w' = .ok (.string s) w' ∧ Hid (Below w7.heap.size w7 w'))
      (first | exact HK.out _ (Below.refl _ _).drew | exact HK.out _ (Below.refl _ _) | exact HK.out _ (below_one (ES.out (t := t) (X := w.heap.size) (v := v) (v' := v') (s := s) (by assumption)) (by assumption)))
      (first | (go_at_call 16; refine (HC1 _ (ES.out (t := t) (X := w.heap.size) (v := v) (v' := v') (s := s) (by assumption))).out.mono ?_; rintro e w8 ⟨rfl, hb8⟩) | (go_at_call 17; refine (HC2 _ (ES.out (t := t) (X := w.heap.size) (v := v) (v' := v') (s := s) (by assumption))).out.mono ?_; rintro e w9 ⟨rfl, hb9⟩))
    have hB9 := hide (below_one hB7.out (ES.out (t := t) (X := w.heap.size) (v := v) (v' := v') (s := s) (w0 := w7) (by assumption)))
    go_wp2_with fail
    go_ret
    exact ⟨rfl, hB9.out⟩
end Go.Proofs.Ytccdencaidopnaa
