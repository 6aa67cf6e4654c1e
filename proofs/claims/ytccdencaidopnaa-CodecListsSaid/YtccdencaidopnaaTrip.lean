/- CodecRoundTrip: Decode of the encoding of a value returns it; Encode of what Decode returns are the bytes. No condition. The walk. -/
import Derived.Test.YtccdencaidopnaaDiff
import Derived.Test.YtccdencaidopnaaDecE
namespace Go.Proofs.Ytccdencaidopnaa
open Go.RowKit

/-- A boxed value in a later world. -/
abbrev OB (t : VT) (X : Nat) (w0 w : World) : Prop :=
  w.cell? ⟨X, 0, none⟩ = some (.int .i64 t.kind) ∧ w.cell? ⟨X, 1, none⟩ = some (.int .i64 t.num) ∧ w.cell? ⟨X, 2, none⟩ = some (.string t.str) ∧ w.cell? ⟨X, 3, none⟩ = some t.sl ∧
  Hid (Box w X t ∧ t.In w ∧ Below w0.heap.size w0 w)

theorem OB.mk {t : VT} {X : Nat} {w0 w : World} (a : Box w X t) (c : t.In w) (e : Below w0.heap.size w0 w) : OB t X w0 w :=
  ⟨a.cells.1, a.cells.2.1, a.cells.2.2.1, a.cells.2.2.2, a, c, e⟩
theorem OB.out {t : VT} {X : Nat} {w0 w : World} (h : OB t X w0 w) : Box w X t ∧ t.In w ∧ Below w0.heap.size w0 w := h.2.2.2.2.out
theorem OB.keep {t : VT} {X : Nat} {w0 w w' : World} (h : OB t X w0 w) (hb : Below w.heap.size w w') : OB t X w0 w' := by
  obtain ⟨a, c, e⟩ := h.out
  exact OB.mk (a.later hb) (c.later hb) (below_one e hb)

/-- The zero value. -/
def zeroT : VT := .mk 0 0 ⟨#[]⟩ none 0 []
theorem zeroT_in (w : World) : zeroT.In w :=
  VT.In.mk (by simp [zeroT, VT.kind]) (by simp [zeroT, VT.num]) (by simp [zeroT, VT.str, ByteArray.size]) (by simp [zeroT, VT.els]) (by simp [zeroT, VT.els]) (by intro i h; simp [zeroT, VT.els] at h)
theorem zeroT_same (w : World) : Calls Try.prog 21 #[.agg #[.int .i64 0, .int .i64 0, .string ⟨#[]⟩, .slice none 0 0], .agg #[.int .i64 0, .int .i64 0, .string ⟨#[]⟩, .slice none 0 0]] w fun e w' => e = .returned (.bool true) ∧ Below w.heap.size w w' := by
  refine (same_any _ zeroT zeroT (Nat.le_refl _) w (zeroT_in w) (zeroT_in w)).mono ?_
  rintro e w' ⟨rfl, hb⟩
  exact ⟨by rw [same_refl], hb⟩

theorem chk_of {t : VT} (hw : t.wf = true) (hd : t.dep ≤ 16) : chk t = 0 := by
  unfold chk
  rw [if_pos hw, if_neg (by omega)]

set_option maxRecDepth 10000 in
set_option maxHeartbeats 3200000 in
theorem trip_walk (t : VT) (a : Option Addr) (l : List UInt8) (cap : Nat) (w : World) (hin : t.In w) (hraw : Raw w a l cap) :
    Calls Try.prog 6 #[t.val, .slice a l.length cap] w fun e w' => e = .returned (.bool true) ∧ Below w.heap.size w w' := by
  have hcap := hraw.top
  have hlc := hraw.le
  have hob := hide (OB.mk (w0 := w) (Box.new w t) (hin.alloc _) (below_new _ _))
  have HR := hide (fun W (hW : Below w.heap.size w W) => hraw.later hW)
  clear hraw
  go_enter Try.func6, Try.ntmps6
  go_wp2_with fail
  refine (sane_any _).mono ?_
  rintro e w1 ⟨rfl, hb1⟩
  have hs1 := hide (hob.out.keep hb1)
  clear hob hb1
  obtain ⟨x0, x1, x2, x3, _⟩ := hs1.out
  go_wp2_with fail
  have hw1 := below_new w1 (.cells #[.int .i64 t.kind, .int .i64 t.num, .string t.str, t.sl] 24)
  have hs2 := hide (hs1.out.keep hw1)
  have hblk := heap_alloc_new w1 (.cells #[.int .i64 t.kind, .int .i64 t.num, .string t.str, t.sl] 24)
  have hfew := hide (few_any w1.heap.size 0 1 [t] _ (by simp) (fun i hi => by
    have hc := fun j => cell_of_row _ w1.heap.size j _ _ _ hblk
    obtain ⟨_, c, _⟩ := hs2.out.out
    match i, hi with
    | 0, _ => exact ⟨⟨by rw [hc]; rfl, by rw [hc]; rfl, by rw [hc]; rfl, by rw [hc]; rfl⟩, c⟩))
  clear x0 x1 x2 x3 hw1 hblk
  refine hfew.out.mono ?_
  rintro e w3 ⟨f, rfl, hf, hb3⟩
  have hs3 := hide (hs2.out.keep hb3)
  clear hs1 hs2 hb3 hfew
  cases f with
  | false =>
    go_wp2_with fail
    go_ret
    exact ⟨rfl, hs3.out.out.2.2⟩
  | true =>
    by_cases hlen : l.length ≤ 2000
    · have ht : Small 200 t := hf.out rfl 0 (by simp)
      have hl1 := hide ht
      clear hf ht
      obtain ⟨x0, x1, x2, x3, _⟩ := hs3.out
      have hl0 : (l.length : Int) ≤ 2000 := by omega
      have HCH := fun W (hW : t.In W) => hide (check_any t W hW (by have := hl1.out.1; omega))
      by_cases hc : chk t = 0
      · have HC := hide hc
        rw [hc] at HCH
        go_wp2_with fail
        refine (encode_ok t _ hs3.out.out.2.1 (by have := hl1.out.1; omega) (by have := hl1.out.2; omega) hc).mono ?_
        rintro e w4 ⟨v, rfl, hb4, ho4⟩
        have hs4 := hide (hs3.out.keep hb4)
        have ho4 := hide ho4
        clear hs3 hb4 hc x0 x1 x2 x3
        obtain ⟨x0, x1, x2, x3, _⟩ := hs4.out
        go_wp2_with fail
        refine (HCH _ hs4.out.out.2.1).out.mono ?_
        rintro e w5 ⟨rfl, hb5⟩
        have hs5 := hide (hs4.out.keep hb5)
        have ho5 := hide (ho4.out.later hb5)
        clear hs4 ho4 hb5 x0 x1 x2 x3
        obtain ⟨a4, c4, rfl, i4, k4, m4, z4⟩ := ho5.out.inb
        have HD := hide (decode_any a4 t.enc c4 w5 i4 (by have := hl1.out.2; omega) k4 m4 z4)
        clear i4 k4 m4 z4 ho5
        go_wp2_with fail
        refine HD.out.mono ?_
        rintro e w6 ⟨⟨u, rfl, huin, huw, hud, hue⟩ | ⟨rfl, hno⟩, hb6⟩
        · have hs6 := hide (hs5.out.keep hb6)
          have hsm := (VT.enc_prefix _ t u [] [] (Nat.le_refl _) (chk_wf HC.out) huw (VT.In.fits _ (Nat.le_refl _) hs6.out.out.2.1) (VT.In.fits _ (Nat.le_refl _) huin) (by rw [hue])).1
          have HS := hide hsm
          have hn := below_new w6 (.cells #[.int .i64 u.kind, .int .i64 u.num, .string u.str, u.sl] 24)
          have hs7 := hide (hs6.out.keep hn)
          have hu7 := hide (OB.mk (w0 := w6) (Box.new w6 u) (huin.alloc _) hn)
          clear hsm hue hs5 hb6 hs6 HD hn huin
          obtain ⟨x0, x1, x2, x3, _⟩ := hs7.out
          go_wp2_with fail
          refine (same_any _ t u (Nat.le_refl _) _ hs7.out.out.2.1 hu7.out.out.2.1).mono ?_
          rintro e w8 ⟨rfl, hb8⟩
          rw [HS.out]
          have hs8 := hide (hs7.out.keep hb8)
          have hu8 := hide (hu7.out.keep hb8)
          clear hs7 hu7 hb8 x0 x1 x2 x3
          obtain ⟨x0, x1, x2, x3, _⟩ := hs8.out
          obtain ⟨y0, y1, y2, y3, _⟩ := hu8.out
          go_wp2_with fail
          refine (rsame_any _ t u (Nat.le_refl _) _ hs8.out.out.2.1 hu8.out.out.2.1).mono ?_
          rintro e w9 ⟨rfl, hb9⟩
          rw [HS.out]
          have hB9 := hide (below_one hs8.out.out.2.2 hb9)
          have HR9 := hide (HR.out w9 hB9.out)
          clear hs8 hu8 hb9 x0 x1 x2 x3 y0 y1 y2 y3 HS HR HC HCH hl1
          go_wp2_with fail
          refine (decode_raw a l cap w9 HR9.out (by omega)).mono ?_
          rintro e wa ⟨⟨q, rfl, hqin, hqw, hqd, hqe⟩ | ⟨rfl, -⟩, hba⟩
          · have hBa := hide (below_one hB9.out hba)
            have hra := hide (HR9.out.later hba)
            have hoa := hide (OB.mk (w0 := wa) (Box.new wa q) (hqin.alloc _) (below_new _ _))
            have hqc := hide (chk_of hqw hqd)
            have hqz := hide (VT.sz_le_enc _ q (Nat.le_refl _) hqw)
            subst hqe
            clear hba hB9 HR9 hqin hqw hqd
            go_wp2_with fail
            refine (encode_ok q _ hoa.out.out.2.1 (by have := hqz.out; omega) (by omega) hqc.out).mono ?_
            rintro e wb ⟨vb, rfl, hbb, hob⟩
            have hrb := hide ((hra.out.later (below_new wa (.cells #[.int .i64 q.kind, .int .i64 q.num, .string q.str, q.sl] 24))).later hbb)
            have hoB := hide (hoa.out.keep hbb)
            have hBb := hide (below_two hBa.out hbb)
            have cv1 := hob.conv
            have hib := hrb.out.inb (enc_ne q)
            obtain ⟨b, o, rfl, -⟩ := hib.bytes 0 (List.length_pos_iff.2 (enc_ne q))
            have cv2 := Inb.conv hib q.enc.length cap (Nat.le_refl _)
            rw [List.take_length] at cv2
            clear hib hrb hob hBa hbb hra hoa
            obtain ⟨z0, z1, z2, z3, _⟩ := hoB.out
            go_wp2_with fail
            refine (check_any q _ hoB.out.out.2.1 (by have := hqz.out; omega)).mono ?_
            rintro e wc ⟨rfl, hbc⟩
            rw [hqc.out]
            have hBc := hide (below_one hBb.out hbc)
            clear z0 z1 z2 z3 hbc hoB hBb cv1 cv2
            go_wp2_with fail
            go_ret
            exact ⟨rfl, hBc.out⟩
          · have hba := hide (below_one hB9.out hba)
            go_wp2_with fail
            refine (zeroT_same _).mono ?_
            rintro e wb ⟨rfl, hbb⟩
            go_wp2_with fail
            go_ret
            exact ⟨rfl, below_two hba.out hbb⟩
        · exact absurd rfl (hno t (chk_wf HC.out) (chk_dep HC.out) (VT.In.fits _ (Nat.le_refl _) hs5.out.out.2.1))
      · have hne : ((chk t : Int) == 0) = false := by simp; omega
        have HE := hide (encode_any t _ hs3.out.out.2.1 (by have := hl1.out.1; omega) (by have := hl1.out.2; omega))
        unfold EncPost at HE
        generalize chk t = c at *
        go_wp2_with fail
        refine HE.out.mono ?_
        rintro e w4 ⟨v, rfl, hb4, -⟩
        have hs4 := hide (hs3.out.keep hb4)
        clear hs3 hb4 hc HE x0 x1 x2 x3
        obtain ⟨x0, x1, x2, x3, _⟩ := hs4.out
        go_wp2_with fail
        refine (HCH _ hs4.out.out.2.1).out.mono ?_
        rintro e w9 ⟨rfl, hb9⟩
        have hB9 := hide (below_one hs4.out.out.2.2 hb9)
        have HR9 := hide (HR.out w9 hB9.out)
        clear hs4 hb9 x0 x1 x2 x3 HR HCH hl1
        go_wp2_with fail
        refine (decode_raw a l cap w9 HR9.out (by omega)).mono ?_
        rintro e wa ⟨⟨q, rfl, hqin, hqw, hqd, hqe⟩ | ⟨rfl, -⟩, hba⟩
        · have hBa := hide (below_one hB9.out hba)
          have hra := hide (HR9.out.later hba)
          have hoa := hide (OB.mk (w0 := wa) (Box.new wa q) (hqin.alloc _) (below_new _ _))
          have hqc := hide (chk_of hqw hqd)
          have hqz := hide (VT.sz_le_enc _ q (Nat.le_refl _) hqw)
          subst hqe
          clear hba hB9 HR9 hqin hqw hqd
          go_wp2_with fail
          refine (encode_ok q _ hoa.out.out.2.1 (by have := hqz.out; omega) (by omega) hqc.out).mono ?_
          rintro e wb ⟨vb, rfl, hbb, hob⟩
          have hrb := hide ((hra.out.later (below_new wa (.cells #[.int .i64 q.kind, .int .i64 q.num, .string q.str, q.sl] 24))).later hbb)
          have hoB := hide (hoa.out.keep hbb)
          have hBb := hide (below_two hBa.out hbb)
          have cv1 := hob.conv
          have hib := hrb.out.inb (enc_ne q)
          obtain ⟨b, o, rfl, -⟩ := hib.bytes 0 (List.length_pos_iff.2 (enc_ne q))
          have cv2 := Inb.conv hib q.enc.length cap (Nat.le_refl _)
          rw [List.take_length] at cv2
          clear hib hrb hob hBa hbb hra hoa
          obtain ⟨z0, z1, z2, z3, _⟩ := hoB.out
          go_wp2_with fail
          refine (check_any q _ hoB.out.out.2.1 (by have := hqz.out; omega)).mono ?_
          rintro e wc ⟨rfl, hbc⟩
          rw [hqc.out]
          have hBc := hide (below_one hBb.out hbc)
          clear z0 z1 z2 z3 hbc hoB hBb cv1 cv2
          go_wp2_with fail
          go_ret
          exact ⟨rfl, hBc.out⟩
        · have hba := hide (below_one hB9.out hba)
          go_wp2_with fail
          refine (zeroT_same _).mono ?_
          rintro e wb ⟨rfl, hbb⟩
          go_wp2_with fail
          go_ret
          exact ⟨rfl, below_two hba.out hbb⟩
    · have hlen' : 2000 < (l.length : Int) := by omega
      clear hf
      go_wp2_with fail
      go_ret
      exact ⟨rfl, hs3.out.out.2.2⟩
end Go.Proofs.Ytccdencaidopnaa
