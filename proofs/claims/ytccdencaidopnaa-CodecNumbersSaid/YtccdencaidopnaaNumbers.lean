/- CodecNumbers: for every two numbers, the sizes of their encodings are from 2 to 11, a number nearer to 0 never has a longer one, and each is decoded as itself. No condition. The walk. -/
import Derived.Test.YtccdencaidopnaaSane2
namespace Go.Proofs.Ytccdencaidopnaa
open Go.RowKit

theorem numeral_mono {u v : Nat} (hv : v < 18446744073709551616) (h : u ≤ v) : (numeral u).length ≤ (numeral v).length := by
  obtain ⟨a, b, c, d⟩ := digs_len 9 u (by omega)
  obtain ⟨a', b', c', d'⟩ := digs_len 9 v (by omega)
  unfold numeral
  generalize digs 9 u = D at *
  generalize digs 9 v = E at *
  rcases d with d | d
  · omega
  · refine Nat.le_of_not_lt fun hlt => ?_
    have : 128 ^ E.length ≤ 128 ^ (D.length - 1) := Nat.pow_le_pow_right (by omega) (by omega)
    omega

theorem uns_mono {a b : Int} (h : (0 ≤ a ∧ a ≤ b) ∨ (a < 0 ∧ b ≤ a)) : uns a ≤ uns b := by
  unfold uns; split <;> split <;> omega

/-- What is equal to a number is the number. -/
theorem same_int {n : Int} {t : VT} (h : (intT n).same t = true) : ∃ A cap, t.val = .agg #[.int .i64 1, .int .i64 n, .string ⟨#[]⟩, .slice A 0 cap] := by
  rw [VT.same_eq] at h
  simp only [Bool.and_eq_true, beq_iff_eq] at h
  obtain ⟨⟨⟨h1, h2⟩, h3⟩, h4⟩ := h
  have hs : t.str = ⟨#[]⟩ := (VT.str_eq (s := ⟨#[]⟩) (u := t.str) (by simpa [intT, VT.str] using h3)).symm
  have hl : t.els.length = 0 := by have := VT.sames_len h4; simpa [intT, VT.els] using this.symm
  refine ⟨t.adr, t.cap, ?_⟩
  rw [VT.val, ← h1, ← h2, hs, VT.sl, hl]
  rfl

set_option maxRecDepth 10000 in
set_option maxHeartbeats 1600000 in
theorem numbers_walk (a b : Int) (ha : -9223372036854775808 ≤ a ∧ a ≤ 9223372036854775807) (hb : -9223372036854775808 ≤ b ∧ b ≤ 9223372036854775807) (w : World) :
    Calls Try.prog 9 #[.int .i64 a, .int .i64 b] w fun e w' => e = .returned (.bool true) ∧ Below w.heap.size w w' := by
  have hua := uns_lt ha.1 ha.2
  have hub := uns_lt hb.1 hb.2
  obtain ⟨hx, hla, hla1⟩ := numeral_len hua
  obtain ⟨hy, hlb, hlb1⟩ := numeral_len hub
  clear hx hy
  have hmono : ((0 ≤ a ∧ a ≤ b) ∨ (a < 0 ∧ b ≤ a)) → (numeral (uns a)).length ≤ (numeral (uns b)).length := fun h => numeral_mono hub (uns_mono h)
  have hea : (intT a).enc.length = 1 + (numeral (uns a)).length := by rw [intT_enc]; simp; omega
  have heb : (intT b).enc.length = 1 + (numeral (uns b)).length := by rw [intT_enc]; simp; omega
  have HA := fun W => hide (size_of (intT a) W (intT_in a ha W) (by simp [intT_sz]) (by omega))
  have HB := fun W => hide (size_of (intT b) W (intT_in b hb W) (by simp [intT_sz]) (by omega))
  have HE := fun W => hide (encode_ok (intT a) W (intT_in a ha W) (by simp [intT_sz]) (by omega) (intT_chk a))
  have HEA := hide hea
  have HIN := fun W => hide (intT_in a ha W)
  simp only [intT_chk, if_true, hea, heb] at HA HB
  clear hea heb hua hub
  generalize hma : (numeral (uns a)).length = m at *
  generalize hmb : (numeral (uns b)).length = n at *
  clear hma hmb ha hb
  go_enter Try.func9, Try.ntmps9
  go_wp2_with fail
  refine (sane_any w).mono ?_
  rintro e w1 ⟨rfl, hb1⟩
  go_wp2_with fail
  refine (int_any a w1).mono ?_
  rintro e w2 ⟨rfl, hb2⟩
  go_wp2_with fail
  refine (HA w2).out.mono ?_
  rintro e w3 ⟨rfl, hb3⟩
  go_wp2_with fail
  refine (int_any b w3).mono ?_
  rintro e w4 ⟨rfl, hb4⟩
  go_wp2_with fail
  refine (HB w4).out.mono ?_
  rintro e w5 ⟨rfl, hb5⟩
  have HB5 := hide (below_one (below_one (below_one (below_one hb1 hb2) hb3) hb4) hb5)
  clear hb1 hb2 hb3 hb4 hb5 HA HB
  go_wp2_with fail
  all_goals (
    refine (int_any a w5).mono ?_
    rintro e w6 ⟨rfl, hb6⟩
    go_wp2_with fail
    refine (HE w6).out.mono ?_
    rintro e w7 ⟨v, rfl, hb7, ho7⟩
    obtain ⟨ad, cap, rfl, hinb, hc1, hc2, hc3⟩ := ho7.inb
    have HD := hide (decode_any ad (intT a).enc cap w7 hinb (by rw [HEA.out]; omega) hc1 hc2 hc3)
    have HB7 := hide (below_one (below_one HB5.out hb6) hb7)
    clear hinb hc1 hc2 hc3 ho7 hb6 hb7
    go_wp2_with fail
    refine HD.out.mono ?_
    rintro e w8 ⟨⟨t, rfl, htin, htw, htd, hte⟩ | ⟨rfl, hno⟩, hb8⟩
    · have hs := (VT.enc_prefix _ (intT a) t [] [] (Nat.le_refl _) (by simp [intT, VT.wf, Lib.toList_data]) htw (VT.In.fits _ (Nat.le_refl _) (HIN w8).out) (VT.In.fits _ (Nat.le_refl _) htin) (by rw [hte])).1
      obtain ⟨A, cap2, hv⟩ := same_int hs
      have HB8 := hide (below_one HB7.out hb8)
      clear htin htw htd hte hs hb8
      rw [hv]
      clear hv
      go_wp2_with fail
      go_ret
      exact ⟨rfl, HB8.out.alloc HB8.out.size _⟩
    · exact absurd rfl (hno (intT a) (by simp [intT, VT.wf, Lib.toList_data]) (by simp [intT, VT.dep]) (VT.In.fits _ (Nat.le_refl _) (HIN w8).out)))
end Go.Proofs.Ytccdencaidopnaa
