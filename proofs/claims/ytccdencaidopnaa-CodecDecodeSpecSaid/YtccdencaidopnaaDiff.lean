/- CodecDifferent: of every two values that can be encoded, the encodings are equal exactly if the values are, and otherwise none begins the other. No condition. The walk. -/
import Derived.Test.YtccdencaidopnaaSameSpec
namespace Go.Proofs.Ytccdencaidopnaa
open Go.RowKit

theorem chk_wf {t : VT} (h : chk t = 0) : t.wf = true := by
  cases hw : t.wf with
  | true => rfl
  | false => simp [chk, hw] at h
theorem chk_dep {t : VT} (h : chk t = 0) : t.dep ≤ 16 := by
  have hw := chk_wf h
  unfold chk at h
  rw [if_pos hw] at h
  split at h <;> omega

/-- Bytes as a string. -/
theorem Inb.conv {w : World} {b o : Nat} {l : List UInt8} (hi : Inb w (some ⟨b, o, none⟩) l) (n cap : Nat) (hn : n ≤ l.length) : (convert 27 9 (.slice (some ⟨b, o, none⟩) n cap)).run Try.prog w = .ok (.string ⟨(l.take n).toArray⟩) w := by
  have hlen : ((l.take n).map fun c => (c.toNat : Int)).length = n := by simp; omega
  rw [run_convert_bytes_arg w 27 5 Try.underlying27 Try.underlying5 b o n cap ((l.take n).map fun c => (c.toNat : Int)) hlen (fun i hl => by
    obtain ⟨b1, o1, e, _, hc⟩ := hi.bytes i (by omega)
    simp only [Option.some.injEq, Addr.mk.injEq, and_true] at e
    obtain ⟨rfl, rfl⟩ := e
    rw [hc]
    simp [hl, (show i < l.length by omega)]) 9 Try.underlying9]
  congr 2
  have : (strOfNums ((l.take n).map fun c => (c.toNat : Int))).data.toList = l.take n := by
    rw [strOfNums_data, List.map_map]
    conv => rhs; rw [← List.map_id (l.take n)]
    refine List.map_congr_left fun c _ => ?_
    simp
  cases hS : strOfNums ((l.take n).map fun c => (c.toNat : Int)) with
  | mk data =>
    rw [hS] at this
    simp only at this
    rw [← this]

theorem take_ne (t u : VT) (hc : chk t = 0) (hc' : chk u = 0) (hf : t.fits) (hf' : u.fits) (hsm : ¬ t.same u = true) : (⟨(t.enc.take (min t.enc.length u.enc.length)).toArray⟩ : ByteArray) ≠ ⟨(u.enc.take (min t.enc.length u.enc.length)).toArray⟩ := by
  intro he
  simp only [ByteArray.mk.injEq] at he
  apply hsm
  by_cases hle : t.enc.length ≤ u.enc.length
  · rw [Nat.min_eq_left hle, List.take_of_length_le (Nat.le_refl _)] at he
    have he := congrArg Array.toList he
    simp only at he
    refine (VT.enc_prefix _ t u (u.enc.drop t.enc.length) [] (Nat.le_refl _) (chk_wf hc) (chk_wf hc') hf hf' ?_).1
    have : t.enc ++ u.enc.drop t.enc.length = u.enc.take t.enc.length ++ u.enc.drop t.enc.length := congrArg (· ++ u.enc.drop t.enc.length) he
    rw [this, List.take_append_drop, List.append_nil]
  · rw [Nat.min_eq_right (by omega), List.take_of_length_le (l := u.enc) (Nat.le_refl _)] at he
    have he := congrArg Array.toList he
    simp only at he
    refine (VT.enc_prefix _ t u [] (t.enc.drop u.enc.length) (Nat.le_refl _) (chk_wf hc) (chk_wf hc') hf hf' ?_).1
    have : u.enc ++ t.enc.drop u.enc.length = t.enc.take u.enc.length ++ t.enc.drop u.enc.length := congrArg (· ++ t.enc.drop u.enc.length) he.symm
    rw [this, List.take_append_drop, List.append_nil]

theorem Inb.later {w w' : World} {a : Option Addr} {l : List UInt8} (hi : Inb w a l) (hb : Below w.heap.size w w') : Inb w' a l := by
  refine ⟨hi.plain, fun i h => ?_⟩
  obtain ⟨b, o, e, hlt, hc⟩ := hi.bytes i h
  exact ⟨b, o, e, Nat.lt_of_lt_of_le hlt hb.size, (hb.cell (p := ⟨b, o + i, none⟩) hlt).trans hc⟩

set_option maxRecDepth 10000 in
set_option maxHeartbeats 1600000 in
theorem different_walk (t u : VT) (w : World) (hin : t.In w) (hin' : u.In w) :
    Calls Try.prog 7 #[t.val, u.val] w fun e w' => e = .returned (.bool true) ∧ Below w.heap.size w w' := by
  have hsb := hide (SB.mk (w0 := w) (w := (w.alloc (.cells #[.int .i64 t.kind, .int .i64 t.num, .string t.str, t.sl] 24)).alloc (.cells #[.int .i64 u.kind, .int .i64 u.num, .string u.str, u.sl] 24)) ((Box.new w t).later (below_new _ _)) (by simpa using Box.new (w.alloc (.cells #[.int .i64 t.kind, .int .i64 t.num, .string t.str, t.sl] 24)) u) ((hin.alloc _).alloc _) ((hin'.alloc _).alloc _) ((below_new _ _).alloc (by simp) _))
  go_enter Try.func7, Try.ntmps7
  go_wp2_with fail
  refine (sane_any _).mono ?_
  rintro e w1 ⟨rfl, hb1⟩
  have hs1 := hide (hsb.out.keep hb1)
  clear hsb hb1
  obtain ⟨x0, x1, x2, x3, y0, y1, y2, y3, _⟩ := hs1.out
  go_wp2_with fail
  have hw1 := below_new w1 (.cells #[.int .i64 t.kind, .int .i64 t.num, .string t.str, t.sl, .int .i64 u.kind, .int .i64 u.num, .string u.str, u.sl] 24)
  have hs2 := hide (hs1.out.keep hw1)
  have hblk := heap_alloc_new w1 (.cells #[.int .i64 t.kind, .int .i64 t.num, .string t.str, t.sl, .int .i64 u.kind, .int .i64 u.num, .string u.str, u.sl] 24)
  have hfew := hide (few_any w1.heap.size 0 2 [t, u] _ (by simp) (fun i hi => by
    have hc := fun j => cell_of_row _ w1.heap.size j _ _ _ hblk
    obtain ⟨_, _, c, d, _⟩ := hs2.out.out
    match i, hi with
    | 0, _ => exact ⟨⟨by rw [hc]; rfl, by rw [hc]; rfl, by rw [hc]; rfl, by rw [hc]; rfl⟩, c⟩
    | 1, _ => exact ⟨⟨by rw [hc]; rfl, by rw [hc]; rfl, by rw [hc]; rfl, by rw [hc]; rfl⟩, d⟩))
  clear x0 x1 x2 x3 y0 y1 y2 y3 hw1 hblk
  refine hfew.out.mono ?_
  rintro e w3 ⟨f, rfl, hf, hb3⟩
  have hs3 := hide (hs2.out.keep hb3)
  clear hs1 hs2 hb3 hfew
  cases f with
  | false =>
    go_wp2_with fail
    go_ret
    exact ⟨rfl, hs3.out.out.2.2.2.2⟩
  | true =>
    have ht : Small 200 t := hf.out rfl 0 (by simp)
    have hu : Small 200 u := hf.out rfl 1 (by simp)
    have HE1 := fun W (hW : t.In W) => hide (encode_any t W hW (by have := ht.1; omega) (by have := ht.2; omega))
    have HE2 := fun W (hW : u.In W) => hide (encode_any u W hW (by have := hu.1; omega) (by have := hu.2; omega))
    have hl1 := hide ht.2
    have hl2 := hide hu.2
    clear hf ht hu
    obtain ⟨x0, x1, x2, x3, y0, y1, y2, y3, _⟩ := hs3.out
    go_wp2_with fail
    refine (HE1 _ hs3.out.out.2.2.1).out.mono ?_
    rintro e w4 ⟨v, rfl, hb4, ho4a⟩
    have hs4 := hide (hs3.out.keep hb4)
    have ho4b := hide ho4a
    clear ho4a
    clear hs3 hb4 x0 x1 x2 x3 y0 y1 y2 y3
    obtain ⟨x0, x1, x2, x3, y0, y1, y2, y3, _⟩ := hs4.out
    go_wp2_with fail
    refine (HE2 _ hs4.out.out.2.2.2.1).out.mono ?_
    rintro e w5 ⟨v', rfl, hb5, ho5⟩
    have hs5 := hide (hs4.out.keep hb5)
    have ho4c := hide (show chk t = 0 → Own w3.heap.size v t.enc w5 from fun h => by have := ho4b.out; rw [if_pos h] at this; exact Own.later this hb5)
    have ho5c := hide (show chk u = 0 → Own w4.heap.size v' u.enc w5 from fun h => by rw [if_pos h] at ho5; exact ho5)
    clear hs4 hb5 ho4b ho5 x0 x1 x2 x3 y0 y1 y2 y3
    obtain ⟨x0, x1, x2, x3, y0, y1, y2, y3, _⟩ := hs5.out
    by_cases hc : chk t = 0 ∧ chk u = 0
    · have HC := hide hc
      rw [hc.1, hc.2]
      have ho4d := hide (ho4c.out hc.1)
      have ho5d := hide (ho5c.out hc.2)
      clear hc ho4c ho5c
      go_wp2_with fail
      refine (same_any _ t u (Nat.le_refl _) w5 hs5.out.out.2.2.1 hs5.out.out.2.2.2.1).mono ?_
      rintro e w6 ⟨rfl, hb6⟩
      have hs6 := hide (hs5.out.keep hb6)
      have ho4 := hide (ho4d.out.later hb6)
      have ho5 := hide (ho5d.out.later hb6)
      have hB6 := hide hs6.out.out.2.2.2.2
      have hI := hide (And.intro hs6.out.out.2.2.1 hs6.out.out.2.2.2.1)
      clear ho4d ho5d hs5 hs6 hb6 x0 x1 x2 x3 y0 y1 y2 y3
      by_cases hsm : t.same u = true
      · have heq := VT.same_enc t u hsm
        rw [hsm]
        have cv4 := ho4.out.conv
        have cv5 := ho5.out.conv
        rw [← heq] at cv5
        clear heq hsm
        go_wp2_with fail
        go_ret
        exact ⟨rfl, hB6.out⟩
      · rw [Bool.eq_false_iff.2 hsm]
        obtain ⟨a4, c4, rfl, i4, k4, m4, z4⟩ := ho4.out.inb
        obtain ⟨a5, c5, rfl, i5, k5, m5, z5⟩ := ho5.out.inb
        obtain ⟨b4, o4, rfl, -⟩ := i4.bytes 0 (List.length_pos_iff.2 (enc_ne t))
        obtain ⟨b5, o5, rfl, -⟩ := i5.bytes 0 (List.length_pos_iff.2 (enc_ne u))
        have hne := take_ne t u HC.out.1 HC.out.2 (VT.In.fits _ (Nat.le_refl _) hI.out.1) (VT.In.fits _ (Nat.le_refl _) hI.out.2) hsm
        have h4 := hl1.out
        have h5 := hl2.out
        have cv4 := fun W (hW : Below w6.heap.size w6 W) => (Inb.later i4 hW).conv (min t.enc.length u.enc.length) c4 (Nat.min_le_left _ _)
        have cv5 := fun W (hW : Below w6.heap.size w6 W) => (Inb.later i5 hW).conv (min t.enc.length u.enc.length) c5 (Nat.min_le_right _ _)
        clear ho4 ho5 i4 i5 z4 z5 hI HC hsm HE1 HE2 hl1 hl2
        generalize (⟨(t.enc.take (min t.enc.length u.enc.length)).toArray⟩ : ByteArray) = s4 at *
        generalize (⟨(u.enc.take (min t.enc.length u.enc.length)).toArray⟩ : ByteArray) = s5 at *
        generalize hn4 : t.enc.length = n4 at *
        generalize hn5 : u.enc.length = n5 at *
        have hnb : (s4.toList == s5.toList) = false := by
          rw [Bool.eq_false_iff]
          exact fun he => hne (VT.str_eq he)
        have hk1 : min n4 n5 ≤ c4 := by omega
        have hk2 : min n4 n5 ≤ c5 := by omega
        have hmin : min (n4 : Int) (n5 : Int) = (min n4 n5 : Nat) := by omega
        clear hn4 hn5 k4 k5
        generalize min n4 n5 = k at *
        have dv4 := cv4 w6.drew (Below.refl _ _).drew
        have dv5 := cv5 w6.drew (Below.refl _ _).drew
        have ev4 := cv4 w6 (Below.refl _ _)
        have ev5 := cv5 w6 (Below.refl _ _)
        clear cv4 cv5
        have hk3 : (k : Int) ≤ c4 := by omega
        have hk4 : (k : Int) ≤ c5 := by omega
        go_wp2_with fail
        go_region
        go_wp2_with fail
        go_ret
        exact ⟨rfl, hB6.out.drew⟩
    · have hcc : ((chk t : Int) != 0) = true ∨ ((chk t : Int) != 0) = false ∧ ((chk u : Int) != 0) = true := by simp; omega
      have hB5 := hide hs5.out.out.2.2.2.2
      clear hc hs5 ho4c ho5c x0 x1 x2 x3 y0 y1 y2 y3
      generalize chk t = c1 at *
      generalize chk u = c2 at *
      rcases hcc with h1 | ⟨h1, h2⟩
      · go_wp2_with fail
        go_ret
        exact ⟨rfl, hB5.out⟩
      · go_wp2_with fail
        go_ret
        exact ⟨rfl, hB5.out⟩
end Go.Proofs.Ytccdencaidopnaa
