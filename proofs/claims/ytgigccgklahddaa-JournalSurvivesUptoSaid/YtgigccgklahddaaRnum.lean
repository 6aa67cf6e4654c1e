/- checksum and number of the reference. -/
import Derived.Test.YtgigccgklahddaaNum
namespace Go.Proofs.Ytgigccgklahddaa
open Go.RowKit
variable {n0 : Nat}

theorem crcBit_odd (n : U32) (h : n.toNat % 2 = 1) : crcBit n = (n >>> 1) ^^^ 3988292384#32 := by
  unfold crcBit
  have : n &&& 1 = 1#32 := by
    apply BitVec.eq_of_toNat_eq
    rw [BitVec.toNat_and]
    show n.toNat &&& 1 = 1
    rw [Nat.and_one_is_mod, h]
  rw [this]
  rfl
theorem crcBit_even (n : U32) (h : n.toNat % 2 = 0) : crcBit n = n >>> 1 := by
  unfold crcBit
  have : n &&& 1 = 0#32 := by
    apply BitVec.eq_of_toNat_eq
    rw [BitVec.toNat_and]
    show n.toNat &&& 1 = 0
    rw [Nat.and_one_is_mod, h]
  rw [this]
  simp
theorem half_odd (n : U32) (h : n.toNat % 2 = 1) : bits .xor .u32 (((n.toNat : Nat) : Int) / 2) 3988292384 = ((crcBit n).toNat : Nat) := by
  rw [crcBit_odd n h]
  have e3 : ((n.toNat : Nat) : Int) / 2 = ((n >>> 1).toNat : Nat) := bv_shr n 1
  refine (congrArg (fun z => bits .xor .u32 z _) e3).trans ?_
  exact bv_xor (n >>> 1) 3988292384#32
theorem half_even (n : U32) (h : n.toNat % 2 = 0) : ((n.toNat : Nat) : Int) / 2 = ((crcBit n).toNat : Nat) := by
  rw [crcBit_even n h]
  exact bv_shr n 1

set_option maxRecDepth 10000 in
set_option maxHeartbeats 1600000 in
theorem rchecksum_any (b o n cap : Nat) (l : List UInt8) (w : World) (hl : ∀ i (h : i < l.length), w.cell? ⟨b, o + i, none⟩ = some (.int .u8 (l[i].toNat : Nat))) (hn : n = l.length) (hcap : n ≤ 9223372036854775807) :
    Calls Try.prog 67 #[.slice (some ⟨b, o, none⟩) n cap] w fun e w' => e = .returned (uv (crc l)) ∧ w' = w := by
  have HL := hide hl
  have HN := hide hn
  clear hl hn
  go_enter Try.func67, Try.ntmps67
  go_wp2_with fail
  go_loopw [3, 4] (fun v i wr => ∃ k : Nat, k ≤ n ∧ i = .int .i64 k ∧ v = uv (crcL (l.take k)) ∧ w = wr) (fun _ i _ => n - (intOf i).toNat)
  case atStart => exact ⟨0, by omega, rfl, (by rw [List.take_zero]; unfold crcL; rfl), rfl⟩
  case round =>
    obtain ⟨k, hk, rfl, rfl, rfl⟩ := hrel
    by_cases hlt : k < n
    · have hkl : k < l.length := by have := HN.out; omega
      have hki : (k : Int) < n := by omega
      have hc := HL.out k hkl
      have HP := hide (crcL_take hkl)
      generalize crcL (l.take k) = v at *
      generalize l[k] = c at *
      have hb := bv_byte c
      have hx := bv_xor v (wb c)
      rw [← hb] at hx
      clear hb
      go_wp2_with fail
      have hcm : (c.toNat : Int) % 4294967296 = (c.toNat : Int) := by have := c.toNat_lt; omega
      have HX := hide hx
      clear hx
      rw [hcm, HX.out]
      have HV : Hid (crcN 8 (v ^^^ wb c) = crcByte v c) := hide rfl
      generalize v ^^^ wb c = m at *
      clear HX hc
      go_loopw [3, 5] (fun v i wr => ∃ j : Nat, j ≤ 8 ∧ i = .int .i64 j ∧ v = uv (crcN j m) ∧ w = wr) (fun _ i _ => 8 - (intOf i).toNat)
      case atStart => exact ⟨0, by omega, rfl, rfl, rfl⟩
      case round =>
        obtain ⟨j, hj, rfl, rfl, rfl⟩ := hrel
        by_cases hlj : j < 8
        · have hlj' : (j : Int) < 8 := by omega
          have hlt := (crcN j m).isLt
          have HS := hide (show crcN (j + 1) m = crcBit (crcN j m) from rfl)
          generalize crcN j m = z at *
          by_cases ho : z.toNat % 2 = 1
          · have HB := hide (half_odd z ho)
            have ho1 : (((z.toNat : Nat) : Int) % 2 == 1) = true := beq_iff_eq.2 (by omega)
            have ho2 : ((z.toNat : Nat) : Int).tmod 2 = ((z.toNat : Nat) : Int) % 2 := Int.tmod_eq_emod_of_nonneg (by omega)
            go_wp2_with fail
            go_roundw
            case rel => exact ⟨j + 1, by omega, by go_num, by rw [HS.out]; exact val_num HB.out, trivial⟩
            case measure => simp [intOf]; omega
          · have HB := hide (half_even z (by omega))
            have ho1 : (((z.toNat : Nat) : Int) % 2 == 1) = false := beq_eq_false_iff_ne.2 (by omega)
            have ho2 : ((z.toNat : Nat) : Int).tmod 2 = ((z.toNat : Nat) : Int) % 2 := Int.tmod_eq_emod_of_nonneg (by omega)
            go_wp2_with fail
            go_roundw
            case rel => exact ⟨j + 1, by omega, by go_num, by rw [HS.out]; exact val_num HB.out, trivial⟩
            case measure => simp [intOf]; omega
        · obtain rfl : j = 8 := by omega
          go_wp2_with fail
          go_roundw
          case rel => exact ⟨k + 1, by omega, by go_num, by rw [HP.out, ← HV.out], trivial⟩
          case measure => simp [intOf]; omega
    · obtain rfl : k = n := by omega
      have HF := hide (show crcL (l.take k) = crcL l by rw [HN.out, List.take_length])
      rw [HF.out]
      have hlt := (crcL l).isLt
      have HNT : Hid (bits .xor .u32 ((crcL l).toNat : Nat) 4294967295 = ((crc l).toNat : Nat)) := hide (by
        have h := bv_xor (crcL l) 4294967295#32
        rw [show (4294967295 : Int) = ((4294967295#32 : U32).toNat : Nat) by decide, h]
        unfold crc
        congr 2
        rw [BitVec.xor_comm]
        exact BitVec.allOnes_xor)
      go_wp2_with fail
      go_ret
      exact ⟨ret_num HNT.out, rfl⟩
/-- The number that bytes represent. -/
def numB (l : List UInt8) : Nat := l.foldl (fun n c => 256 * n + c.toNat) 0
theorem numB_take {l : List UInt8} {k : Nat} (h : k < l.length) : numB (l.take (k + 1)) = 256 * numB (l.take k) + l[k].toNat := by
  unfold numB
  rw [List.take_succ_eq_append_getElem h, List.foldl_append]
  rfl
theorem numB_zero (l : List UInt8) : numB (l.take 0) = 0 := rfl
theorem numB_four (a b c d : UInt8) : numB [a, b, c, d] = n4 a b c d := by
  simp only [numB, List.foldl_cons, List.foldl_nil, n4]
  omega
attribute [irreducible] numB
set_option maxRecDepth 10000 in
set_option maxHeartbeats 1600000 in
theorem rnumber_any (b o n cap : Nat) (l : List UInt8) (w : World) (hl : ∀ i (h : i < l.length), w.cell? ⟨b, o + i, none⟩ = some (.int .u8 (l[i].toNat : Nat))) (hn : n = l.length) (h4 : n ≤ 4) :
    Calls Try.prog 61 #[.slice (some ⟨b, o, none⟩) n cap] w fun e w' => e = .returned (.int .u64 (numB l : Nat)) ∧ w' = w := by
  have HL := hide hl
  have HN := hide hn
  clear hl hn
  go_enter Try.func61, Try.ntmps61
  go_wp2_with fail
  go_loopw [3, 4] (fun v i wr => ∃ k : Nat, k ≤ n ∧ i = .int .i64 k ∧ v = .int .u64 (numB (l.take k) : Nat) ∧ numB (l.take k) < 256 ^ k ∧ w = wr) (fun _ i _ => n - (intOf i).toNat)
  case atStart => exact ⟨0, by omega, rfl, by rw [numB_zero]; rfl, by rw [numB_zero]; decide, rfl⟩
  case round =>
    obtain ⟨k, hk, rfl, rfl, hlb, rfl⟩ := hrel
    by_cases hlt : k < n
    · have hkl : k < l.length := by have := HN.out; omega
      have hki : (k : Int) < n := by omega
      have hc := HL.out k hkl
      have HP := hide (numB_take hkl)
      have hpw : 256 ^ (k + 1) = 256 * 256 ^ k := by rw [Nat.pow_succ, Nat.mul_comm]
      have hpk : 256 ^ k ≤ 16777216 := by
        have : 256 ^ k ≤ 256 ^ 3 := Nat.pow_le_pow_right (by decide) (by omega)
        exact this
      generalize numB (l.take k) = v at *
      generalize l[k] = c at *
      have hcl := c.toNat_lt
      have HLB := hide (show 256 * v + c.toNat < 256 ^ (k + 1) by omega)
      generalize 256 ^ k = pk at *
      have hvl : v < 16777216 := by omega
      clear hpw
      go_wp2_with fail
      go_roundw
      case rel => exact ⟨k + 1, by omega, by go_num, by rw [HP.out]; exact val_num (by omega), by rw [HP.out]; exact HLB.out, trivial⟩
      case measure => simp [intOf]; omega
    · obtain rfl : k = n := by omega
      have HF := hide (show l.take k = l by rw [HN.out, List.take_length])
      rw [HF.out]
      go_wp2_with fail
      go_ret
      exact ⟨rfl, rfl⟩
end Go.Proofs.Ytgigccgklahddaa
