/- The checksum; numbers of 32 bits. -/
import Derived.Test.YtgigccgklahddaaDsk
namespace Go.Proofs.Ytgigccgklahddaa
open Go.RowKit
variable {n0 : Nat}

abbrev U32 := BitVec 32
abbrev uv (x : U32) : Value := .int .u32 (x.toNat : Nat)
theorem ret_num {k : IntKind} {a b : Int} (h : a = b) : Ending.returned (.int k a) = .returned (.int k b) := by rw [h]
theorem val_num {k : IntKind} {a b : Int} (h : a = b) : Value.int k a = .int k b := by rw [h]
theorem bv_xor (x y : U32) : bits .xor .u32 (x.toNat : Nat) (y.toNat : Nat) = ((x ^^^ y).toNat : Nat) := by
  rw [u32_xor_nat _ _ x.isLt y.isLt, BitVec.toNat_xor]
theorem bv_and (x y : U32) : bits .and .u32 (x.toNat : Nat) (y.toNat : Nat) = ((x &&& y).toNat : Nat) := by
  rw [u32_and_nat _ _ x.isLt y.isLt, BitVec.toNat_and]
theorem bv_or (x y : U32) : bits .or .u32 (x.toNat : Nat) (y.toNat : Nat) = ((x ||| y).toNat : Nat) := by
  rw [u32_or_nat _ _ x.isLt y.isLt, BitVec.toNat_or]
theorem bv_shl (x : U32) (n : Nat) : IntKind.u32.wrap ((x.toNat : Nat) * 2 ^ n) = ((x <<< n).toNat : Nat) := by
  rw [IntKind.wrap_u32', BitVec.toNat_shiftLeft, Nat.shiftLeft_eq]; simp
theorem bv_shl' (x : U32) (n : Nat) : ((x.toNat : Nat) : Int) * 2 ^ n % 4294967296 = ((x <<< n).toNat : Nat) := by
  rw [BitVec.toNat_shiftLeft, Nat.shiftLeft_eq]; simp
theorem bv_shr (x : U32) (n : Nat) : ((x.toNat : Nat) : Int) / 2 ^ n = ((x >>> n).toNat : Nat) := by
  rw [BitVec.toNat_ushiftRight, Nat.shiftRight_eq_div_pow]; simp
/-- A byte as a number. -/
def wb (c : UInt8) : U32 := BitVec.ofNat 32 c.toNat
theorem bv_byte (c : UInt8) : ((c.toNat : Nat) : Int) = ((wb c).toNat : Nat) := by
  unfold wb
  rw [BitVec.toNat_ofNat, Nat.mod_eq_of_lt (by have := c.toNat_lt; omega)]

/-- One bit. -/
def crcBit (n : U32) : U32 := (n >>> 1) ^^^ (3988292384#32 * (n &&& 1))
def crcN : Nat → U32 → U32
  | 0, m => m
  | k + 1, m => crcBit (crcN k m)
/-- One byte. -/
def crcByte (n : U32) (c : UInt8) : U32 := crcN 8 (n ^^^ wb c)
def crcL (l : List UInt8) : U32 := l.foldl crcByte 4294967295#32
def crc (l : List UInt8) : U32 := ~~~ (crcL l)
theorem crcL_take {l : List UInt8} {k : Nat} (h : k < l.length) : crcL (l.take (k + 1)) = crcByte (crcL (l.take k)) l[k] := by
  unfold crcL
  rw [List.take_succ_eq_append_getElem h, List.foldl_append]
  rfl
attribute [irreducible] crcBit crcL wb

theorem bv_bit (n : U32) : bits .xor .u32 (((n.toNat : Nat) : Int) / 2) (3988292384 * bits .and .u32 ((n.toNat : Nat) : Int) 1 % 4294967296) = ((crcBit n).toNat : Nat) := by
  have e1 : bits .and .u32 ((n.toNat : Nat) : Int) 1 = ((n &&& 1#32).toNat : Nat) := bv_and n 1#32
  have e2 : (3988292384 : Int) * ((n &&& 1#32).toNat : Nat) % 4294967296 = ((3988292384#32 * (n &&& 1#32)).toNat : Nat) := by
    rw [BitVec.toNat_mul]
    simp
  have e3 : ((n.toNat : Nat) : Int) / 2 = ((n >>> 1).toNat : Nat) := bv_shr n 1
  rw [e1, e2]
  refine (congrArg (fun z => bits .xor .u32 z _) e3).trans ?_
  rw [bv_xor]
  unfold crcBit
  rfl

set_option maxRecDepth 10000 in
set_option maxHeartbeats 1600000 in
theorem checksum_any (b o n cap : Nat) (l : List UInt8) (w : World) (hl : ∀ i (h : i < l.length), w.cell? ⟨b, o + i, none⟩ = some (.int .u8 (l[i].toNat : Nat))) (hn : n = l.length) (hcap : n ≤ 9223372036854775807) :
    Calls Try.prog 75 #[.slice (some ⟨b, o, none⟩) n cap] w fun e w' => e = .returned (uv (crc l)) ∧ w = w' := by
  have HL := hide hl
  have HN := hide hn
  clear hl hn
  go_enter Try.func75, Try.ntmps75
  go_wp2_with fail
  go_loopw [3, 9] (fun v i wr => ∃ k : Nat, k ≤ n ∧ i = .int .i64 k ∧ v = uv (crcL (l.take k)) ∧ w = wr) (fun _ i _ => n - (intOf i).toNat)
  case atStart => exact ⟨0, by omega, rfl, (by rw [List.take_zero]; unfold crcL; rfl), rfl⟩
  case round =>
    obtain ⟨k, hk, rfl, rfl, rfl⟩ := hrel
    by_cases hlt : k < n
    · have hkl : k < l.length := by have := HN.out; omega
      have hki : (k : Int) < n := by omega
      have hc := HL.out k hkl
      have HP := hide (crcL_take hkl)
      generalize crcL (l.take k) = v at *
      generalize l[k] = c at *
      have hb := bv_byte c
      have hx := bv_xor v (wb c)
      rw [← hb] at hx
      clear hb
      go_wp2_with fail
      have hcm : (c.toNat : Int) % 4294967296 = (c.toNat : Int) := by have := c.toNat_lt; omega
      have HX := hide hx
      clear hx
      rw [hcm, HX.out]
      have HV : Hid (crcN 8 (v ^^^ wb c) = crcByte v c) := hide rfl
      generalize v ^^^ wb c = m at *
      clear HX hc
      go_loopw [3, 17] (fun v i wr => ∃ j : Nat, j ≤ 8 ∧ i = .int .i64 j ∧ v = uv (crcN j m) ∧ w = wr) (fun _ i _ => 8 - (intOf i).toNat)
      case atStart => exact ⟨0, by omega, rfl, rfl, rfl⟩
      case round =>
        obtain ⟨j, hj, rfl, rfl, rfl⟩ := hrel
        by_cases hlj : j < 8
        · have hlj' : (j : Int) < 8 := by omega
          have HB := hide (bv_bit (crcN j m))
          have hlt := (crcN j m).isLt
          generalize hz : crcN j m = z at *
          go_wp2_with fail
          go_roundw
          case rel => exact ⟨j + 1, by omega, by go_num, by rw [show crcN (j + 1) m = crcBit z by rw [← hz]; rfl]; exact val_num HB.out, trivial⟩
          case measure => simp [intOf]; omega
        · obtain rfl : j = 8 := by omega
          go_wp2_with fail
          go_roundw
          case rel => exact ⟨k + 1, by omega, by go_num, by rw [HP.out, ← HV.out], trivial⟩
          case measure => simp [intOf]; omega
    · obtain rfl : k = n := by omega
      have HF := hide (show crcL (l.take k) = crcL l by rw [HN.out, List.take_length])
      rw [HF.out]
      have hlt := (crcL l).isLt
      have hnot : bits .xor .u32 IntKind.u32.max ((crcL l).toNat : Nat) = ((crc l).toNat : Nat) := by
        have h := bv_xor 4294967295#32 (crcL l)
        rw [show IntKind.u32.max = ((4294967295#32 : U32).toNat : Nat) by decide, h]
        unfold crc
        congr 2
      have hsg : IntKind.u32.signed = false := rfl
      go_wp2_with fail
      go_ret
      exact ⟨rfl, rfl⟩
end Go.Proofs.Ytgigccgklahddaa
