/- Numbers of four bytes. -/
import Derived.Test.YtgigccgklahddaaCrc
namespace Go.Proofs.Ytgigccgklahddaa
open Go.RowKit
variable {n0 : Nat}

/-- The number that four bytes represent. -/
def n4 (a b c d : UInt8) : Nat := a.toNat * 16777216 + b.toNat * 65536 + c.toNat * 256 + d.toNat
theorem n4_lt (a b c d : UInt8) : n4 a b c d < 4294967296 := by
  have := a.toNat_lt; have := b.toNat_lt; have := c.toNat_lt; have := d.toNat_lt
  unfold n4; omega
/-- A number as four bytes. -/
def b4 (n : Nat) : List UInt8 := [UInt8.ofNat (n / 16777216), UInt8.ofNat (n / 65536), UInt8.ofNat (n / 256), UInt8.ofNat n]
theorem b4_len (n : Nat) : (b4 n).length = 4 := rfl
theorem u8_nat (n : Nat) : (UInt8.ofNat n).toNat = n % 256 := by simp
theorem u8_eq {a b : UInt8} (h : a.toNat = b.toNat) : a = b := UInt8.toNat_inj.1 h
theorem b4_n4 (a b c d : UInt8) : b4 (n4 a b c d) = [a, b, c, d] := by
  have h1 := a.toNat_lt; have h2 := b.toNat_lt; have h3 := c.toNat_lt; have h4 := d.toNat_lt
  unfold b4 n4
  congr 1
  · apply u8_eq; rw [u8_nat]; omega
  congr 1
  · apply u8_eq; rw [u8_nat]; omega
  congr 1
  · apply u8_eq; rw [u8_nat]; omega
  congr 1
  · apply u8_eq; rw [u8_nat]; omega
theorem n4_b4 {n : Nat} (h : n < 4294967296) : n4 (UInt8.ofNat (n / 16777216)) (UInt8.ofNat (n / 65536)) (UInt8.ofNat (n / 256)) (UInt8.ofNat n) = n := by
  unfold n4
  simp only [u8_nat]
  omega
theorem or_hi (x y i : Nat) (h : y < 2 ^ i) : (x * 2 ^ i) ||| y = x * 2 ^ i + y := by
  have := Nat.shiftLeft_add_eq_or_of_lt h x
  rw [Nat.shiftLeft_eq] at this
  exact this.symm
theorem or_n4 (a b c d : UInt8) : bits .or .u32 (bits .or .u32 (bits .or .u32 (((a.toNat : Nat) : Int) * 16777216 % 4294967296) (((b.toNat : Nat) : Int) * 65536 % 4294967296)) (((c.toNat : Nat) : Int) * 256 % 4294967296)) ((d.toNat : Nat) : Int) = ((n4 a b c d : Nat) : Int) := by
  have h1 := a.toNat_lt; have h2 := b.toNat_lt; have h3 := c.toNat_lt; have h4 := d.toNat_lt
  have e1 : ((a.toNat : Nat) : Int) * 16777216 % 4294967296 = ((a.toNat * 16777216 : Nat) : Int) := by omega
  have e2 : ((b.toNat : Nat) : Int) * 65536 % 4294967296 = ((b.toNat * 65536 : Nat) : Int) := by omega
  have e3 : ((c.toNat : Nat) : Int) * 256 % 4294967296 = ((c.toNat * 256 : Nat) : Int) := by omega
  rw [e1, e2, e3, u32_or_nat _ _ (by omega) (by omega)]
  have o1 : a.toNat * 16777216 ||| b.toNat * 65536 = a.toNat * 16777216 + b.toNat * 65536 := or_hi a.toNat _ 24 (by omega)
  rw [o1, u32_or_nat _ _ (by omega) (by omega)]
  have o2 : (a.toNat * 16777216 + b.toNat * 65536) ||| c.toNat * 256 = a.toNat * 16777216 + b.toNat * 65536 + c.toNat * 256 := by
    have := or_hi (a.toNat * 256 + b.toNat) (c.toNat * 256) 16 (by omega)
    rw [show (a.toNat * 256 + b.toNat) * 2 ^ 16 = a.toNat * 16777216 + b.toNat * 65536 by omega] at this
    exact this
  rw [o2, u32_or_nat _ _ (by omega) (by omega)]
  have o3 : (a.toNat * 16777216 + b.toNat * 65536 + c.toNat * 256) ||| d.toNat = a.toNat * 16777216 + b.toNat * 65536 + c.toNat * 256 + d.toNat := by
    have := or_hi (a.toNat * 65536 + b.toNat * 256 + c.toNat) d.toNat 8 (by omega)
    rw [show (a.toNat * 65536 + b.toNat * 256 + c.toNat) * 2 ^ 8 = a.toNat * 16777216 + b.toNat * 65536 + c.toNat * 256 by omega] at this
    exact this
  rw [o3]
  rfl

set_option maxRecDepth 10000 in
set_option maxHeartbeats 1600000 in
theorem numberIn_any (b o n cap : Nat) (a0 a1 a2 a3 : UInt8) (w : World) (h0 : w.cell? ⟨b, o, none⟩ = some (.int .u8 (a0.toNat : Nat))) (h1 : w.cell? ⟨b, o + 1, none⟩ = some (.int .u8 (a1.toNat : Nat)))
    (h2 : w.cell? ⟨b, o + 2, none⟩ = some (.int .u8 (a2.toNat : Nat))) (h3 : w.cell? ⟨b, o + 3, none⟩ = some (.int .u8 (a3.toNat : Nat))) (hn : 4 ≤ n) :
    Calls Try.prog 62 #[.slice (some ⟨b, o, none⟩) n cap] w fun e w' => e = .returned (.int .u32 (n4 a0 a1 a2 a3 : Nat)) ∧ Below w.heap.size w w' := by
  have HO := hide (or_n4 a0 a1 a2 a3)
  have g0 : (0 : Int) < n := by omega
  have g1 : (1 : Int) < n := by omega
  have g2 : (2 : Int) < n := by omega
  have g3 : (3 : Int) < n := by omega
  have k0 : (a0.toNat : Int) % 4294967296 = (a0.toNat : Int) := by have := a0.toNat_lt; omega
  have k1 : (a1.toNat : Int) % 4294967296 = (a1.toNat : Int) := by have := a1.toNat_lt; omega
  have k2 : (a2.toNat : Int) % 4294967296 = (a2.toNat : Int) := by have := a2.toNat_lt; omega
  have k3 : (a3.toNat : Int) % 4294967296 = (a3.toNat : Int) := by have := a3.toNat_lt; omega
  go_enter Try.func62, Try.ntmps62
  go_wp2_with fail
  go_quiet (fail)
  go_wp2_with fail
  go_ret
  exact ⟨ret_num HO.out, below_dn _ _ _⟩
/-- What four bytes are as a row. -/
theorem bs_b4 (n : Nat) (h : n < 4294967296) : #[Value.int .u8 ((n : Int) / 16777216), .int .u8 ((n : Int) / 65536 % 256), .int .u8 ((n : Int) / 256 % 256), .int .u8 ((n : Int) % 256)] = (bs (b4 n)).toArray := by
  have e : bs (b4 n) = [.int .u8 ((n / 16777216 % 256 : Nat) : Int), .int .u8 ((n / 65536 % 256 : Nat) : Int), .int .u8 ((n / 256 % 256 : Nat) : Int), .int .u8 ((n % 256 : Nat) : Int)] := by simp [bs, b4]
  rw [e, show n / 16777216 % 256 = n / 16777216 by omega]
  rfl
theorem Try.size104 : (Try.prog.info? 104).map (·.size) = some 4 := by kernel_rfl

set_option maxRecDepth 10000 in
set_option maxHeartbeats 1600000 in
theorem bytesOf_any (n : Nat) (w : World) (hn : n < 4294967296) :
    Calls Try.prog 74 #[.int .u32 (n : Nat)] w fun e w' => e = .returned (.agg (bs (b4 n)).toArray) ∧ Below w.heap.size w w' := by
  have HB := hide (bs_b4 n hn)
  have HN := hide (Blk.new w 104 (bs (b4 n)))
  go_enter Try.func74, Try.ntmps74
  go_wp2_with fail
  rw [HB.out]
  exact bodyPost_ret (v := .agg (bs (b4 n)).toArray) (results_cell_row rfl _ _ w.heap.size 104 _ (0, 0) _ rfl HN.out Try.underlying104 rfl Try.size104) rfl ⟨rfl, below_new _ _⟩
end Go.Proofs.Ytgigccgklahddaa
