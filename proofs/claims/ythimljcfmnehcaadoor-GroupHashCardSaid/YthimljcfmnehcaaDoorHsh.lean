/- Hash. -/
import Derived.Test.YthimljcfmnehcaaDoorTag
import Derived.Test.YthimljcfmnehcaaDoorRTag
import Derived.Test.YthimljcfmnehcaaDoorGElm
import Derived.Deep.Cut
namespace Go.Proofs.YthimljcfmnehcaaDoor
open Go.RowKit

/-! ## plain: the number that bytes form -/
def be (l : List UInt8) : Nat := l.foldl (fun n c => n * 256 + c.toNat) 0
theorem be_snoc (l : List UInt8) (c : UInt8) : be (l ++ [c]) = be l * 256 + c.toNat := by simp [be]
/-- the same without the highest bit -/
def rbe : List UInt8 → Nat
  | [] => 0
  | c :: l => l.foldl (fun n c => n * 256 + c.toNat) (c.toNat % 128)
theorem rbe_one (c : UInt8) : rbe [c] = c.toNat % 128 := rfl
theorem rbe_snoc {l : List UInt8} (h : l ≠ []) (c : UInt8) : rbe (l ++ [c]) = rbe l * 256 + c.toNat := by
  cases l with
  | nil => exact absurd rfl h
  | cons d l => simp [rbe]
theorem byte_lt (c : UInt8) : c.toNat < 256 := c.toNat_lt
theorem be_lt : ∀ (l : List UInt8), be l < 256 ^ l.length := by
  have key : ∀ (l : List UInt8) (n : Nat), l.foldl (fun n c => n * 256 + c.toNat) n < (n + 1) * 256 ^ l.length := by
    intro l
    induction l with
    | nil => intro n; simp
    | cons c l ih =>
      intro n
      have h1 := ih (n * 256 + c.toNat)
      have h2 := byte_lt c
      rw [List.foldl_cons, List.length_cons, Nat.pow_succ]
      refine Nat.lt_of_lt_of_le h1 ?_
      rw [Nat.mul_comm (256 ^ l.length) 256, ← Nat.mul_assoc]
      exact Nat.mul_le_mul_right _ (by omega)
  intro l
  have := key l 0
  simpa [be] using this
theorem rbe_lt (l : List UInt8) : 2 * rbe l < 256 ^ l.length := by
  have key : ∀ (l : List UInt8) (n : Nat), l.foldl (fun n c => n * 256 + c.toNat) n < (n + 1) * 256 ^ l.length := by
    intro l
    induction l with
    | nil => intro n; simp
    | cons c l ih =>
      intro n
      have h1 := ih (n * 256 + c.toNat)
      have h2 := byte_lt c
      rw [List.foldl_cons, List.length_cons, Nat.pow_succ]
      refine Nat.lt_of_lt_of_le h1 ?_
      rw [Nat.mul_comm (256 ^ l.length) 256, ← Nat.mul_assoc]
      exact Nat.mul_le_mul_right _ (by omega)
  cases l with
  | nil => simp [rbe]
  | cons c l =>
    have h1 := key l (c.toNat % 128)
    have h2 : (c.toNat % 128 + 1) * 256 ^ l.length ≤ 128 * 256 ^ l.length := Nat.mul_le_mul_right _ (by omega)
    rw [List.length_cons, Nat.pow_succ]
    show 2 * l.foldl (fun n c => n * 256 + c.toNat) (c.toNat % 128) < _
    omega
theorem rbe_be {l : List UInt8} (h : l.length = 8) : be l % 9223372036854775808 = rbe l := by
  match l, h with
  | [c0, c1, c2, c3, c4, c5, c6, c7], _ =>
    have h0 := byte_lt c0
    have h1 := byte_lt c1
    have h2 := byte_lt c2
    have h3 := byte_lt c3
    have h4 := byte_lt c4
    have h5 := byte_lt c5
    have h6 := byte_lt c6
    have h7 := byte_lt c7
    simp only [be, rbe, List.foldl_cons, List.foldl_nil]
    omega

theorem ofInt_wrap (x : Int) : BitVec.ofInt 64 (IntKind.i64.wrap x) = BitVec.ofInt 64 x := by
  apply BitVec.eq_of_toNat_eq
  rw [BitVec.toNat_ofInt, BitVec.toNat_ofInt]
  have : IntKind.i64.wrap x % (2 ^ 64 : Nat) = x % (2 ^ 64 : Nat) := by
    simp only [IntKind.wrap, IntKind.bits, IntKind.signed]
    simp
    omega
  rw [this]
theorem or_step (n : Nat) (c : UInt8) (h : n < 72057594037927936) : bits .or .i64 (IntKind.i64.wrap ((n * 256 : Nat) : Int)) ((c.toNat : Nat) : Int) = IntKind.i64.wrap ((n * 256 + c.toNat : Nat) : Int) := by
  have hc := byte_lt c
  show IntKind.i64.wrap ((BitVec.ofInt 64 (IntKind.i64.wrap ((n * 256 : Nat) : Int)) ||| BitVec.ofInt 64 ((c.toNat : Nat) : Int)).toNat : Int) = _
  rw [ofInt_wrap, BitVec.toNat_or, Gp.ofInt_64 _ (by omega), Gp.ofInt_64 _ (by omega)]
  have : n * 256 ||| c.toNat = n * 256 + c.toNat := by
    have := Nat.shiftLeft_add_eq_or_of_lt (i := 8) (b := c.toNat) (by omega) n
    rw [Nat.shiftLeft_eq] at this
    exact this.symm
  rw [this]
theorem and_last (n : Nat) (h : n < 18446744073709551616) : bits .and .i64 (IntKind.i64.wrap (n : Int)) 9223372036854775807 = ((n % 9223372036854775808 : Nat) : Int) := by
  show IntKind.i64.wrap ((BitVec.ofInt 64 (IntKind.i64.wrap (n : Int)) &&& BitVec.ofInt 64 ((9223372036854775807 : Nat) : Int)).toNat : Int) = _
  rw [ofInt_wrap, BitVec.toNat_and, Gp.ofInt_64 _ h, Gp.ofInt_64 _ (by omega)]
  have : n &&& 9223372036854775807 = n % 9223372036854775808 := Nat.and_two_pow_sub_one_eq_mod n 63
  rw [this]
  exact IntWalk.i64_in _ (by omega)

/-- What Hash answers. -/
def hshI (s : ByteArray) (l : List UInt8) : Int := Gp.md ((rbe ((tagd s.data.toList l).take 8) : Nat) : Int)

set_option maxRecDepth 20000 in
set_option maxHeartbeats 3200000 in
theorem hash_any (s : ByteArray) (a : Option Addr) (l : List UInt8) (cap : Nat) (w : World) (hT : Tab w) (hl : Sb w a l) (hn : l.length ≤ 10000000) (hs : s.size ≤ 10000000) (hnil : a = none → cap = 0) :
    Calls Tryd.prog 34 #[.string s, .slice a l.length cap] w fun e w' => e = .returned (.int .i64 (hshI s l)) ∧ Below w.heap.size w w' := by
  have HG := hide (tagged_any s a l.length cap l w hT hl rfl hn hs hnil)
  have HH := hide (show hshI s l = Gp.md ((rbe ((tagd s.data.toList l).take 8) : Nat) : Int) from rfl)
  have HD := hide (tagd_len s.data.toList l)
  generalize tagd s.data.toList l = D at *
  have HZ := hide (show (Tryd.prog.info? 26).map (·.size) = some ((bc D).toArray).size by rw [dv_size _ HD.out]; exact Tryd.size26)
  clear hT hl
  go_enter Tryd.func34, Tryd.ntmps34
  go_wp2_with fail
  refine HG.out.mono ?_
  rintro e w1 ⟨rfl, hb⟩
  have HB1 := hide hb
  clear hb HG
  have HX1 := hide (Blk.new w1 26 (List.replicate 32 (.int .u8 0)))
  go_wp2_with (refine wpList_store_row rfl 26 (.tmp 5) (.tmp 9) rfl w1.heap.size (bc D).toArray rfl rfl 26 _ HX1.out HZ.out (by rw [dv_size _ HD.out]; rfl) (all_oneCell_toArray (bc_one _)) ?_)
  refine name_code ?_
  intro V hV
  have HXV := hide (show Blk V w1.heap.size 26 (bc D) from by rw [hV.out]; exact HX1.out.row _)
  have HBV := hide (show Below w.heap.size w V from by rw [hV.out]; exact below_setRow (HB1.out.alloc HB1.out.size _) (by have := HB1.out.size; omega) _)
  clear hV HX1 HB1
  go_loopw [4, 6, 10] (fun v _ i wr => ∃ (k : Nat) (x : Int), k ≤ 8 ∧ i = .int .i64 k ∧ v = .int .i64 x ∧ Hid (x = IntKind.i64.wrap ((be (D.take k) : Nat) : Int)) ∧ wr = V) (fun _ _ i _ => 8 - (intOf i).toNat)
  case atStart => exact ⟨0, 0, by omega, rfl, rfl, hide (by simp [be]; rfl), rfl⟩
  case round =>
    obtain ⟨k, x, hk, rfl, rfl, HXE, rfl⟩ := hrel
    by_cases hlt : k < 8
    · have hlt' : (k : Int) < 8 := by omega
      have hk32 : k < D.length := by rw [HD.out]; omega
      have hcl : wr.cell? ⟨w1.heap.size, k, none⟩ = some (.int .u8 ((D[k]'hk32).toNat : Nat)) := by rw [HXV.out.cell k, bc_get hk32]
      have hbl := be_lt (D.take k)
      have hlen : (D.take k).length = k := by rw [List.length_take]; omega
      rw [hlen] at hbl
      have hb56 : be (D.take k) < 72057594037927936 := Nat.lt_of_lt_of_le hbl (by
        have : (72057594037927936 : Nat) = 256 ^ 7 := by decide
        rw [this]
        exact Nat.pow_le_pow_right (by omega) (by omega))
      have HN := hide (show IntKind.i64.wrap ((be (D.take k) * 256 + (D[k]'hk32).toNat : Nat) : Int) = IntKind.i64.wrap ((be (D.take (k + 1)) : Nat) : Int) from by
        rw [List.take_succ_eq_append_getElem hk32, be_snoc])
      have hx : x = ((be (D.take k) : Nat) : Int) := by rw [HXE.out]; exact IntWalk.i64_in _ (by omega)
      have hor := or_step (be (D.take k)) (D[k]'hk32) hb56
      clear hbl hlen HXE
      generalize D[k]'hk32 = c at *
      generalize be (D.take k) = n at *
      subst hx
      have hcc : IntKind.i64.wrap ((c.toNat : Nat) : Int) = ((c.toNat : Nat) : Int) := IntWalk.i64_in _ (by have := byte_lt c; omega)
      have hor' : bits .or .i64 (wrap64 ((n : Int) * 256)) ((c.toNat : Nat) : Int) = IntKind.i64.wrap ((n * 256 + c.toNat : Nat) : Int) := by
        rw [← hor]
        congr 1
        simp only [wrap64, IntKind.wrap, IntKind.bits, IntKind.signed]
        simp
        split <;> omega
      obtain ⟨z, hz⟩ : ∃ z, IntKind.i64.wrap ((n * 256 + c.toNat : Nat) : Int) = z := ⟨_, rfl⟩
      rw [hz] at hor' HN
      clear hz hb56 hor
      go_wp2_with fail
      go_roundw
      case rel => exact ⟨k + 1, z, by omega, by go_num, rfl, hide HN.out.symm.symm, trivial⟩
      case measure => simp [intOf]; omega
    · obtain rfl : k = 8 := by omega
      have hlt' : ¬ ((8 : Nat) : Int) < 8 := by omega
      have h8 : (D.take 8).length = 8 := by rw [List.length_take, HD.out]; rfl
      have hb := be_lt (D.take 8)
      rw [h8] at hb
      have hand := and_last (be (D.take 8)) (by simpa using hb)
      rw [← HXE.out, rbe_be h8] at hand
      obtain ⟨r, hr⟩ : ∃ r, ((rbe (D.take 8) : Nat) : Int) = r := ⟨_, rfl⟩
      rw [hr] at hand HH
      have HE := hide (Gp.exponent_any r _ wr.heap.size (Gp.Blk.new wr 3 [.int .i64 r]))
      have HBN := hide (below_one HBV.out (below_new wr (.cells #[.int .i64 r] 3)))
      clear h8 hb hr HXE
      go_wp2_with fail
      refine HE.out.mono ?_
      rintro e w2 ⟨rfl, hb⟩
      have HB2 := hide (below_one HBN.out hb)
      clear hb
      go_wp2_with fail
      go_ret
      exact ⟨by rw [HH.out]; rfl, HB2.out⟩

set_option maxRecDepth 20000 in
set_option maxHeartbeats 3200000 in
theorem rhash_any (s : ByteArray) (a : Option Addr) (l : List UInt8) (cap : Nat) (w : World) (hl : Src w a l.length cap l) (hn : l.length ≤ 90000000) (hs : s.size ≤ 600) :
    Calls Tryd.prog 35 #[.string s, .slice a l.length cap] w fun e w' => e = .returned (.int .i64 (hshI s l)) ∧ Below w.heap.size w w' := by
  have HG := hide (rtagged_any s a l.length cap l w hl hs hn)
  have HH := hide (show hshI s l = Gp.md ((rbe ((tagd s.data.toList l).take 8) : Nat) : Int) from rfl)
  have HD := hide (tagd_len s.data.toList l)
  generalize tagd s.data.toList l = D at *
  have HZ := hide (show (Tryd.prog.info? 26).map (·.size) = some ((bc D).toArray).size by rw [dv_size _ HD.out]; exact Tryd.size26)
  clear hl
  go_enter Tryd.func35, Tryd.ntmps35
  go_wp2_with fail
  refine HG.out.mono ?_
  rintro e w1 ⟨rfl, hb⟩
  have HB1 := hide hb
  clear hb HG
  have HX1 := hide (Blk.new w1 26 (List.replicate 32 (.int .u8 0)))
  have h0 : 0 < D.length := by rw [HD.out]; omega
  have HC0 := hide (show (bc D)[0]? = some (.int .u8 ((D[0]'h0).toNat : Nat)) from bc_get h0)
  have HT1 := hide (show D.take 1 = [D[0]'h0] from by rw [List.take_succ_eq_append_getElem h0]; rfl)
  generalize D[0]'h0 = d0 at *
  have hd0 : IntKind.i64.wrap ((d0.toNat : Nat) : Int) = ((d0.toNat : Nat) : Int) := IntWalk.i64_in _ (by have := byte_lt d0; omega)
  have hm0 : ((d0.toNat : Nat) : Int).tmod 128 = ((d0.toNat % 128 : Nat) : Int) := IntWalk.up_tmod rfl rfl
  go_upto_region 2 with (refine wpList_store_row rfl 26 (.tmp 5) (.tmp 10) rfl w1.heap.size (bc D).toArray rfl rfl 26 _ HX1.out HZ.out (by rw [dv_size _ HD.out]; rfl) (all_oneCell_toArray (bc_one _)) ?_)
  refine name_code ?_
  intro V hV
  have HXV := hide (show Blk V w1.heap.size 26 (bc D) from by rw [hV.out]; exact HX1.out.row _)
  have HBV := hide (show Below w.heap.size w V from by rw [hV.out]; exact below_setRow (HB1.out.alloc HB1.out.size _) (by have := HB1.out.size; omega) _)
  clear hV HX1 HB1
  have hcl : V.cell? ⟨w1.heap.size, 0, none⟩ = some (.int .u8 ((d0.toNat : Nat) : Int)) := (HXV.out.cell 0).trans HC0.out
  go_wp2_with fail
  clear hcl hd0 hm0
  go_loopw [6, 7] (fun v i wr => ∃ (k : Nat) (x : Nat), 1 ≤ k ∧ k ≤ 8 ∧ i = .int .i64 k ∧ v = .int .i64 (x : Nat) ∧ Hid (x = rbe (D.take k)) ∧ wr = V) (fun _ i _ => 8 - (intOf i).toNat)
  case atStart => exact ⟨1, d0.toNat % 128, by omega, by omega, rfl, by go_num, hide (by rw [HT1.out, rbe_one]), rfl⟩
  case round =>
    obtain ⟨k, x, hk1, hk, rfl, rfl, HXE, rfl⟩ := hrel
    by_cases hlt : k < 8
    · have hlt' : (k : Int) < 8 := by omega
      have hk32 : k < D.length := by rw [HD.out]; omega
      have hcl : wr.cell? ⟨w1.heap.size, k, none⟩ = some (.int .u8 ((D[k]'hk32).toNat : Nat)) := by rw [HXV.out.cell k, bc_get hk32]
      have hlen : (D.take k).length = k := by rw [List.length_take]; omega
      have HN := hide (show x * 256 + (D[k]'hk32).toNat = rbe (D.take (k + 1)) from by
        rw [List.take_succ_eq_append_getElem hk32, rbe_snoc (by intro e; rw [e] at hlen; simp at hlen; omega), HXE.out])
      have hr := rbe_lt (D.take (k + 1))
      have hlen1 : (D.take (k + 1)).length = k + 1 := by rw [List.length_take]; omega
      rw [hlen1, ← HN.out] at hr
      have hr2 : 2 * (x * 256 + (D[k]'hk32).toNat) < 18446744073709551616 := Nat.lt_of_lt_of_le hr (by
        have : (18446744073709551616 : Nat) = 256 ^ 8 := by decide
        rw [this]
        exact Nat.pow_le_pow_right (by omega) (by omega))
      clear hr hlen hlen1
      generalize D[k]'hk32 = c at *
      have hcc : IntKind.i64.wrap ((c.toNat : Nat) : Int) = ((c.toNat : Nat) : Int) := IntWalk.i64_in _ (by have := byte_lt c; omega)
      have hw1 : IntKind.i64.wrap ((x : Int) * 256) = (x : Int) * 256 := IntWalk.i64_in _ (by omega)
      have hw2 : IntKind.i64.wrap ((x : Int) * 256 + ((c.toNat : Nat) : Int)) = ((x * 256 + c.toNat : Nat) : Int) := by rw [IntWalk.i64_in _ (by omega)]; omega
      obtain ⟨z, hz⟩ : ∃ z, x * 256 + c.toNat = z := ⟨_, rfl⟩
      rw [hz] at hw2 HN
      have hw3 : (x : Int) * 256 + ((c.toNat : Nat) : Int) = (z : Int) := by omega
      have HW4 := hide (show wrap64 (z : Int) = (z : Int) from IntWalk.wrap64_in _ (by omega))
      clear hr2 hz
      go_wp2_with fail
      go_roundw
      case rel => exact ⟨k + 1, z, by omega, by omega, by go_num, congrArg (Value.int .i64) HW4.out, HN, trivial⟩
      case measure => simp [intOf]; omega
    · obtain rfl : k = 8 := by omega
      have hlt' : ¬ ((8 : Nat) : Int) < 8 := by omega
      have hmod : ((x : Nat) : Int).tmod 1073741789 = Gp.md x := Int.tmod_eq_emod_of_nonneg (by omega)
      have hmw : IntKind.i64.wrap (((x : Nat) : Int).tmod 1073741789) = Gp.md x := by
        rw [hmod]
        have h1 := Gp.md_lo x
        have h2 := Gp.md_hi x
        exact IntWalk.i64_in _ (by omega)
      have HE := hide (show hshI s l = Gp.md x from by rw [HH.out, HXE.out])
      clear HXE
      generalize Gp.md x = m at *
      go_wp2_with fail
      go_ret
      exact ⟨by rw [HE.out]; rfl, HBV.out⟩
end Go.Proofs.YthimljcfmnehcaaDoor
