/- What a good sector is, as the reference says it. -/
import Derived.Test.YtgigccgklahddaaRnum
import Derived.Test.YtgigccgklahddaaVal
namespace Go.Proofs.Ytgigccgklahddaa
open Go.RowKit

/-- A sector is good for a number. -/
structure GoodP (l : List UInt8) (k : Nat) : Prop where
  some : numB (l.take 4) ≠ 0
  ends : numB (l.take 4) = numB (l.drop 124)
  crc : numB ((l.drop 4).take 4) = (crc ((l.drop 8).take 116)).toNat
  place : numB ((l.drop 8).take 2) = k
  kind : (l.getD 10 0).toNat ≤ 3
  len : (l.getD 11 0).toNat ≤ 112
  full : 2 ≤ (l.getD 10 0).toNat ∨ (l.getD 11 0).toNat = 112
  more : (l.getD 10 0).toNat % 2 = 1 ∨ (l.getD 11 0).toNat ≠ 0
  zero : ∀ i, 12 + (l.getD 11 0).toNat ≤ i → i < 124 → l.getD i 0 = 0
theorem fin_bits : ∀ n : Fin 256, (bits .and .u8 ((n.val : Nat) : Int) 1 != 0) = decide (n.val % 2 = 1) ∧ (bits .and .u8 ((n.val : Nat) : Int) 2 != 0) = decide (n.val / 2 % 2 = 1) := by decide +kernel
theorem bit1_mod (c : UInt8) : bit1 c = decide (c.toNat % 2 = 1) := (fin_bits ⟨c.toNat, c.toNat_lt⟩).1
theorem bit2_mod (c : UInt8) : bit2 c = decide (c.toNat / 2 % 2 = 1) := (fin_bits ⟨c.toNat, c.toNat_lt⟩).2
theorem kind_is (c : UInt8) : UInt8.ofNat (kindB (bit1 c) (bit2 c)) = c ↔ c.toNat ≤ 3 := by
  have hc := c.toNat_lt
  rw [bit1_mod, bit2_mod]
  constructor
  · intro h
    have := congrArg UInt8.toNat h
    rw [u8_nat] at this
    unfold kindB at this
    split at this <;> split at this <;> omega
  · intro h
    apply u8_eq
    rw [u8_nat]
    unfold kindB
    by_cases h1 : c.toNat % 2 = 1 <;> by_cases h2 : c.toNat / 2 % 2 = 1 <;> simp only [h1, h2, decide_true, decide_false, if_true] <;> first | omega | (simp; omega)
theorem cons4 {α : Type} {l : List α} (h : 4 ≤ l.length) : ∃ a b c d r, l = a :: b :: c :: d :: r ∧ r.length + 4 = l.length := by
  match l, h with
  | a :: b :: c :: d :: r, _ => exact ⟨a, b, c, d, r, rfl, rfl⟩
theorem numB_two (a b : UInt8) : numB [a, b] = a.toNat * 256 + b.toNat := by
  unfold numB
  simp only [List.foldl_cons, List.foldl_nil]
  omega
theorem b4_inj {a b c d : UInt8} {n : Nat} (hn : n < 4294967296) : b4 n = [a, b, c, d] ↔ n4 a b c d = n := by
  constructor
  · intro h
    have := n4_b4 hn
    unfold b4 at h
    simp only [List.cons.injEq, and_true] at h
    obtain ⟨h1, h2, h3, h4⟩ := h
    rw [h1, h2, h3, h4] at this
    exact this
  · intro h
    exact (congrArg b4 h).symm.trans (b4_n4 a b c d)
theorem drop_zero_iff {R : List UInt8} {n : Nat} (hR : R.length = 112) (hn : n ≤ 112) : R = R.take n ++ List.replicate (112 - n) 0 ↔ ∀ i, n ≤ i → i < 112 → R.getD i 0 = 0 := by
  constructor
  · intro h i h1 h2
    rw [h, List.getD_eq_getElem?_getD, List.getElem?_append_right (by rw [List.length_take]; omega), List.getElem?_replicate]
    split <;> rfl
  · intro h
    apply List.ext_getElem
    · rw [List.length_append, List.length_take, List.length_replicate]; omega
    · intro i h1 h2
      by_cases hi : i < n
      · rw [List.getElem_append_left (by rw [List.length_take]; omega), List.getElem_take]
      · rw [List.getElem_append_right (by rw [List.length_take]; omega), List.getElem_replicate]
        have := h i (by omega) (by omega)
        rw [List.getD_eq_getElem?_getD, List.getElem?_eq_getElem h1] at this
        exact this
/-- The reference's conditions are the program's. -/
theorem read_good {l : List UInt8} {k : Nat} (hl : l.length = 128) (hk : k < 65536) : (readB l k).isSome = true ↔ GoodP l k := by
  obtain ⟨a0, a1, a2, a3, l1, rfl, h1⟩ := cons4 (l := l) (by omega)
  obtain ⟨c0, c1, c2, c3, l2, rfl, h2⟩ := cons4 (l := l1) (by omega)
  obtain ⟨x0, x1, x2, x3, l3, rfl, h3⟩ := cons4 (l := l2) (by omega)
  have hR : (l3.take 112).length = 112 := by rw [List.length_take]; omega
  have hT : (l3.drop 112).length = 4 := by rw [List.length_drop]; omega
  have hl3 : l3 = l3.take 112 ++ l3.drop 112 := (List.take_append_drop 112 l3).symm
  generalize hRe : l3.take 112 = R at *
  obtain ⟨t0, t1, t2, t3, r, hTe, hr⟩ := cons4 (l := l3.drop 112) (by omega)
  obtain rfl : r = [] := List.eq_nil_of_length_eq_zero (by omega)
  rw [hTe] at hl3
  subst hl3
  clear hRe hTe hT h1 h2 h3
  have e10 : (a0 :: a1 :: a2 :: a3 :: c0 :: c1 :: c2 :: c3 :: x0 :: x1 :: x2 :: x3 :: (R ++ [t0, t1, t2, t3])).getD 10 0 = x2 := rfl
  have e11 : (a0 :: a1 :: a2 :: a3 :: c0 :: c1 :: c2 :: c3 :: x0 :: x1 :: x2 :: x3 :: (R ++ [t0, t1, t2, t3])).getD 11 0 = x3 := rfl
  have e0 : (a0 :: a1 :: a2 :: a3 :: c0 :: c1 :: c2 :: c3 :: x0 :: x1 :: x2 :: x3 :: (R ++ [t0, t1, t2, t3])).getD 0 0 = a0 := rfl
  have e1 : (a0 :: a1 :: a2 :: a3 :: c0 :: c1 :: c2 :: c3 :: x0 :: x1 :: x2 :: x3 :: (R ++ [t0, t1, t2, t3])).getD 1 0 = a1 := rfl
  have e2 : (a0 :: a1 :: a2 :: a3 :: c0 :: c1 :: c2 :: c3 :: x0 :: x1 :: x2 :: x3 :: (R ++ [t0, t1, t2, t3])).getD 2 0 = a2 := rfl
  have e3 : (a0 :: a1 :: a2 :: a3 :: c0 :: c1 :: c2 :: c3 :: x0 :: x1 :: x2 :: x3 :: (R ++ [t0, t1, t2, t3])).getD 3 0 = a3 := rfl
  have ed : ∀ n, n ≤ 112 → ((a0 :: a1 :: a2 :: a3 :: c0 :: c1 :: c2 :: c3 :: x0 :: x1 :: x2 :: x3 :: (R ++ [t0, t1, t2, t3])).drop 12).take n = R.take n := fun n hn => by
    show (R ++ [t0, t1, t2, t3]).take n = R.take n
    rw [List.take_append_of_le_length (by omega)]
  have eB : ((a0 :: a1 :: a2 :: a3 :: c0 :: c1 :: c2 :: c3 :: x0 :: x1 :: x2 :: x3 :: (R ++ [t0, t1, t2, t3])).drop 8).take 116 = x0 :: x1 :: x2 :: x3 :: R := by
    show (x0 :: x1 :: x2 :: x3 :: (R ++ [t0, t1, t2, t3])).take (112 + 4) = _
    rw [List.take_succ_cons, List.take_succ_cons, List.take_succ_cons, List.take_succ_cons, List.take_left' hR]
  have eT : (a0 :: a1 :: a2 :: a3 :: c0 :: c1 :: c2 :: c3 :: x0 :: x1 :: x2 :: x3 :: (R ++ [t0, t1, t2, t3])).drop 124 = [t0, t1, t2, t3] := by
    show (R ++ [t0, t1, t2, t3]).drop 112 = _
    rw [List.drop_left' hR]
  have eA : (a0 :: a1 :: a2 :: a3 :: c0 :: c1 :: c2 :: c3 :: x0 :: x1 :: x2 :: x3 :: (R ++ [t0, t1, t2, t3])).take 4 = [a0, a1, a2, a3] := rfl
  have eC : ((a0 :: a1 :: a2 :: a3 :: c0 :: c1 :: c2 :: c3 :: x0 :: x1 :: x2 :: x3 :: (R ++ [t0, t1, t2, t3])).drop 4).take 4 = [c0, c1, c2, c3] := rfl
  have eP : ((a0 :: a1 :: a2 :: a3 :: c0 :: c1 :: c2 :: c3 :: x0 :: x1 :: x2 :: x3 :: (R ++ [t0, t1, t2, t3])).drop 8).take 2 = [x0, x1] := rfl
  have eZ : ∀ i, i < 112 → (a0 :: a1 :: a2 :: a3 :: c0 :: c1 :: c2 :: c3 :: x0 :: x1 :: x2 :: x3 :: (R ++ [t0, t1, t2, t3])).getD (12 + i) 0 = R.getD i 0 := fun i hi => by
    rw [Nat.add_comm 12 i]
    show (R ++ [t0, t1, t2, t3]).getD i 0 = R.getD i 0
    rw [List.getD_eq_getElem?_getD, List.getElem?_append_left (by omega), ← List.getD_eq_getElem?_getD]
  have hg : n4 a0 a1 a2 a3 < 4294967296 := n4_lt _ _ _ _
  have hx0 := x0.toNat_lt
  have hx1 := x1.toNat_lt
  have key : ∀ bg en : Bool, x3.toNat ≤ 112 → (secB bg en (R.take x3.toNat) k (n4 a0 a1 a2 a3) = a0 :: a1 :: a2 :: a3 :: c0 :: c1 :: c2 :: c3 :: x0 :: x1 :: x2 :: x3 :: (R ++ [t0, t1, t2, t3]) ↔
      n4 c0 c1 c2 c3 = (crc (x0 :: x1 :: x2 :: x3 :: R)).toNat ∧ x0.toNat * 256 + x1.toNat = k ∧ UInt8.ofNat (kindB bg en) = x2 ∧ (R = R.take x3.toNat ++ List.replicate (112 - x3.toNat) 0) ∧ n4 t0 t1 t2 t3 = n4 a0 a1 a2 a3) := by
    intro bg en hle
    have hll : (R.take x3.toNat).length = x3.toNat := by rw [List.length_take]; omega
    have hx3 : UInt8.ofNat x3.toNat = x3 := by apply u8_eq; rw [u8_nat]; have := x3.toNat_lt; omega
    have hbody : ∀ (_ : x0.toNat * 256 + x1.toNat = k) (_ : UInt8.ofNat (kindB bg en) = x2) (_ : R = R.take x3.toNat ++ List.replicate (112 - x3.toNat) 0), bodyB bg en (R.take x3.toNat) k = x0 :: x1 :: x2 :: x3 :: R := by
      intro h1 h2 h3
      have e0 : UInt8.ofNat (k / 256) = x0 := by apply u8_eq; rw [u8_nat]; omega
      have e1 : UInt8.ofNat k = x1 := by apply u8_eq; rw [u8_nat]; omega
      unfold bodyB
      rw [hll, e0, e1, h2, hx3]
      show x0 :: x1 :: x2 :: x3 :: (R.take x3.toNat ++ List.replicate (112 - x3.toNat) 0) = _
      rw [← h3]
    have hcl := (crc (bodyB bg en (R.take x3.toNat) k)).isLt
    have e4 : b4 (n4 a0 a1 a2 a3) = [a0, a1, a2, a3] := b4_n4 _ _ _ _
    have hs : secB bg en (R.take x3.toNat) k (n4 a0 a1 a2 a3) = [a0, a1, a2, a3] ++ (b4 (crc (bodyB bg en (R.take x3.toNat) k)).toNat ++ (UInt8.ofNat (k / 256) :: UInt8.ofNat k :: UInt8.ofNat (kindB bg en) :: x3 :: ((R.take x3.toNat ++ List.replicate (112 - x3.toNat) 0) ++ [a0, a1, a2, a3]))) := by
      unfold secB
      rw [e4]
      conv => lhs; rw [show bodyB bg en (R.take x3.toNat) k = UInt8.ofNat (k / 256) :: UInt8.ofNat k :: UInt8.ofNat (kindB bg en) :: x3 :: (R.take x3.toNat ++ List.replicate (112 - x3.toNat) 0) by unfold bodyB; rw [hll, hx3]; rfl]
      conv => rhs; rw [show bodyB bg en (R.take x3.toNat) k = UInt8.ofNat (k / 256) :: UInt8.ofNat k :: UInt8.ofNat (kindB bg en) :: x3 :: (R.take x3.toNat ++ List.replicate (112 - x3.toNat) 0) by unfold bodyB; rw [hll, hx3]; rfl]
      simp only [List.append_assoc, List.cons_append, List.nil_append]
    constructor
    · intro h
      rw [hs] at h
      simp only [List.cons_append, List.nil_append, List.cons.injEq, true_and] at h
      obtain ⟨d0, d1, d2, d3, hd⟩ := b4_vals (crc (bodyB bg en (R.take x3.toNat) k)).toNat
      rw [hd] at h
      simp only [List.cons_append, List.nil_append, List.cons.injEq, true_and] at h
      obtain ⟨rfl, rfl, rfl, rfl, q0, q1, q2, q3⟩ := h
      have hlen : (R.take x3.toNat ++ List.replicate (112 - x3.toNat) 0).length = R.length := by rw [List.length_append, hll, List.length_replicate]; omega
      obtain ⟨q3, q4⟩ := List.append_inj q3 hlen
      have p0 := congrArg UInt8.toNat q0
      have p1 := congrArg UInt8.toNat q1
      rw [u8_nat] at p0 p1
      have hpk : x0.toNat * 256 + x1.toNat = k := by omega
      refine ⟨?_, hpk, q2, q3.symm, ?_⟩
      · rw [← hbody hpk q2 q3.symm]
        exact (b4_inj hcl).1 hd
      · simp only [List.cons.injEq, and_true] at q4
        obtain ⟨r0, r1, r2, r3⟩ := q4
        rw [r0, r1, r2, r3]
    · rintro ⟨g1, g2, g3, g4, g5⟩
      rw [hs, hbody g2 g3 g4, (b4_inj (a := c0) (b := c1) (c := c2) (d := c3) (crc (x0 :: x1 :: x2 :: x3 :: R)).isLt).2 g1]
      have e0 : UInt8.ofNat (k / 256) = x0 := by apply u8_eq; rw [u8_nat]; omega
      have e1 : UInt8.ofNat k = x1 := by apply u8_eq; rw [u8_nat]; omega
      rw [e0, e1, g3, ← g4, show [t0, t1, t2, t3] = [a0, a1, a2, a3] from (b4_n4 t0 t1 t2 t3).symm.trans ((congrArg b4 g5).trans (b4_n4 a0 a1 a2 a3))]
      rfl
  have hsome : (readB (a0 :: a1 :: a2 :: a3 :: c0 :: c1 :: c2 :: c3 :: x0 :: x1 :: x2 :: x3 :: (R ++ [t0, t1, t2, t3])) k).isSome = true ↔ (x3.toNat ≤ 112 ∧ n4 a0 a1 a2 a3 ≠ 0 ∧ (bit2 x2 = true ∨ x3.toNat = 112) ∧ (bit1 x2 = true ∨ 0 < x3.toNat) ∧ secB (bit1 x2) (bit2 x2) (((a0 :: a1 :: a2 :: a3 :: c0 :: c1 :: c2 :: c3 :: x0 :: x1 :: x2 :: x3 :: (R ++ [t0, t1, t2, t3])).drop 12).take x3.toNat) k (n4 a0 a1 a2 a3) = a0 :: a1 :: a2 :: a3 :: c0 :: c1 :: c2 :: c3 :: x0 :: x1 :: x2 :: x3 :: (R ++ [t0, t1, t2, t3])) := by
    unfold readB
    simp only [e10, e11, e0, e1, e2, e3]
    constructor
    · intro h
      split at h
      · next hc => exact hc
      · cases h
    · intro h
      rw [if_pos h]
      rfl
  rw [hsome]
  constructor
  · rintro ⟨g1, g2, g3, g4, g5⟩
    rw [ed _ g1, key _ _ g1] at g5
    obtain ⟨q1, q2, q3, q4, q5⟩ := g5
    have q3' := (kind_is x2).1 q3
    rw [bit2_mod, decide_eq_true_eq] at g3
    rw [bit1_mod, decide_eq_true_eq] at g4
    refine ⟨by rw [eA, numB_four]; exact g2, by rw [eA, eT, numB_four, numB_four, q5], by rw [eC, eB, numB_four]; exact q1, by rw [eP, numB_two]; exact q2, by rw [e10]; exact q3', by rw [e11]; exact g1, by rw [e10, e11]; omega, by rw [e10, e11]; omega, fun i h1 h2 => ?_⟩
    rw [e11] at h1
    have := (drop_zero_iff hR g1).1 q4 (i - 12) (by omega) (by omega)
    rw [← eZ (i - 12) (by omega), show 12 + (i - 12) = i by omega] at this
    exact this
  · rintro ⟨g1, g2, g3, g4, g5, g6, g7, g8, g9⟩
    rw [eA, numB_four] at g1
    rw [eA, eT, numB_four, numB_four] at g2
    rw [eC, eB, numB_four] at g3
    rw [eP, numB_two] at g4
    rw [e10] at g5 g7 g8
    rw [e11] at g6 g7 g8 g9
    refine ⟨g6, g1, ?_, ?_, ?_⟩
    · rw [bit2_mod, decide_eq_true_eq]; omega
    · rw [bit1_mod, decide_eq_true_eq]; omega
    · rw [ed _ g6, key _ _ g6]
      refine ⟨g3, g4, (kind_is x2).2 g5, (drop_zero_iff hR g6).2 fun i h1 h2 => ?_, g2.symm⟩
      rw [← eZ i h2]
      exact g9 (12 + i) (by omega) (by omega)
/-- What is read of a good sector. -/
theorem read_is {l : List UInt8} {k : Nat} (h : GoodP l k) (hl : l.length = 128) (hk : k < 65536) : readB l k = some ⟨decide ((l.getD 10 0).toNat % 2 = 1), decide (2 ≤ (l.getD 10 0).toNat), (l.drop 12).take (l.getD 11 0).toNat, numB (l.take 4)⟩ := by
  have hs := (read_good hl hk).2 h
  unfold readB at hs ⊢
  simp only at hs ⊢
  split
  · have hkd := h.kind
    rw [bit1_mod, bit2_mod]
    obtain ⟨a0, a1, a2, a3, l1, rfl, h1⟩ := cons4 (l := l) (by omega)
    have e1 : decide ((List.getD (a0 :: a1 :: a2 :: a3 :: l1) 10 0).toNat / 2 % 2 = 1) = decide (2 ≤ (List.getD (a0 :: a1 :: a2 :: a3 :: l1) 10 0).toNat) := by
      congr 1
      apply propext
      omega
    rw [e1, show (a0 :: a1 :: a2 :: a3 :: l1).take 4 = [a0, a1, a2, a3] from rfl, numB_four]
    rfl
  · next hc =>
    rw [if_neg hc] at hs
    cases hs
end Go.Proofs.Ytgigccgklahddaa
