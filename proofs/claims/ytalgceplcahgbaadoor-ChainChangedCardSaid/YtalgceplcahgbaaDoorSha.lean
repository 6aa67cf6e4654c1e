/- SHA-256 as the chapter says it, over words of 32 bits and lists of bytes. Nothing here speaks of a program. -/
namespace Go.Proofs.YtalgceplcahgbaaDoor

abbrev U32 := BitVec 32

def ror (x : U32) (n : Nat) : U32 := (x >>> n) ||| (x <<< (32 - n))

def kl : List Nat := [
  0x428a2f98, 0x71374491, 0xb5c0fbcf, 0xe9b5dba5, 0x3956c25b, 0x59f111f1, 0x923f82a4, 0xab1c5ed5,
  0xd807aa98, 0x12835b01, 0x243185be, 0x550c7dc3, 0x72be5d74, 0x80deb1fe, 0x9bdc06a7, 0xc19bf174,
  0xe49b69c1, 0xefbe4786, 0x0fc19dc6, 0x240ca1cc, 0x2de92c6f, 0x4a7484aa, 0x5cb0a9dc, 0x76f988da,
  0x983e5152, 0xa831c66d, 0xb00327c8, 0xbf597fc7, 0xc6e00bf3, 0xd5a79147, 0x06ca6351, 0x14292967,
  0x27b70a85, 0x2e1b2138, 0x4d2c6dfc, 0x53380d13, 0x650a7354, 0x766a0abb, 0x81c2c92e, 0x92722c85,
  0xa2bfe8a1, 0xa81a664b, 0xc24b8b70, 0xc76c51a3, 0xd192e819, 0xd6990624, 0xf40e3585, 0x106aa070,
  0x19a4c116, 0x1e376c08, 0x2748774c, 0x34b0bcb5, 0x391c0cb3, 0x4ed8aa4a, 0x5b9cca4f, 0x682e6ff3,
  0x748f82ee, 0x78a5636f, 0x84c87814, 0x8cc70208, 0x90befffa, 0xa4506ceb, 0xbef9a3f7, 0xc67178f2]
def kw (t : Nat) : U32 := BitVec.ofNat 32 (kl.getD t 0)
theorem kw_nat (t : Nat) : (kw t).toNat = kl.getD t 0 := by
  unfold kw
  rw [BitVec.toNat_ofNat]
  by_cases h : t < 64
  · have : ∀ t, t < 64 → kl.getD t 0 % 2 ^ 32 = kl.getD t 0 := by decide +kernel
    exact this t h
  · have : kl.getD t 0 = 0 := by rw [List.getD_eq_getElem?_getD, List.getElem?_eq_none (by simp [kl]; omega)]; rfl
    rw [this]

/-- A byte joins a word from the right. -/
def push (v : U32) (c : UInt8) : U32 := (v <<< 8) ||| BitVec.ofNat 32 c.toNat
def wd (b : List UInt8) (i : Nat) : U32 := push (push (push (push 0 (b.getD i 0)) (b.getD (i + 1) 0)) (b.getD (i + 2) 0)) (b.getD (i + 3) 0)

theorem wd_sum (b : List UInt8) (i : Nat) : wd b i = ((BitVec.ofNat 32 (b.getD i 0).toNat <<< 24 ||| BitVec.ofNat 32 (b.getD (i + 1) 0).toNat <<< 16) ||| BitVec.ofNat 32 (b.getD (i + 2) 0).toNat <<< 8) ||| BitVec.ofNat 32 (b.getD (i + 3) 0).toNat := by
  unfold wd push
  simp only [BitVec.shiftLeft_or_distrib, ← BitVec.shiftLeft_add]
  simp

/-- The next word of a schedule. -/
def nextw (f : Nat → U32) (t : Nat) : U32 :=
  f (t - 16) + (ror (f (t - 15)) 7 ^^^ ror (f (t - 15)) 18 ^^^ (f (t - 15)) >>> 3) + f (t - 7) + (ror (f (t - 2)) 17 ^^^ ror (f (t - 2)) 19 ^^^ (f (t - 2)) >>> 10)
def sched (b : List UInt8) : Nat → List U32
  | 0 => (List.range 16).map fun t => wd b (4 * t)
  | n + 1 => let r := sched b n; r ++ [nextw (fun i => r.getD i 0) (16 + n)]
def wv (b : List UInt8) (t : Nat) : U32 := (sched b 48).getD t 0

theorem sched_len (b : List UInt8) (n : Nat) : (sched b n).length = 16 + n := by
  induction n with
  | zero => simp [sched]
  | succ n ih => simp [sched, ih]; omega
theorem sched_more (b : List UInt8) (n k t : Nat) (h : t < 16 + n) : (sched b (n + k)).getD t 0 = (sched b n).getD t 0 := by
  induction k with
  | zero => rfl
  | succ k ih =>
    rw [← ih, show n + (k + 1) = (n + k) + 1 from rfl]
    simp only [sched]
    rw [List.getD_eq_getElem?_getD, List.getElem?_append_left (by rw [sched_len]; omega), ← List.getD_eq_getElem?_getD]
theorem wv_first (b : List UInt8) (t : Nat) (h : t < 16) : wv b t = wd b (4 * t) := by
  unfold wv
  rw [show (48 : Nat) = 0 + 48 from rfl, sched_more b 0 48 t (by omega)]
  simp [sched, List.getD_eq_getElem?_getD, h]
theorem wv_next (b : List UInt8) (t : Nat) (h : 16 ≤ t) (h' : t < 64) : wv b t = nextw (wv b) t := by
  obtain ⟨n, rfl⟩ : ∃ n, t = 16 + n := ⟨t - 16, by omega⟩
  have e : ∀ i, i < 16 + n → wv b i = (sched b n).getD i 0 := fun i hi => by
    unfold wv
    rw [show (48 : Nat) = n + (48 - n) from by omega, sched_more b n _ i hi]
  have e1 : wv b (16 + n) = (sched b (n + 1)).getD (16 + n) 0 := by
    unfold wv
    rw [show (48 : Nat) = (n + 1) + (48 - (n + 1)) from by omega, sched_more b (n + 1) _ _ (by omega)]
  rw [e1]
  simp only [sched]
  rw [List.getD_eq_getElem?_getD, List.getElem?_append_right (by rw [sched_len]; omega), sched_len]
  simp only [Nat.sub_self, List.getElem?_cons_zero, Option.getD_some]
  unfold nextw
  rw [e _ (by omega), e _ (by omega), e _ (by omega), e _ (by omega)]

/-- The eight words of a state. -/
structure S8 where
  (a b c d e f g h : U32)
def rnd (k w : U32) (s : S8) : S8 :=
  let p := s.h + (ror s.e 6 ^^^ ror s.e 11 ^^^ ror s.e 25) + ((s.e &&& s.f) ^^^ (~~~s.e &&& s.g)) + k + w
  let q := (ror s.a 2 ^^^ ror s.a 13 ^^^ ror s.a 22) + ((s.a &&& s.b) ^^^ (s.a &&& s.c) ^^^ (s.b &&& s.c))
  ⟨p + q, s.a, s.b, s.c, s.d + p, s.e, s.f, s.g⟩
def rnds (w : Nat → U32) (s : S8) : Nat → S8
  | 0 => s
  | n + 1 => rnd (kw n) (w n) (rnds w s n)
def add8 (s r : S8) : S8 := ⟨s.a + r.a, s.b + r.b, s.c + r.c, s.d + r.d, s.e + r.e, s.f + r.f, s.g + r.g, s.h + r.h⟩
def comp (s : S8) (b : List UInt8) : S8 := add8 s (rnds (wv b) s 64)
def init8 : S8 := ⟨0x6a09e667#32, 0xbb67ae85#32, 0x3c6ef372#32, 0xa54ff53a#32, 0x510e527f#32, 0x9b05688c#32, 0x1f83d9ab#32, 0x5be0cd19#32⟩
def words (s : S8) : List U32 := [s.a, s.b, s.c, s.d, s.e, s.f, s.g, s.h]

def blk (l : List UInt8) (n : Nat) : List UInt8 := (l.drop (64 * n)).take 64
/-- The state after n blocks of a text. -/
def comps (s : S8) (l : List UInt8) : Nat → S8
  | 0 => s
  | n + 1 => comp (comps s l n) (blk l n)

/-- The eight bytes that say how many bits there are. -/
def bits8 (n : Nat) : List UInt8 := (List.range 8).map fun i => UInt8.ofNat (8 * n % 18446744073709551616 / 2 ^ (8 * (7 - i)))
def zeros (n : Nat) : List UInt8 := List.replicate ((119 - n % 64) % 64) 0
def padd (l : List UInt8) : List UInt8 := l ++ (0x80 :: (zeros l.length ++ bits8 l.length))
theorem bits8_len (n : Nat) : (bits8 n).length = 8 := by simp [bits8]
theorem padd_len (l : List UInt8) : (padd l).length = 64 * ((l.length + 8) / 64 + 1) := by
  simp [padd, bits8_len, zeros]; omega

/-- The bytes of a state. -/
def out8 (s : S8) : List UInt8 := (List.range 32).map fun i => UInt8.ofNat (((words s).getD (i / 4) 0).toNat / 2 ^ (24 - 8 * (i % 4)))
def fin8 (l : List UInt8) : S8 := comps init8 (padd l) ((l.length + 8) / 64 + 1)
/-- The hash. -/
def sha (l : List UInt8) : List UInt8 := out8 (fin8 l)
theorem sha_len (l : List UInt8) : (sha l).length = 32 := by simp [sha, out8]

theorem sha_abc : (sha [97, 98, 99]).take 4 = [0xba, 0x78, 0x16, 0xbf] := by decide +kernel
theorem sha_nil : (sha []).take 4 = [0xe3, 0xb0, 0xc4, 0x42] := by decide +kernel

/-- What ends the padded bytes: rest is what is left after the last whole block, n the length of the whole. -/
def tail8 (rest : List UInt8) (n : Nat) : List UInt8 := rest ++ (0x80 :: (zeros rest.length ++ bits8 n))
theorem padd_split (l : List UInt8) : padd l = l.take (l.length - l.length % 64) ++ tail8 (l.drop (l.length - l.length % 64)) l.length := by
  unfold padd tail8
  have e : zeros (l.drop (l.length - l.length % 64)).length = zeros l.length := by
    unfold zeros
    rw [List.length_drop]
    congr 2
    omega
  rw [e, ← List.append_assoc, List.take_append_drop]

theorem comps_congr (s : S8) (l m : List UInt8) (n : Nat) (h : ∀ i, i < n → blk l i = blk m i) : comps s l n = comps s m n := by
  induction n with
  | zero => rfl
  | succ n ih => simp only [comps]; rw [ih fun i hi => h i (by omega), h n (by omega)]
theorem blk_left (l r : List UInt8) (i n : Nat) (hl : l.length = 64 * n) (hi : i < n) : blk (l ++ r) i = blk l i := by
  unfold blk
  rw [List.drop_append_of_le_length (by omega), List.take_append_of_le_length (by rw [List.length_drop]; omega)]
theorem blk_right (l r : List UInt8) (i n : Nat) (hl : l.length = 64 * n) : blk (l ++ r) (n + i) = blk r i := by
  unfold blk
  rw [show 64 * (n + i) = l.length + 64 * i by omega, List.drop_append, List.drop_of_length_le (by omega), List.nil_append, show l.length + 64 * i - l.length = 64 * i by omega]
theorem comps_append (s : S8) (l r : List UInt8) (n m : Nat) (hl : l.length = 64 * n) : comps s (l ++ r) (n + m) = comps (comps s l n) r m := by
  induction m with
  | zero => exact comps_congr s _ _ n fun i hi => blk_left l r i n hl hi
  | succ m ih =>
    rw [show n + (m + 1) = (n + m) + 1 from rfl]
    simp only [comps]
    rw [ih, blk_right l r m n hl]

/-- The hash, whole blocks first. -/
theorem sha_split (l : List UInt8) : fin8 l = comps (comps init8 (l.take (l.length - l.length % 64)) (l.length / 64)) (tail8 (l.drop (l.length - l.length % 64)) l.length) ((l.length % 64 + 8) / 64 + 1) := by
  unfold fin8
  rw [padd_split, show (l.length + 8) / 64 + 1 = l.length / 64 + ((l.length % 64 + 8) / 64 + 1) by omega]
  exact comps_append _ _ _ _ _ (by rw [List.length_take]; omega)
theorem rnds_zero (w : Nat → U32) (s : S8) : rnds w s 0 = s := rfl
theorem rnds_succ (w : Nat → U32) (s : S8) (n : Nat) : rnds w s (n + 1) = rnd (kw n) (w n) (rnds w s n) := rfl
theorem comps_zero (s : S8) (l : List UInt8) : comps s l 0 = s := rfl
theorem comps_succ (s : S8) (l : List UInt8) (n : Nat) : comps s l (n + 1) = comp (comps s l n) (blk l n) := rfl
theorem comp_eq (s : S8) (b : List UInt8) : comp s b = add8 s (rnds (wv b) s 64) := rfl
theorem sha_fin (l : List UInt8) : sha l = out8 (fin8 l) := rfl
attribute [irreducible] ror kw push wd nextw sched wv rnd rnds add8 comp comps padd out8 fin8 sha tail8 blk bits8 zeros
end Go.Proofs.YtalgceplcahgbaaDoor
