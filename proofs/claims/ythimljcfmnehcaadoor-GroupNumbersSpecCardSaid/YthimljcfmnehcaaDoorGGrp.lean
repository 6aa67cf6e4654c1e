/- Numbers modulo two primes; the symbol of Jacobi, and why it tells the squares; elements and powers. Nothing here speaks of a program. -/
import Derived.ProofKit
namespace Go.Proofs.YthimljcfmnehcaaDoor.Gp
/-! ## sums -/

/-- the sum of the first values -/
def sm (f : Nat → Int) : Nat → Int
  | 0 => 0
  | n + 1 => sm f n + f n

theorem sm_cong {f g : Nat → Int} : ∀ n : Nat, (∀ i, i < n → f i = g i) → sm f n = sm g n
  | 0, _ => rfl
  | n + 1, h => by
    simp only [sm]
    rw [sm_cong n (fun i hi => h i (by omega)), h n (by omega)]
theorem sm_add (f g : Nat → Int) : ∀ n : Nat, sm (fun i => f i + g i) n = sm f n + sm g n
  | 0 => rfl
  | n + 1 => by
    simp only [sm]
    rw [sm_add f g n]
    omega
theorem sm_sub (f g : Nat → Int) : ∀ n : Nat, sm (fun i => f i - g i) n = sm f n - sm g n
  | 0 => rfl
  | n + 1 => by
    simp only [sm]
    rw [sm_sub f g n]
    omega
theorem sm_mul (c : Int) (f : Nat → Int) : ∀ n : Nat, sm (fun i => c * f i) n = c * sm f n
  | 0 => by simp [sm]
  | n + 1 => by
    simp only [sm]
    rw [sm_mul c f n, Int.mul_add]
theorem sm_const (c : Int) : ∀ n : Nat, sm (fun _ => c) n = n * c
  | 0 => by simp [sm]
  | n + 1 => by
    simp only [sm]
    rw [sm_const c n]
    grind
theorem sm_zero (n : Nat) : sm (fun _ => 0) n = 0 := by rw [sm_const]; simp
theorem sm_swap (f : Nat → Nat → Int) (m : Nat) : ∀ n : Nat, sm (fun i => sm (fun j => f i j) m) n = sm (fun j => sm (fun i => f i j) n) m
  | 0 => by simp only [sm]; rw [sm_zero]
  | n + 1 => by
    simp only [sm]
    rw [sm_swap f m n, ← sm_add]
theorem sm_one (f : Nat → Int) (t : Nat) : ∀ n : Nat, sm (fun j => if t = j then f j else 0) n = if t < n then f t else 0
  | 0 => by simp [sm]
  | n + 1 => by
    simp only [sm]
    rw [sm_one f t n]
    by_cases h : t < n
    · rw [if_pos h, if_neg (by omega), if_pos (by omega), Int.add_zero]
    · by_cases h2 : t = n
      · subst h2
        rw [if_neg h, if_pos rfl, if_pos (by omega), Int.zero_add]
      · rw [if_neg h, if_neg h2, if_neg (by omega)]
        rfl
theorem sm_below (q : Nat) : ∀ n : Nat, sm (fun j => if j < q then 1 else 0) n = min q n
  | 0 => by simp [sm]
  | n + 1 => by
    simp only [sm]
    rw [sm_below q n]
    by_cases h : n < q
    · rw [if_pos h]; omega
    · rw [if_neg h]; omega
theorem sm_above (q : Nat) : ∀ n : Nat, sm (fun j => if q ≤ j then 1 else 0) n = (n - q : Nat)
  | 0 => by simp [sm]
  | n + 1 => by
    simp only [sm]
    rw [sm_above q n]
    by_cases h : q ≤ n
    · rw [if_pos h]; omega
    · rw [if_neg h]; omega
theorem sm_le {f g : Nat → Int} : ∀ n : Nat, (∀ i, i < n → f i ≤ g i) → sm f n ≤ sm g n
  | 0, _ => Int.le_refl _
  | n + 1, h => by
    have h1 := sm_le n (fun i hi => h i (by omega))
    have h2 := h n (by omega)
    simp only [sm]
    omega
theorem sm_eq_of_le {f g : Nat → Int} : ∀ n : Nat, (∀ i, i < n → f i ≤ g i) → sm f n = sm g n → ∀ i, i < n → f i = g i
  | n + 1, h, he, i, hi => by
    have h1 := sm_le n (fun i hi => h i (by omega))
    have h2 := h n (by omega)
    simp only [sm] at he
    by_cases h3 : i = n
    · subst h3; omega
    · exact sm_eq_of_le n (fun i hi => h i (by omega)) (by omega) i (by omega)
theorem sm_par {f g : Nat → Int} : ∀ n : Nat, (∀ i, i < n → (f i - g i) % 2 = 0) → (sm f n - sm g n) % 2 = 0
  | 0, _ => rfl
  | n + 1, h => by
    have h1 := sm_par n (fun i hi => h i (by omega))
    have h2 := h n (by omega)
    simp only [sm]
    omega

theorem cnt_le (t : Nat → Nat) (j : Nat) : ∀ n : Nat, (∀ i k, i < n → k < n → t i = t k → i = k) → sm (fun k => if t k = j then 1 else 0) n ≤ 1 ∧ ((∀ k, k < n → t k ≠ j) → sm (fun k => if t k = j then 1 else 0) n = 0)
  | 0, _ => ⟨by simp [sm], fun _ => rfl⟩
  | n + 1, h => by
    obtain ⟨h1, h2⟩ := cnt_le t j n (fun i k hi hk => h i k (by omega) (by omega))
    simp only [sm]
    refine ⟨?_, fun h3 => ?_⟩
    · by_cases h4 : t n = j
      · rw [h2 (fun k hk e => by have := h k n (by omega) (by omega) (by omega); omega), if_pos h4]
        omega
      · rw [if_neg h4]; omega
    · rw [h2 (fun k hk => h3 k (by omega)), if_neg (h3 n (by omega))]
      rfl

/-- a sum over all places in another order -/
theorem sm_perm (t : Nat → Nat) (h : Nat) (ht : ∀ k, k < h → t k < h) (hi : ∀ i k, i < h → k < h → t i = t k → i = k) (f : Nat → Int) : sm (fun k => f (t k)) h = sm f h := by
  have key : ∀ f : Nat → Int, sm (fun k => f (t k)) h = sm (fun j => f j * sm (fun k => if t k = j then 1 else 0) h) h := by
    intro f
    have e1 : sm (fun k => f (t k)) h = sm (fun k => sm (fun j => if t k = j then f j else 0) h) h := by
      refine sm_cong h fun k hk => ?_
      rw [sm_one f (t k) h, if_pos (ht k hk)]
    rw [e1, sm_swap]
    refine sm_cong h fun j _ => ?_
    rw [← sm_mul]
    refine sm_cong h fun k _ => ?_
    by_cases e : t k = j
    · rw [if_pos e, if_pos e, Int.mul_one]
    · rw [if_neg e, if_neg e, Int.mul_zero]
  have h1 := key (fun _ => 1)
  have h2 : ∀ j, j < h → sm (fun k => if t k = j then (1 : Int) else 0) h = 1 := by
    refine sm_eq_of_le h (fun j _ => (cnt_le t j h hi).1) ?_
    rw [h1]
    refine sm_cong h fun j _ => ?_
    rw [Int.one_mul]
  rw [key f]
  refine sm_cong h fun j hj => ?_
  rw [h2 j hj, Int.mul_one]

/-! ## the symbol of Jacobi, by Gauss's count -/

/-- the rest of a (k + 1) -/
def rr (n a k : Nat) : Nat := (a * (k + 1)) % n
/-- whether the rest lies in the upper half -/
def ee (n a k : Nat) : Int := if n < 2 * rr n a k then 1 else 0
/-- the place of what it is the rest of, up to its sign -/
def tt (n a k : Nat) : Nat := (if n < 2 * rr n a k then n - rr n a k else rr n a k) - 1
/-- how many rests lie in the upper half -/
def gg (n a : Nat) : Int := sm (ee n a) (n / 2)

theorem gg_mod (n a : Nat) : gg n (a % n) = gg n a := by
  unfold gg
  refine sm_cong _ fun k _ => ?_
  unfold ee rr
  rw [Nat.mod_mul_mod]

theorem rr_pos {n a k : Nat} (hn : n % 2 = 1) (hc : Nat.Coprime a n) (hk : k < n / 2) : 0 < rr n a k ∧ rr n a k < n := by
  refine ⟨?_, Nat.mod_lt _ (by omega)⟩
  rcases Nat.eq_zero_or_pos (rr n a k) with h | h
  · exfalso
    have h1 : n ∣ a * (k + 1) := Nat.dvd_of_mod_eq_zero h
    have h2 := (Nat.Coprime.dvd_of_dvd_mul_left hc.symm h1)
    have := Nat.le_of_dvd (by omega) h2
    omega
  · exact h

theorem tt_lt {n a k : Nat} (hn : n % 2 = 1) (hc : Nat.Coprime a n) (hk : k < n / 2) : tt n a k < n / 2 := by
  have := rr_pos hn hc hk
  unfold tt
  split <;> omega

theorem rr_tt {n a k : Nat} (hn : n % 2 = 1) (hc : Nat.Coprime a n) (hk : k < n / 2) :
    (ee n a k = 0 ∧ rr n a k = tt n a k + 1 ∧ ¬ n < 2 * rr n a k) ∨ (ee n a k = 1 ∧ rr n a k + (tt n a k + 1) = n ∧ n < 2 * rr n a k) := by
  have := rr_pos hn hc hk
  unfold tt ee
  by_cases h : n < 2 * rr n a k
  · right
    rw [if_pos h, if_pos h]
    exact ⟨rfl, by omega, h⟩
  · left
    rw [if_neg h, if_neg h]
    exact ⟨rfl, by omega, h⟩

theorem tt_inj {n a : Nat} (hn : n % 2 = 1) (hc : Nat.Coprime a n) (i k : Nat) (hi : i < n / 2) (hk : k < n / 2) (h : tt n a i = tt n a k) : i = k := by
  have dv : ∀ x : Nat, n ∣ a * x → x < n → x = 0 := by
    intro x hx hl
    rcases Nat.eq_zero_or_pos x with h0 | h0
    · exact h0
    · have := Nat.le_of_dvd h0 (Nat.Coprime.dvd_of_dvd_mul_left hc.symm hx)
      omega
  have same : rr n a i = rr n a k → i = k := by
    intro e
    rcases Nat.lt_trichotomy i k with h1 | h1 | h1
    · have := dv (k + 1 - (i + 1)) (by
        rw [Nat.mul_sub]
        exact Nat.dvd_of_mod_eq_zero (Nat.sub_mod_eq_zero_of_mod_eq e.symm)) (by omega)
      omega
    · exact h1
    · have := dv (i + 1 - (k + 1)) (by
        rw [Nat.mul_sub]
        exact Nat.dvd_of_mod_eq_zero (Nat.sub_mod_eq_zero_of_mod_eq e)) (by omega)
      omega
  have other : rr n a i + rr n a k = n → False := by
    intro e
    have := dv (i + 1 + (k + 1)) (by
      rw [Nat.mul_add]
      refine Nat.dvd_of_mod_eq_zero ?_
      rw [Nat.add_mod]
      show (rr n a i + rr n a k) % n = 0
      rw [e, Nat.mod_self]) (by omega)
    omega
  rcases rr_tt hn hc hi with h1 | h1 <;> rcases rr_tt hn hc hk with h2 | h2
  · exact same (by omega)
  · exact (other (by omega)).elim
  · exact (other (by omega)).elim
  · exact same (by omega)

/-- a product has the symbols' product -/
theorem gg_mul {n a b : Nat} (hn : n % 2 = 1) (ha : Nat.Coprime a n) (hb : Nat.Coprime b n) : (gg n (a * b) - (gg n a + gg n b)) % 2 = 0 := by
  have e : gg n a = sm (fun k => ee n a (tt n b k)) (n / 2) :=
    (sm_perm (tt n b) (n / 2) (fun k hk => tt_lt hn hb hk) (tt_inj hn hb) (ee n a)).symm
  rw [e]
  unfold gg
  rw [← sm_add]
  refine sm_par _ fun k hk => ?_
  have hab : Nat.Coprime (a * b) n := Nat.Coprime.mul_left ha hb
  have hT := tt_lt hn hb hk
  have hr := rr_pos hn ha hT
  have e1 : rr n (a * b) k = (a * rr n b k) % n := by
    unfold rr
    rw [Nat.mul_assoc, Nat.mul_mod_mod]
  rcases rr_tt hn hb hk with h1 | h1
  · have e2 : rr n (a * b) k = rr n a (tt n b k) := by rw [e1, h1.2.1]; rfl
    unfold ee at *
    rw [e2, h1.1]
    omega
  · have e2 : rr n (a * b) k + rr n a (tt n b k) = n := by
      have hp := rr_pos hn hab hk
      have e3 : (rr n (a * b) k + rr n a (tt n b k)) % n = 0 := by
        rw [e1]
        show (a * rr n b k % n + a * (tt n b k + 1) % n) % n = 0
        rw [← Nat.add_mod, ← Nat.mul_add, h1.2.1, Nat.mul_mod_left]
      have := Nat.dvd_of_mod_eq_zero e3
      obtain ⟨c, hc⟩ := this
      have hc2 : c < 2 := by
        rcases Nat.lt_or_ge c 2 with h | h
        · exact h
        · have := Nat.mul_le_mul_left n h
          omega
      have : c ≠ 0 := by rintro rfl; omega
      have : c = 1 := by omega
      subst this
      omega
    rw [h1.1]
    unfold ee
    by_cases h3 : n < 2 * rr n a (tt n b k)
    · rw [if_pos h3, if_neg (by omega)]; omega
    · rw [if_neg h3, if_pos (by omega)]; omega

theorem gg_one (n : Nat) : gg n 1 = 0 := by
  unfold gg
  rw [sm_cong (g := fun _ => 0) _ fun k hk => ?_, sm_zero]
  unfold ee rr
  rw [Nat.one_mul, Nat.mod_eq_of_lt (by omega), if_neg (by omega)]

theorem gg_two {n : Nat} (hn : n % 2 = 1) : gg n 2 % 2 = if n % 8 = 3 ∨ n % 8 = 5 then 1 else 0 := by
  have e : gg n 2 = (n / 2 - n / 4 : Nat) := by
    unfold gg
    rw [← sm_above (n / 4) (n / 2)]
    refine sm_cong _ fun k hk => ?_
    unfold ee rr
    rw [Nat.mod_eq_of_lt (by omega)]
    by_cases h : n / 4 ≤ k
    · rw [if_pos h, if_pos (by omega)]
    · rw [if_neg h, if_neg (by omega)]
  rw [e]
  split <;> omega

/-- the quotient of m (k + 1) -/
def qq (n m k : Nat) : Int := ((m * (k + 1) / n : Nat) : Int)

theorem gg_sum {n m : Nat} (hn : n % 2 = 1) (hm : m % 2 = 1) (hc : Nat.Coprime m n) : (gg n m - sm (qq n m) (n / 2)) % 2 = 0 := by
  have e : sm (fun k => ((k : Nat) : Int) - (tt n m k : Nat)) (n / 2) = 0 := by
    rw [sm_sub, sm_perm (tt n m) (n / 2) (fun k hk => tt_lt hn hc hk) (tt_inj hn hc) (fun k => (k : Int))]
    exact Int.sub_self _
  have e2 : sm (qq n m) (n / 2) = sm (fun k => qq n m k + (((k : Nat) : Int) - (tt n m k : Nat))) (n / 2) := by
    rw [sm_add, e, Int.add_zero]
  rw [e2]
  refine sm_par _ fun k hk => ?_
  have hd : n * (m * (k + 1) / n) + rr n m k = m * (k + 1) := Nat.div_add_mod _ _
  unfold qq
  generalize m * (k + 1) / n = q at hd ⊢
  obtain ⟨n', hn'⟩ : ∃ n', n = 2 * n' + 1 := ⟨n / 2, by omega⟩
  obtain ⟨m', hm'⟩ : ∃ m', m = 2 * m' + 1 := ⟨m / 2, by omega⟩
  have h1 : n * q = 2 * (n' * q) + q := by rw [hn', Nat.add_mul, Nat.mul_assoc, Nat.one_mul]
  have h2 : m * (k + 1) = 2 * (m' * (k + 1)) + (k + 1) := by rw [hm', Nat.add_mul, Nat.mul_assoc, Nat.one_mul]
  rw [h1, h2] at hd
  generalize n' * q = u at hd
  generalize m' * (k + 1) = v at hd
  rcases rr_tt hn hc hk with h | h <;> omega

/-- the law of reciprocity -/
theorem gg_rec {n m : Nat} (hn : n % 2 = 1) (hm : m % 2 = 1) (hc : Nat.Coprime m n) : (gg n m + gg m n - (if n % 4 = 3 ∧ m % 4 = 3 then 1 else 0)) % 2 = 0 := by
  have h1 := gg_sum hn hm hc
  have h2 := gg_sum hm hn hc.symm
  have key : sm (qq n m) (n / 2) + sm (qq m n) (m / 2) = ((n / 2 * (m / 2) : Nat) : Int) := by
    have half : ∀ n m : Nat, n % 2 = 1 → m % 2 = 1 → Nat.Coprime m n → sm (qq n m) (n / 2) = sm (fun k => sm (fun j => if n * (j + 1) < m * (k + 1) then 1 else 0) (m / 2)) (n / 2) := by
      intro n m hn hm hc
      refine sm_cong _ fun k hk => ?_
      have e1 : ∀ j, j < m / 2 → (if n * (j + 1) < m * (k + 1) then (1 : Int) else 0) = if j < m * (k + 1) / n then 1 else 0 := by
        intro j hj
        have : n * (j + 1) < m * (k + 1) ↔ j < m * (k + 1) / n := by
          rw [Nat.lt_iff_add_one_le, Nat.lt_iff_add_one_le, Nat.le_div_iff_mul_le (by omega), Nat.mul_comm (j + 1) n, ← Nat.lt_iff_add_one_le]
          refine ⟨Nat.le_of_lt, fun h => ?_⟩
          rcases Nat.lt_or_ge (n * (j + 1)) (m * (k + 1)) with h3 | h3
          · exact h3
          · exfalso
            have e : n * (j + 1) = m * (k + 1) := by omega
            have := Nat.le_of_dvd (by omega) (Nat.Coprime.dvd_of_dvd_mul_left hc.symm ⟨_, e.symm⟩)
            omega
        by_cases h : n * (j + 1) < m * (k + 1)
        · rw [if_pos h, if_pos (this.1 h)]
        · rw [if_neg h, if_neg (fun h3 => h (this.2 h3))]
      rw [sm_cong _ e1, sm_below]
      unfold qq
      have : m * (k + 1) / n ≤ m / 2 := by
        have h4 : m * (k + 1) < n * (m / 2 + 1) := by
          obtain ⟨n', hn'⟩ : ∃ n', n = 2 * n' + 1 := ⟨n / 2, by omega⟩
          obtain ⟨m', hm'⟩ : ∃ m', m = 2 * m' + 1 := ⟨m / 2, by omega⟩
          have h5 : m * (k + 1) ≤ m * n' := Nat.mul_le_mul_left _ (by omega)
          have h6 : m / 2 = m' := by omega
          have h7 : m * n' = 2 * (n' * m') + n' := by rw [hm', Nat.add_mul, Nat.mul_assoc, Nat.one_mul, Nat.mul_comm m' n']
          have h8 : n * (m' + 1) = 2 * (n' * m') + 2 * n' + (m' + 1) := by rw [hn', Nat.add_mul, Nat.one_mul, Nat.mul_assoc, Nat.mul_add]; omega
          rw [h6, h8]
          omega
        have := Nat.div_lt_of_lt_mul h4
        omega
      omega
    rw [half n m hn hm hc, half m n hm hn hc.symm, sm_swap, ← sm_add]
    have e1 : ∀ j, j < m / 2 → sm (fun i => if n * (j + 1) < m * (i + 1) then (1 : Int) else 0) (n / 2) + sm (fun i => if m * (i + 1) < n * (j + 1) then 1 else 0) (n / 2) = ((n / 2 : Nat) : Int) := by
      intro j hj
      rw [← sm_add]
      rw [sm_cong (g := fun _ => 1) _ fun i hi => ?_, sm_const]
      · omega
      · rcases Nat.lt_trichotomy (n * (j + 1)) (m * (i + 1)) with h | h | h
        · rw [if_pos h, if_neg (by omega)]; rfl
        · exfalso
          have := Nat.le_of_dvd (by omega) (Nat.Coprime.dvd_of_dvd_mul_left hc.symm ⟨_, h.symm⟩)
          omega
        · rw [if_neg (by omega), if_pos h]; rfl
    rw [sm_cong _ e1, sm_const, ← Int.natCast_mul, Nat.mul_comm]
  have hp : ((n / 2 * (m / 2) : Nat) : Int) % 2 = if n % 4 = 3 ∧ m % 4 = 3 then 1 else 0 := by
    have : (n / 2 * (m / 2)) % 2 = (n / 2 % 2) * (m / 2 % 2) % 2 := Nat.mul_mod ..
    have e1 : n / 2 % 2 = if n % 4 = 3 then 1 else 0 := by split <;> omega
    have e2 : m / 2 % 2 = if m % 4 = 3 then 1 else 0 := by split <;> omega
    rw [e1, e2] at this
    by_cases h3 : n % 4 = 3 <;> by_cases h4 : m % 4 = 3
    · rw [if_pos h3, if_pos h4] at this
      rw [if_pos ⟨h3, h4⟩]; omega
    · rw [if_pos h3, if_neg h4] at this
      rw [if_neg (fun h => h4 h.2)]; omega
    · rw [if_neg h3, if_pos h4] at this
      rw [if_neg (fun h => h3 h.1)]; omega
    · rw [if_neg h3, if_neg h4] at this
      rw [if_neg (fun h => h3 h.1)]; omega
  by_cases h : n % 4 = 3 ∧ m % 4 = 3
  · rw [if_pos h] at hp ⊢; omega
  · rw [if_neg h] at hp ⊢; omega
/-! ## the prime -/

/-- none of 2^k numbers from lo on divides n -/
def noDiv (n : Nat) : Nat → Nat → Bool
  | 0, lo => n % lo != 0
  | k + 1, lo => noDiv n k lo && noDiv n k (lo + 2 ^ k)

theorem noDiv_get (n : Nat) : ∀ (k lo d : Nat), noDiv n k lo = true → lo ≤ d → d < lo + 2 ^ k → ¬ d ∣ n
  | 0, lo, d, h, h1, h2 => by
    have : d = lo := by simp at h2; omega
    subst this
    intro hd
    have := Nat.mod_eq_zero_of_dvd hd
    simp [noDiv, this] at h
  | k + 1, lo, d, h, h1, h2 => by
    simp only [noDiv, Bool.and_eq_true] at h
    rcases Nat.lt_or_ge d (lo + 2 ^ k) with h3 | h3
    · exact noDiv_get n k lo d h.1 h1 h3
    · refine noDiv_get n k (lo + 2 ^ k) d h.2 h3 ?_
      rw [Nat.pow_succ] at h2
      omega

/-- a number above 1 that nothing between divides -/
def Prm (p : Nat) : Prop := 1 < p ∧ ∀ d, d ∣ p → d = 1 ∨ d = p

theorem prm_of (p s : Nat) (hp : 1 < p) (hs : p < (s + 1) * (s + 1)) (h : ∀ d, 2 ≤ d → d ≤ s → ¬ d ∣ p) : Prm p := by
  refine ⟨hp, fun d hd => ?_⟩
  obtain ⟨e, he⟩ := hd
  rcases Nat.lt_or_ge s d with h1 | h1
  · rcases Nat.lt_or_ge s e with h2 | h2
    · exfalso
      have := Nat.mul_le_mul (show s + 1 ≤ d from h1) (show s + 1 ≤ e from h2)
      omega
    · right
      rcases Nat.lt_or_ge e 2 with h3 | h3
      · have : e = 1 := by
          rcases Nat.eq_zero_or_pos e with h4 | h4
          · subst h4; simp at he; omega
          · omega
        subst this
        omega
      · exact absurd ⟨d, by rw [Nat.mul_comm]; exact he⟩ (h e h3 h2)
  · left
    rcases Nat.lt_or_ge d 2 with h3 | h3
    · rcases Nat.eq_zero_or_pos d with h4 | h4
      · subst h4; simp at he; omega
      · omega
    · exact absurd ⟨e, he⟩ (h d h3 h1)

theorem Prm.euclid {p : Nat} (hp : Prm p) {a b : Nat} (h : p ∣ a * b) : p ∣ a ∨ p ∣ b := by
  rcases hp.2 (Nat.gcd p a) (Nat.gcd_dvd_left p a) with h1 | h1
  · exact .inr (Nat.Coprime.dvd_of_dvd_mul_left h1 h)
  · exact .inl (h1 ▸ Nat.gcd_dvd_right p a)

/-! ## what Fermat saw -/

/-- how many ways to take k of n -/
def tk : Nat → Nat → Nat
  | _, 0 => 1
  | 0, _ + 1 => 0
  | n + 1, k + 1 => tk n k + tk n (k + 1)

theorem tk_zero (n : Nat) : tk n 0 = 1 := by cases n <;> rfl

theorem tk_big : ∀ n k : Nat, n < k → tk n k = 0
  | 0, k + 1, _ => rfl
  | n + 1, k + 1, h => by
    show tk n k + tk n (k + 1) = 0
    rw [tk_big n k (by omega), tk_big n (k + 1) (by omega)]

theorem tk_self : ∀ n : Nat, tk n n = 1
  | 0 => rfl
  | n + 1 => by
    show tk n n + tk n (n + 1) = 1
    rw [tk_self n, tk_big n (n + 1) (by omega)]

theorem tk_absorb : ∀ n k : Nat, (k + 1) * tk (n + 1) (k + 1) = (n + 1) * tk n k
  | 0, 0 => rfl
  | 0, k + 1 => by
    show (k + 1 + 1) * (tk 0 (k + 1) + tk 0 (k + 1 + 1)) = (0 + 1) * tk 0 (k + 1)
    simp [tk]
  | n + 1, 0 => by
    have h := tk_absorb n 0
    show (0 + 1) * (tk (n + 1) 0 + tk (n + 1) (0 + 1)) = (n + 1 + 1) * tk (n + 1) 0
    rw [tk_zero] at *
    omega
  | n + 1, k + 1 => by
    have h1 := tk_absorb n k
    have h2 := tk_absorb n (k + 1)
    show (k + 1 + 1) * (tk (n + 1) (k + 1) + tk (n + 1) (k + 1 + 1)) = (n + 1 + 1) * (tk n k + tk n (k + 1))
    have h3 : tk (n + 1) (k + 1) = tk n k + tk n (k + 1) := rfl
    rw [Nat.mul_add, h2, Nat.succ_mul (k + 1), h1, h3]
    grind

/-- the sum of the first k powers of a, each as often as they can be taken of n -/
def tsum (a n : Nat) : Nat → Nat
  | 0 => 0
  | k + 1 => tsum a n k + tk n k * a ^ k

theorem tsum_step (a n : Nat) : ∀ k : Nat, tsum a (n + 1) (k + 1) = tsum a n (k + 1) + a * tsum a n k
  | 0 => by simp [tsum, tk_zero]
  | k + 1 => by
    have h := tsum_step a n k
    show tsum a (n + 1) (k + 1) + (tk n k + tk n (k + 1)) * a ^ (k + 1) = tsum a n (k + 1) + tk n (k + 1) * a ^ (k + 1) + a * (tsum a n k + tk n k * a ^ k)
    rw [h]
    grind

theorem binomial (a : Nat) : ∀ n : Nat, (a + 1) ^ n = tsum a n (n + 1)
  | 0 => by simp [tsum, tk_zero]
  | n + 1 => by
    have h := binomial a n
    rw [tsum_step, Nat.pow_succ, h]
    have : tsum a n (n + 1 + 1) = tsum a n (n + 1) + tk n (n + 1) * a ^ (n + 1) := rfl
    rw [this, tk_big n (n + 1) (by omega)]
    grind

theorem Prm.tk {p : Nat} (hp : Prm p) (k : Nat) (h0 : 0 < k) (hk : k < p) : p ∣ tk p k := by
  obtain ⟨j, rfl⟩ : ∃ j, k = j + 1 := ⟨k - 1, by omega⟩
  obtain ⟨m, hm⟩ : ∃ m, p = m + 1 := ⟨p - 1, by omega⟩
  have h := tk_absorb m j
  rw [← hm] at h
  rcases hp.euclid (a := j + 1) (b := Gp.tk p (j + 1)) ⟨_, h⟩ with h1 | h1
  · have := Nat.le_of_dvd (by omega) h1
    omega
  · exact h1

theorem Prm.tsum {p : Nat} (hp : Prm p) (a : Nat) : ∀ k : Nat, k < p → ∃ m, tsum a p (k + 1) = 1 + p * m
  | 0, _ => ⟨0, by simp [Gp.tsum, tk_zero]⟩
  | k + 1, h => by
    obtain ⟨m, hm⟩ := hp.tsum a k (by omega)
    obtain ⟨j, hj⟩ := hp.tk (k + 1) (by omega) h
    refine ⟨m + j * a ^ (k + 1), ?_⟩
    show Gp.tsum a p (k + 1) + Gp.tk p (k + 1) * a ^ (k + 1) = _
    rw [hm, hj]
    grind

theorem Prm.fermat {p : Nat} (hp : Prm p) : ∀ a : Nat, ∃ m, a ^ p = a + p * m
  | 0 => ⟨0, by have := hp.1; rw [Nat.zero_pow (by omega), Nat.mul_zero]⟩
  | a + 1 => by
    obtain ⟨m, hm⟩ := hp.fermat a
    have h1 := hp.1
    obtain ⟨j, hj⟩ := hp.tsum a (p - 1) (by omega)
    rw [show p - 1 + 1 = p from by omega] at hj
    refine ⟨j + m, ?_⟩
    rw [binomial]
    show Gp.tsum a p p + Gp.tk p p * a ^ p = _
    rw [hj, tk_self, hm]
    grind

theorem fermat_any {p : Nat} (hp : Prm p) (a : Nat) (q : Nat) (h : p = q + 2) (h0 : ¬ p ∣ a) : ∃ m : Nat, a * a ^ q = 1 + p * m := by
  obtain ⟨m, hm⟩ := hp.fermat a
  have h1 : a * a ^ (q + 1) = a + p * m := by rw [← hm, h, Nat.pow_succ a (q + 1), Nat.mul_comm]
  have hapos : 0 < a := Nat.pos_of_ne_zero fun e => h0 (e ▸ Nat.dvd_zero p)
  have h2 : 1 ≤ a ^ (q + 1) := Nat.one_le_iff_ne_zero.2 (by
    intro e
    rw [e] at h1
    omega)
  have h3 : a * (a ^ (q + 1) - 1) = p * m := by
    rw [Nat.mul_sub, h1]
    omega
  rcases hp.euclid (a := a) (b := a ^ (q + 1) - 1) ⟨m, h3⟩ with h4 | h4
  · exact absurd h4 h0
  · obtain ⟨j, hj⟩ := h4
    refine ⟨j, ?_⟩
    have h5 : a * a ^ q = a ^ (q + 1) := by rw [Nat.mul_comm a, ← Nat.pow_succ]
    omega

theorem cast_power (a e m p : Nat) (h : a * a ^ e = 1 + p * m) : (a : Int) * (a : Int) ^ e = 1 + (p : Int) * (m : Int) := by
  exact_mod_cast h


/-! ## the numbers modulo the order -/
/-- the number of the field for which n stands -/
def md (n : Int) : Int := n % 1073741789

theorem md_lo (n : Int) : 0 ≤ md n := by unfold md; omega
theorem md_hi (n : Int) : md n < 1073741789 := by unfold md; omega
theorem md_md (n : Int) : md (md n) = md n := by unfold md; omega
theorem md_id {n : Int} (h0 : 0 ≤ n) (h1 : n < 1073741789) : md n = n := by unfold md; omega
theorem md_addl (a b : Int) : md (md a + b) = md (a + b) := by unfold md; omega
theorem md_addr (a b : Int) : md (a + md b) = md (a + b) := by unfold md; omega
theorem md_subl (a b : Int) : md (md a - b) = md (a - b) := by unfold md; omega
theorem md_subr (a b : Int) : md (a - md b) = md (a - b) := by unfold md; omega
theorem md_neg (a : Int) : md (-md a) = md (-a) := by unfold md; omega
theorem md_mull (a b : Int) : md (md a * b) = md (a * b) := by unfold md; rw [Int.mul_emod, Int.emod_emod, ← Int.mul_emod]
theorem md_mulr (a b : Int) : md (a * md b) = md (a * b) := by unfold md; rw [Int.mul_emod, Int.emod_emod, ← Int.mul_emod]
theorem md_zero {n : Int} : md n = 0 ↔ (1073741789 : Int) ∣ n := by unfold md; omega
theorem md_eq {a b : Int} : md a = md b ↔ md (a - b) = 0 := by unfold md; omega
theorem md_add {a b c d : Int} (h1 : md a = md c) (h2 : md b = md d) : md (a + b) = md (c + d) := by
  rw [← md_addl, ← md_addr, h1, h2, md_addl, md_addr]
theorem md_sub {a b c d : Int} (h1 : md a = md c) (h2 : md b = md d) : md (a - b) = md (c - d) := by
  rw [← md_subl, ← md_subr, h1, h2, md_subl, md_subr]
theorem md_mul {a b c d : Int} (h1 : md a = md c) (h2 : md b = md d) : md (a * b) = md (c * d) := by
  rw [← md_mull, ← md_mulr, h1, h2, md_mull, md_mulr]
theorem md_pow {a c : Int} (h : md a = md c) : ∀ n : Nat, md (a ^ n) = md (c ^ n)
  | 0 => by rw [Int.pow_zero, Int.pow_zero]
  | n + 1 => by rw [Int.pow_succ, Int.pow_succ]; exact md_mul (md_pow h n) h


/-! ## the numbers modulo the prime 2147483579 -/

/-- the order of the group; not unfolded, so that nobody tries to take such a power -/
@[irreducible] def qn : Nat := 1073741789
theorem qn_eq : qn = 1073741789 := by unfold qn; rfl
theorem prm_p : Prm 2147483579 :=
  prm_of 2147483579 46341 (by omega) (by omega) fun d h1 h2 =>
    noDiv_get 2147483579 16 2 d (by decide +kernel) h1 (by omega)

/-- the rest modulo the prime -/
def mp (n : Int) : Int := n % 2147483579
theorem mp_lo (n : Int) : 0 ≤ mp n := by unfold mp; omega
theorem mp_hi (n : Int) : mp n < 2147483579 := by unfold mp; omega
theorem mp_mp (n : Int) : mp (mp n) = mp n := by unfold mp; omega
theorem mp_id {n : Int} (h0 : 0 ≤ n) (h1 : n < 2147483579) : mp n = n := by unfold mp; omega
theorem mp_mull (a b : Int) : mp (mp a * b) = mp (a * b) := by unfold mp; rw [Int.mul_emod, Int.emod_emod, ← Int.mul_emod]
theorem mp_mulr (a b : Int) : mp (a * mp b) = mp (a * b) := by unfold mp; rw [Int.mul_emod, Int.emod_emod, ← Int.mul_emod]
theorem mp_mul {a b c d : Int} (h1 : mp a = mp c) (h2 : mp b = mp d) : mp (a * b) = mp (c * d) := by
  rw [← mp_mull, ← mp_mulr, h1, h2, mp_mull, mp_mulr]
theorem mp_pow {a c : Int} (h : mp a = mp c) : ∀ n : Nat, mp (a ^ n) = mp (c ^ n)
  | 0 => by rw [Int.pow_zero, Int.pow_zero]
  | n + 1 => by rw [Int.pow_succ, Int.pow_succ]; exact mp_mul (mp_pow h n) h
theorem mp_powl (a : Int) (n : Nat) : mp (mp a ^ n) = mp (a ^ n) := mp_pow (mp_mp a) n
theorem mp_zero {n : Int} : mp n = 0 ↔ (2147483579 : Int) ∣ n := by unfold mp; omega
theorem mp_prod {a b : Int} (h : mp (a * b) = 0) : mp a = 0 ∨ mp b = 0 := by
  rw [mp_zero] at *
  rw [mp_zero]
  have h2 : (2147483579 : Nat) ∣ (a * b).natAbs := by
    have := Int.natAbs_dvd_natAbs.2 h
    exact this
  rw [Int.natAbs_mul] at h2
  rcases prm_p.euclid h2 with h3 | h3
  · left
    exact Int.natAbs_dvd_natAbs.1 (show (2147483579 : Int).natAbs ∣ a.natAbs from h3)
  · right
    exact Int.natAbs_dvd_natAbs.1 (show (2147483579 : Int).natAbs ∣ b.natAbs from h3)

/-- an element of the group -/
def Vd (x : Int) : Prop := 1 ≤ x ∧ x < 2147483579 ∧ mp (x ^ qn) = 1

/-- what Fermat says: the power to twice the order -/
theorem fermat_p {x : Int} (h : mp x ≠ 0) : mp (x ^ (2 * qn)) = 1 := by
  obtain ⟨a, ha⟩ : ∃ a : Nat, mp x = (a : Int) := ⟨(mp x).toNat, by have := mp_lo x; omega⟩
  rw [← mp_powl, ha]
  obtain ⟨m, hm⟩ := fermat_any prm_p a 2147483577 rfl (by
    intro hd
    apply h
    rw [← mp_mp, ha, mp_zero]
    exact Int.natCast_dvd_natCast.2 hd)
  obtain ⟨e, he⟩ : ∃ e : Nat, e = 2147483577 := ⟨_, rfl⟩
  rw [← he] at hm
  have h1 : 2 * qn = e + 1 := by rw [qn_eq, he]
  rw [h1, Int.pow_succ, Int.mul_comm, cast_power a e m _ hm]
  clear hm
  unfold mp
  omega

theorem one_pow' (n : Nat) : (1 : Int) ^ n = 1 := Int.one_pow
/-- the power to the order is 1 or -1 -/
theorem half_p {x : Int} (h : mp x ≠ 0) : mp (x ^ qn) = 1 ∨ mp (x ^ qn) = 2147483578 := by
  have h1 := fermat_p h
  have h2 : x ^ (2 * qn) = x ^ qn * x ^ qn := by rw [Nat.two_mul, Int.pow_add]
  rw [h2] at h1
  generalize x ^ qn = y at h1 ⊢
  have h3 : mp ((y - 1) * (y + 1)) = 0 := by
    have e : (y - 1) * (y + 1) = y * y - 1 := by grind
    rw [e]
    unfold mp at h1 ⊢
    omega
  rcases mp_prod h3 with h4 | h4
  · left; unfold mp at h4 ⊢; omega
  · right; unfold mp at h4 ⊢; omega

theorem neg_pow (x : Int) : ∀ n : Nat, n % 2 = 1 → (-x) ^ n = -(x ^ n)
  | 1, _ => by rw [Int.pow_succ, Int.pow_succ, Int.pow_zero, Int.pow_zero, Int.one_mul, Int.one_mul]
  | n + 2, h => by
    have := neg_pow x n (by omega)
    rw [Int.pow_succ, Int.pow_succ, this, Int.pow_succ, Int.pow_succ]
    grind

/-- of a number and its opposite one is an element -/
theorem vd_neg {x : Int} (h1 : 1 ≤ x) (h2 : x < 2147483579) : Vd (2147483579 - x) ↔ ¬ Vd x := by
  have h0 : mp x ≠ 0 := by unfold mp; omega
  have e : mp ((2147483579 - x) ^ qn) = mp (-(x ^ qn)) := by
    rw [← neg_pow x qn (by rw [qn_eq])]
    refine mp_pow ?_ _
    unfold mp; omega
  unfold Vd
  rw [e]
  rcases half_p h0 with h3 | h3
  · rw [h3]
    generalize x ^ qn = y at h3 ⊢
    unfold mp at h3 ⊢
    omega
  · rw [h3]
    generalize x ^ qn = y at h3 ⊢
    unfold mp at h3 ⊢
    omega

theorem vd_of {x : Int} (h : mp (x ^ qn) = 1) : Vd (mp x) := by
  have h2 : mp x ≠ 0 := by
    intro e
    rw [← mp_powl, e, Int.zero_pow (by rw [qn_eq]; omega)] at h
    revert h
    decide
  refine ⟨?_, mp_hi x, by rw [mp_powl, h]⟩
  have := mp_lo x
  omega
theorem Vd.id {x : Int} (h : Vd x) : mp x = x := mp_id (by have := h.1; omega) h.2.1
theorem vd_one : Vd 1 := ⟨by omega, by omega, by rw [one_pow']; rfl⟩
theorem Vd.mul {a b : Int} (ha : Vd a) (hb : Vd b) : Vd (mp (a * b)) := by
  refine vd_of ?_
  rw [Int.mul_pow, ← mp_mull, ha.2.2, Int.one_mul, hb.2.2]
theorem Vd.pow {a : Int} (ha : Vd a) : ∀ n : Nat, Vd (mp (a ^ n))
  | 0 => by
    have : mp (a ^ 0) = 1 := by rw [Int.pow_zero]; rfl
    rw [this]
    exact vd_one
  | n + 1 => by
    have := (ha.pow n).mul ha
    rw [Int.pow_succ, ← mp_mull]
    exact this
theorem vd_sq {x : Int} (h : mp x ≠ 0) : Vd (mp (x * x)) := by
  refine vd_of ?_
  rw [Int.mul_pow, ← Int.pow_add, ← Nat.two_mul]
  exact fermat_p h

/-- powers count modulo the order -/
theorem Vd.period {a : Int} (ha : Vd a) (n k : Nat) : mp (a ^ (n + qn * k)) = mp (a ^ n) := by
  rw [Int.pow_add, Int.pow_mul, ← mp_mulr, ← mp_powl (a ^ qn), ha.2.2, one_pow']
  show mp (a ^ n * 1) = _
  rw [Int.mul_one]

/-- the power to an integer -/
def pw (a n : Int) : Int := mp (a ^ (n % 1073741789).toNat)

theorem Vd.pw {a : Int} (ha : Vd a) (n : Int) : Vd (pw a n) := ha.pow _
theorem Vd.pw_nat {a : Int} (ha : Vd a) (n : Int) (m : Nat) (h : n % 1073741789 = (m : Int) % 1073741789) : Gp.pw a n = mp (a ^ m) := by
  unfold Gp.pw
  obtain ⟨k, hk⟩ : ∃ k : Nat, m = (n % 1073741789).toNat + qn * k := by
    refine ⟨m / 1073741789, ?_⟩
    rw [qn_eq]
    omega
  rw [hk, ha.period]
theorem Vd.pw_cong {a : Int} (_ : Vd a) {m n : Int} (h : m % 1073741789 = n % 1073741789) : Gp.pw a m = Gp.pw a n := by
  unfold Gp.pw
  rw [h]
theorem Vd.pw_add {a : Int} (ha : Vd a) (m n : Int) : mp (Gp.pw a m * Gp.pw a n) = Gp.pw a (m + n) := by
  rw [ha.pw_nat (m + n) ((m % 1073741789).toNat + (n % 1073741789).toNat) (by omega), Int.pow_add]
  unfold Gp.pw
  rw [mp_mull, mp_mulr]
theorem Vd.pw_pw {a : Int} (ha : Vd a) (m n : Int) : Gp.pw (Gp.pw a m) n = Gp.pw a (m * n) := by
  rw [ha.pw_nat (m * n) ((m % 1073741789).toNat * (n % 1073741789).toNat) (by
    rw [Int.natCast_mul, Int.toNat_of_nonneg (by omega), Int.toNat_of_nonneg (by omega), ← Int.mul_emod]), Int.pow_mul]
  show mp (mp (a ^ _) ^ _) = _
  rw [mp_powl]
theorem pw_mul (a b n : Int) : Gp.pw (mp (a * b)) n = mp (Gp.pw a n * Gp.pw b n) := by
  unfold Gp.pw
  rw [mp_powl, Int.mul_pow, mp_mull, mp_mulr]
theorem pw_zero (a : Int) : Gp.pw a 0 = 1 := by
  unfold Gp.pw
  show mp (a ^ 0) = 1
  rw [Int.pow_zero]
  rfl
theorem Vd.pw_one {a : Int} (ha : Vd a) : Gp.pw a 1 = a := by
  rw [ha.pw_nat 1 1 rfl, Int.pow_one, ha.id]
theorem Vd.pw_two {a : Int} (ha : Vd a) : Gp.pw a 2 = mp (a * a) := by
  rw [ha.pw_nat 2 2 rfl, Int.pow_succ, Int.pow_one]
theorem Vd.pw_inv {a : Int} (ha : Vd a) : mp (a * Gp.pw a (-1)) = 1 := by
  have := ha.pw_add 1 (-1)
  rw [ha.pw_one] at this
  rw [this]
  exact pw_zero a
theorem Vd.pw_root {a : Int} (ha : Vd a) : Gp.pw (Gp.pw a 536870895) 2 = a := by
  rw [ha.pw_pw]
  have : Gp.pw a (536870895 * 2) = Gp.pw a 1 := ha.pw_cong rfl
  rw [this, ha.pw_one]

/-! ## the symbol tells the elements -/

theorem coprime_p {x : Nat} (h1 : 1 ≤ x) (h2 : x < 2147483579) : Nat.Coprime x 2147483579 := by
  rcases prm_p.2 (Nat.gcd x 2147483579) (Nat.gcd_dvd_right _ _) with h | h
  · exact h
  · have := Nat.le_of_dvd h1 (h ▸ Nat.gcd_dvd_left x 2147483579)
    omega

/-- the number of rests of opposites -/
theorem gg_opp : gg 2147483579 2147483578 = 1073741789 := by
  unfold gg
  rw [sm_cong (g := fun _ => 1) _ fun k hk => ?_, sm_const]
  · omega
  · unfold ee
    have : rr 2147483579 2147483578 k = 2147483579 - (k + 1) := by
      unfold rr
      have e : 2147483578 * (k + 1) = 2147483579 - (k + 1) + 2147483579 * k := by omega
      rw [e, Nat.add_mul_mod_self_left, Nat.mod_eq_of_lt (by omega)]
    rw [this, if_pos (by omega)]

theorem gg_even {x : Nat} (hv : Vd x) : gg 2147483579 x % 2 = 0 := by
  obtain ⟨y, hy⟩ : ∃ y : Nat, Gp.pw (x : Int) 536870895 = (y : Int) := ⟨(Gp.pw (x : Int) 536870895).toNat, by have := (hv.pw 536870895).1; omega⟩
  have h1 := hv.pw 536870895
  have h2 := hv.pw_root
  rw [h1.pw_two, hy] at h2
  rw [hy] at h1
  have h3 : x = (y * y) % 2147483579 := by
    have : ((x : Nat) : Int) = ((y * y) % 2147483579 : Nat) := by
      rw [← h2]
      unfold mp
      rw [Int.natCast_emod, Int.natCast_mul]
      rfl
    omega
  have hc := coprime_p (x := y) (by have := h1.1; omega) (by have := h1.2.1; omega)
  have h4 := gg_mul (n := 2147483579) rfl hc hc
  rw [← gg_mod, ← h3] at h4
  generalize gg 2147483579 x = s at h4 ⊢
  generalize gg 2147483579 y = t at h4
  omega

theorem gg_vd {x : Nat} (h1 : 1 ≤ x) (h2 : x < 2147483579) : gg 2147483579 x % 2 = 0 ↔ Vd x := by
  refine ⟨fun h => ?_, gg_even⟩
  refine Classical.byContradiction fun hn => ?_
  have h3 := (vd_neg (x := (x : Int)) (by omega) (by omega)).2 hn
  have h4 : ((2147483579 : Int) - (x : Int)) = ((2147483579 - x : Nat) : Int) := by omega
  rw [h4] at h3
  have h5 := gg_even h3
  have h6 : 2147483579 - x = (2147483578 * x) % 2147483579 := by
    have e : 2147483578 * x = 2147483579 - x + 2147483579 * (x - 1) := by omega
    rw [e, Nat.add_mul_mod_self_left, Nat.mod_eq_of_lt (by omega)]
  rw [h6, gg_mod] at h5
  have h7 := gg_mul (n := 2147483579) rfl (coprime_p (x := 2147483578) (by omega) (by omega)) (coprime_p h1 h2)
  rw [gg_opp] at h7
  generalize gg 2147483579 x = s at h h7
  generalize gg 2147483579 (2147483578 * x) = t at h5 h7
  omega

/-! ## the loop that finds it -/

/-- what holds of the two numbers, and of the sign, in each round -/
structure Jin (x u l : Nat) (o : Bool) : Prop where
  odd : l % 2 = 1
  pos : 1 ≤ u
  lt : u < l
  le : l ≤ 2147483579
  cop : Nat.Coprime u l
  sign : (gg l u + (if o then 1 else 0) - gg 2147483579 x) % 2 = 0

theorem jin_first {x : Nat} (h1 : 1 ≤ x) (h2 : x < 2147483579) : Jin x x 2147483579 false :=
  ⟨rfl, h1, h2, Nat.le_refl _, coprime_p h1 h2, by simp⟩

theorem Jin.last {x l : Nat} {o : Bool} (h : Jin x 1 l o) (h1 : 1 ≤ x) (h2 : x < 2147483579) : (!o) = true ↔ Vd x := by
  have := h.sign
  rw [gg_one] at this
  rw [← gg_vd h1 h2]
  generalize gg 2147483579 x = s at this ⊢
  cases o <;> simp at this ⊢ <;> omega

theorem Jin.even {x u l : Nat} {o : Bool} (h : Jin x u l o) (he : u % 2 = 0) : Jin x (u / 2) l (if l % 8 = 3 ∨ l % 8 = 5 then !o else o) := by
  obtain ⟨v, hv⟩ : ∃ v, u = 2 * v := ⟨u / 2, by omega⟩
  subst hv
  have e : 2 * v / 2 = v := by omega
  rw [e]
  have h1 := h.pos
  have h2 := h.lt
  have hc := h.cop
  have hcv : Nat.Coprime v l := Nat.Coprime.coprime_mul_left hc
  have hc2 : Nat.Coprime 2 l := Nat.Coprime.coprime_mul_right hc
  refine ⟨h.odd, by omega, by omega, h.le, hcv, ?_⟩
  have h3 := gg_mul h.odd hc2 hcv
  have h4 := gg_two h.odd
  have h5 := h.sign
  generalize gg 2147483579 x = s at h5 ⊢
  generalize gg l (2 * v) = s1 at h3 h5
  generalize gg l v = s2 at h3 ⊢
  generalize gg l 2 = s3 at h3 h4
  by_cases h6 : l % 8 = 3 ∨ l % 8 = 5
  · rw [if_pos h6] at h4 ⊢
    cases o <;> simp at h5 ⊢ <;> omega
  · rw [if_neg h6] at h4 ⊢
    cases o <;> simp at h5 ⊢ <;> omega

theorem Jin.swap {x u l : Nat} {o : Bool} (h : Jin x u l o) (he : u % 2 = 1) (h1 : u ≠ 1) : Jin x (l % u) u (if u % 4 = 3 ∧ l % 4 = 3 then !o else o) := by
  have hp := h.pos
  have hc : Nat.Coprime (l % u) u := by
    have := h.cop.symm
    unfold Nat.Coprime at *
    rw [← Nat.gcd_rec, Nat.gcd_comm]
    exact this
  refine ⟨he, ?_, Nat.mod_lt _ hp, by have := h.le; have := h.lt; omega, hc, ?_⟩
  · rcases Nat.eq_zero_or_pos (l % u) with h2 | h2
    · rw [h2] at hc
      unfold Nat.Coprime at hc
      rw [Nat.gcd_zero_left] at hc
      omega
    · exact h2
  · rw [gg_mod]
    have h3 := gg_rec h.odd he h.cop
    have h4 := h.sign
    generalize gg 2147483579 x = s at h4 ⊢
    generalize gg l u = s1 at h3 h4
    generalize gg u l = s2 at h3 ⊢
    by_cases h6 : u % 4 = 3 ∧ l % 4 = 3
    · rw [if_pos h6]
      rw [if_pos ⟨h6.2, h6.1⟩] at h3
      cases o <;> simp at h4 ⊢ <;> omega
    · rw [if_neg h6]
      rw [if_neg (fun h => h6 ⟨h.2, h.1⟩)] at h3
      cases o <;> simp at h4 ⊢ <;> omega

/-! ## what the package answers -/

open Classical in
/-- whether a number is an element; never computed -/
@[irreducible] noncomputable def vd (x : Int) : Bool := decide (Vd x)
theorem vd_iff {x : Int} : vd x = true ↔ Vd x := by unfold vd; exact @decide_eq_true_iff (Vd x) (Classical.propDecidable _)
theorem vd_no {x : Int} : vd x = false ↔ ¬ Vd x := by rw [← Bool.not_eq_true, vd_iff]

theorem vd_0 : vd 0 = false := vd_no.2 fun h => by have := h.1; omega
theorem vd_p : vd 2147483579 = false := vd_no.2 fun h => by have := h.2.1; omega
theorem vd_neg4 : vd (-4) = false := vd_no.2 fun h => by have := h.1; omega
theorem vd_1 : vd 1 = true := vd_iff.2 vd_one
theorem vd_4 : vd 4 = true := vd_iff.2 (vd_sq (x := 2) (by decide))
theorem vd_2 : vd 2 = false := vd_no.2 fun h => by
  have h1 := (gg_vd (x := 2) (by omega) (by omega)).2 h
  have h2 := gg_two (n := 2147483579) (by omega)
  rw [if_pos (.inl (by omega))] at h2
  generalize gg 2147483579 2 = s at h1 h2
  omega
theorem vd_p1 : vd 2147483578 = false := vd_no.2 fun h => by
  have h1 := vd_neg (x := 1) (by omega) (by omega)
  exact h1.1 h vd_one
theorem vd_p2 : vd 2147483577 = true := vd_iff.2 ((vd_neg (x := 2) (by omega) (by omega)).2 (vd_no.1 vd_2))

/-- the inverse is the only one -/
theorem Vd.only {a b : Int} (ha : Vd a) (h0 : 0 ≤ b) (h1 : b < 2147483579) (h : mp (a * b) = 1) : Gp.pw a (-1) = b := by
  have h2 := ha.pw_inv
  have h3 := (ha.pw (-1)).id
  have e : mp (a * b * Gp.pw a (-1)) = Gp.pw a (-1) := by rw [← mp_mull, h, Int.one_mul, h3]
  have e2 : a * b * Gp.pw a (-1) = b * (a * Gp.pw a (-1)) := by grind
  rw [e2, ← mp_mulr, h2, Int.mul_one, mp_id h0 h1] at e
  exact e.symm
theorem pw_4_2 : pw 4 2 = 16 := (vd_iff.1 vd_4).pw_two
theorem pw_4_q : pw 4 1073741789 = 1 := ((vd_iff.1 vd_4).pw_cong (m := 1073741789) (n := 0) rfl).trans (pw_zero 4)
theorem pw_4_inv : pw 4 (-1) = 536870895 := (vd_iff.1 vd_4).only (by omega) (by omega) rfl

/-- the element that stands for a number -/
noncomputable def el (n : Int) : Int := if vd n = true then n else 2147483579 - n
theorem el_vd {n : Int} (h1 : 1 ≤ n) (h2 : n ≤ 1073741789) : Vd (el n) := by
  unfold el
  by_cases h : vd n = true
  · rw [if_pos h]; exact vd_iff.1 h
  · rw [if_neg h]
    exact (vd_neg h1 (by omega)).2 fun h3 => h (vd_iff.2 h3)
/-- the number for which an element stands -/
def nm (x : Int) : Int := if x ≤ 1073741789 then x else 2147483579 - x
theorem nm_el {n : Int} (h1 : 1 ≤ n) (h2 : n ≤ 1073741789) : nm (el n) = n := by
  unfold nm el
  by_cases h : vd n = true
  · rw [if_pos h, if_pos h2]
  · rw [if_neg h, if_neg (by omega)]
    omega
theorem nm_range {x : Int} (h : Vd x) : 1 ≤ nm x ∧ nm x ≤ 1073741789 := by
  have h1 := h.1
  have h2 := h.2.1
  unfold nm
  split <;> omega
theorem el_nm {x : Int} (h : Vd x) : el (nm x) = x := by
  have h1 := h.1
  have h2 := h.2.1
  unfold nm
  by_cases h3 : x ≤ 1073741789
  · rw [if_pos h3]
    unfold el
    rw [if_pos (vd_iff.2 h)]
  · rw [if_neg h3]
    unfold el
    rw [if_neg fun h4 => (vd_neg h1 h2).1 (vd_iff.1 h4) h]
    omega
theorem el_inj {n m : Int} (h1 : 1 ≤ n) (h2 : n ≤ 1073741789) (h3 : 1 ≤ m) (h4 : m ≤ 1073741789) : el n = el m ↔ n = m :=
  ⟨fun h => by rw [← nm_el h1 h2, h, nm_el h3 h4], fun h => by rw [h]⟩

/-! ## powers from right to left -/
theorem mpow_odd (y x : Int) (m : Nat) (h : m % 2 = 1) : mp (mp (y * x) * mp (x * x) ^ (m / 2)) = mp (y * x ^ m) := by
  rw [mp_mull, ← mp_mulr, mp_powl, mp_mulr]
  congr 1
  obtain ⟨k, hk⟩ : ∃ k, m = 2 * k + 1 := ⟨m / 2, by omega⟩
  have : m / 2 = k := by omega
  rw [this, hk, Int.pow_succ, Int.pow_mul, Int.pow_succ x 1, Int.pow_succ, Int.pow_zero, Int.one_mul]
  grind
theorem mpow_even (y x : Int) (m : Nat) (h : m % 2 = 0) : mp (y * mp (x * x) ^ (m / 2)) = mp (y * x ^ m) := by
  rw [← mp_mulr, mp_powl, mp_mulr]
  congr 1
  obtain ⟨k, hk⟩ : ∃ k, m = 2 * k := ⟨m / 2, by omega⟩
  have : m / 2 = k := by omega
  rw [this, hk, Int.pow_mul, Int.pow_succ x 1, Int.pow_succ, Int.pow_zero, Int.one_mul]
/-- the square of the square, and so on -/
def sqr (a : Int) : Nat → Int
  | 0 => a
  | k + 1 => mp (sqr a k * sqr a k)
end Go.Proofs.YthimljcfmnehcaaDoor.Gp
