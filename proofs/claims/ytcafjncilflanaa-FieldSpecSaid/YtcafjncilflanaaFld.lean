/- Numbers modulo the prime 1073741789, and polynomials: what holds of them. Nothing here speaks of a program. -/
import Derived.ProofKit
namespace Go.Proofs.Ytcafjncilflanaa
/-! ## the prime -/

/-- none of 2^k numbers from lo on divides n -/
def noDiv (n : Nat) : Nat → Nat → Bool
  | 0, lo => n % lo != 0
  | k + 1, lo => noDiv n k lo && noDiv n k (lo + 2 ^ k)

theorem noDiv_get (n : Nat) : ∀ (k lo d : Nat), noDiv n k lo = true → lo ≤ d → d < lo + 2 ^ k → ¬ d ∣ n
  | 0, lo, d, h, h1, h2 => by
    have : d = lo := by simp at h2; omega
    subst this
    intro hd
    have := Nat.mod_eq_zero_of_dvd hd
    simp [noDiv, this] at h
  | k + 1, lo, d, h, h1, h2 => by
    simp only [noDiv, Bool.and_eq_true] at h
    rcases Nat.lt_or_ge d (lo + 2 ^ k) with h3 | h3
    · exact noDiv_get n k lo d h.1 h1 h3
    · refine noDiv_get n k (lo + 2 ^ k) d h.2 h3 ?_
      rw [Nat.pow_succ] at h2
      omega

/-- a number above 1 that nothing between divides -/
def Prm (p : Nat) : Prop := 1 < p ∧ ∀ d, d ∣ p → d = 1 ∨ d = p

theorem prm_of (p s : Nat) (hp : 1 < p) (hs : p < (s + 1) * (s + 1)) (h : ∀ d, 2 ≤ d → d ≤ s → ¬ d ∣ p) : Prm p := by
  refine ⟨hp, fun d hd => ?_⟩
  obtain ⟨e, he⟩ := hd
  rcases Nat.lt_or_ge s d with h1 | h1
  · rcases Nat.lt_or_ge s e with h2 | h2
    · exfalso
      have := Nat.mul_le_mul (show s + 1 ≤ d from h1) (show s + 1 ≤ e from h2)
      omega
    · right
      rcases Nat.lt_or_ge e 2 with h3 | h3
      · have : e = 1 := by
          rcases Nat.eq_zero_or_pos e with h4 | h4
          · subst h4; simp at he; omega
          · omega
        subst this
        omega
      · exact absurd ⟨d, by rw [Nat.mul_comm]; exact he⟩ (h e h3 h2)
  · left
    rcases Nat.lt_or_ge d 2 with h3 | h3
    · rcases Nat.eq_zero_or_pos d with h4 | h4
      · subst h4; simp at he; omega
      · omega
    · exact absurd ⟨e, he⟩ (h d h3 h1)

theorem Prm.euclid {p : Nat} (hp : Prm p) {a b : Nat} (h : p ∣ a * b) : p ∣ a ∨ p ∣ b := by
  rcases hp.2 (Nat.gcd p a) (Nat.gcd_dvd_left p a) with h1 | h1
  · exact .inr (Nat.Coprime.dvd_of_dvd_mul_left h1 h)
  · exact .inl (h1 ▸ Nat.gcd_dvd_right p a)

/-! ## what Fermat saw -/

/-- how many ways to take k of n -/
def tk : Nat → Nat → Nat
  | _, 0 => 1
  | 0, _ + 1 => 0
  | n + 1, k + 1 => tk n k + tk n (k + 1)

theorem tk_zero (n : Nat) : tk n 0 = 1 := by cases n <;> rfl

theorem tk_big : ∀ n k : Nat, n < k → tk n k = 0
  | 0, k + 1, _ => rfl
  | n + 1, k + 1, h => by
    show tk n k + tk n (k + 1) = 0
    rw [tk_big n k (by omega), tk_big n (k + 1) (by omega)]

theorem tk_self : ∀ n : Nat, tk n n = 1
  | 0 => rfl
  | n + 1 => by
    show tk n n + tk n (n + 1) = 1
    rw [tk_self n, tk_big n (n + 1) (by omega)]

theorem tk_absorb : ∀ n k : Nat, (k + 1) * tk (n + 1) (k + 1) = (n + 1) * tk n k
  | 0, 0 => rfl
  | 0, k + 1 => by
    show (k + 1 + 1) * (tk 0 (k + 1) + tk 0 (k + 1 + 1)) = (0 + 1) * tk 0 (k + 1)
    simp [tk]
  | n + 1, 0 => by
    have h := tk_absorb n 0
    show (0 + 1) * (tk (n + 1) 0 + tk (n + 1) (0 + 1)) = (n + 1 + 1) * tk (n + 1) 0
    rw [tk_zero] at *
    omega
  | n + 1, k + 1 => by
    have h1 := tk_absorb n k
    have h2 := tk_absorb n (k + 1)
    show (k + 1 + 1) * (tk (n + 1) (k + 1) + tk (n + 1) (k + 1 + 1)) = (n + 1 + 1) * (tk n k + tk n (k + 1))
    have h3 : tk (n + 1) (k + 1) = tk n k + tk n (k + 1) := rfl
    rw [Nat.mul_add, h2, Nat.succ_mul (k + 1), h1, h3]
    grind

/-- the sum of the first k powers of a, each as often as they can be taken of n -/
def tsum (a n : Nat) : Nat → Nat
  | 0 => 0
  | k + 1 => tsum a n k + tk n k * a ^ k

theorem tsum_step (a n : Nat) : ∀ k : Nat, tsum a (n + 1) (k + 1) = tsum a n (k + 1) + a * tsum a n k
  | 0 => by simp [tsum, tk_zero]
  | k + 1 => by
    have h := tsum_step a n k
    show tsum a (n + 1) (k + 1) + (tk n k + tk n (k + 1)) * a ^ (k + 1) = tsum a n (k + 1) + tk n (k + 1) * a ^ (k + 1) + a * (tsum a n k + tk n k * a ^ k)
    rw [h]
    grind

theorem binomial (a : Nat) : ∀ n : Nat, (a + 1) ^ n = tsum a n (n + 1)
  | 0 => by simp [tsum, tk_zero]
  | n + 1 => by
    have h := binomial a n
    rw [tsum_step, Nat.pow_succ, h]
    have : tsum a n (n + 1 + 1) = tsum a n (n + 1) + tk n (n + 1) * a ^ (n + 1) := rfl
    rw [this, tk_big n (n + 1) (by omega)]
    grind

theorem Prm.tk {p : Nat} (hp : Prm p) (k : Nat) (h0 : 0 < k) (hk : k < p) : p ∣ tk p k := by
  obtain ⟨j, rfl⟩ : ∃ j, k = j + 1 := ⟨k - 1, by omega⟩
  obtain ⟨m, hm⟩ : ∃ m, p = m + 1 := ⟨p - 1, by omega⟩
  have h := tk_absorb m j
  rw [← hm] at h
  rcases hp.euclid (a := j + 1) (b := Ytcafjncilflanaa.tk p (j + 1)) ⟨_, h⟩ with h1 | h1
  · have := Nat.le_of_dvd (by omega) h1
    omega
  · exact h1

theorem Prm.tsum {p : Nat} (hp : Prm p) (a : Nat) : ∀ k : Nat, k < p → ∃ m, tsum a p (k + 1) = 1 + p * m
  | 0, _ => ⟨0, by simp [Ytcafjncilflanaa.tsum, tk_zero]⟩
  | k + 1, h => by
    obtain ⟨m, hm⟩ := hp.tsum a k (by omega)
    obtain ⟨j, hj⟩ := hp.tk (k + 1) (by omega) h
    refine ⟨m + j * a ^ (k + 1), ?_⟩
    show Ytcafjncilflanaa.tsum a p (k + 1) + Ytcafjncilflanaa.tk p (k + 1) * a ^ (k + 1) = _
    rw [hm, hj]
    grind

theorem Prm.fermat {p : Nat} (hp : Prm p) : ∀ a : Nat, ∃ m, a ^ p = a + p * m
  | 0 => ⟨0, by have := hp.1; rw [Nat.zero_pow (by omega), Nat.mul_zero]⟩
  | a + 1 => by
    obtain ⟨m, hm⟩ := hp.fermat a
    have h1 := hp.1
    obtain ⟨j, hj⟩ := hp.tsum a (p - 1) (by omega)
    rw [show p - 1 + 1 = p from by omega] at hj
    refine ⟨j + m, ?_⟩
    rw [binomial]
    show Ytcafjncilflanaa.tsum a p p + Ytcafjncilflanaa.tk p p * a ^ p = _
    rw [hj, tk_self, hm]
    grind

/-! ## the numbers of the field -/

/-- the number of the field for which n stands -/
def md (n : Int) : Int := n % 1073741789

theorem prm_q : Prm 1073741789 :=
  prm_of 1073741789 32768 (by omega) (by omega) fun d h1 h2 =>
    noDiv_get 1073741789 15 2 d (by decide +kernel) h1 (by omega)
theorem md_lo (n : Int) : 0 ≤ md n := by unfold md; omega
theorem md_hi (n : Int) : md n < 1073741789 := by unfold md; omega
theorem md_md (n : Int) : md (md n) = md n := by unfold md; omega
theorem md_id {n : Int} (h0 : 0 ≤ n) (h1 : n < 1073741789) : md n = n := by unfold md; omega
theorem md_addl (a b : Int) : md (md a + b) = md (a + b) := by unfold md; omega
theorem md_addr (a b : Int) : md (a + md b) = md (a + b) := by unfold md; omega
theorem md_subl (a b : Int) : md (md a - b) = md (a - b) := by unfold md; omega
theorem md_subr (a b : Int) : md (a - md b) = md (a - b) := by unfold md; omega
theorem md_neg (a : Int) : md (-md a) = md (-a) := by unfold md; omega
theorem md_mull (a b : Int) : md (md a * b) = md (a * b) := by unfold md; rw [Int.mul_emod, Int.emod_emod, ← Int.mul_emod]
theorem md_mulr (a b : Int) : md (a * md b) = md (a * b) := by unfold md; rw [Int.mul_emod, Int.emod_emod, ← Int.mul_emod]
theorem md_zero {n : Int} : md n = 0 ↔ (1073741789 : Int) ∣ n := by unfold md; omega
theorem md_eq {a b : Int} : md a = md b ↔ md (a - b) = 0 := by unfold md; omega
theorem md_add {a b c d : Int} (h1 : md a = md c) (h2 : md b = md d) : md (a + b) = md (c + d) := by
  rw [← md_addl, ← md_addr, h1, h2, md_addl, md_addr]
theorem md_sub {a b c d : Int} (h1 : md a = md c) (h2 : md b = md d) : md (a - b) = md (c - d) := by
  rw [← md_subl, ← md_subr, h1, h2, md_subl, md_subr]
theorem md_mul {a b c d : Int} (h1 : md a = md c) (h2 : md b = md d) : md (a * b) = md (c * d) := by
  rw [← md_mull, ← md_mulr, h1, h2, md_mull, md_mulr]
theorem md_pow {a c : Int} (h : md a = md c) : ∀ n : Nat, md (a ^ n) = md (c ^ n)
  | 0 => by rw [Int.pow_zero, Int.pow_zero]
  | n + 1 => by rw [Int.pow_succ, Int.pow_succ]; exact md_mul (md_pow h n) h

/-- a product is 0 only if one of the numbers is -/
theorem md_prod {a b : Int} (h : md (a * b) = 0) : md a = 0 ∨ md b = 0 := by
  rw [md_zero] at *
  rw [md_zero]
  have h2 : (1073741789 : Nat) ∣ (a * b).natAbs := by
    have := Int.natAbs_dvd_natAbs.2 h
    exact this
  rw [Int.natAbs_mul] at h2
  rcases prm_q.euclid h2 with h3 | h3
  · left
    exact Int.natAbs_dvd_natAbs.1 (show (1073741789 : Int).natAbs ∣ a.natAbs from h3)
  · right
    exact Int.natAbs_dvd_natAbs.1 (show (1073741789 : Int).natAbs ∣ b.natAbs from h3)

theorem fermat_any {p : Nat} (hp : Prm p) (a : Nat) (q : Nat) (h : p = q + 2) (h0 : ¬ p ∣ a) : ∃ m : Nat, a * a ^ q = 1 + p * m := by
  obtain ⟨m, hm⟩ := hp.fermat a
  have h1 : a * a ^ (q + 1) = a + p * m := by rw [← hm, h, Nat.pow_succ a (q + 1), Nat.mul_comm]
  have hapos : 0 < a := Nat.pos_of_ne_zero fun e => h0 (e ▸ Nat.dvd_zero p)
  have h2 : 1 ≤ a ^ (q + 1) := Nat.one_le_iff_ne_zero.2 (by
    intro e
    rw [e] at h1
    omega)
  have h3 : a * (a ^ (q + 1) - 1) = p * m := by
    rw [Nat.mul_sub, h1]
    omega
  rcases hp.euclid (a := a) (b := a ^ (q + 1) - 1) ⟨m, h3⟩ with h4 | h4
  · exact absurd h4 h0
  · obtain ⟨j, hj⟩ := h4
    refine ⟨j, ?_⟩
    have h5 : a * a ^ q = a ^ (q + 1) := by rw [Nat.mul_comm a, ← Nat.pow_succ]
    omega

theorem cast_power (a e m p : Nat) (h : a * a ^ e = 1 + p * m) : (a : Int) * (a : Int) ^ e = 1 + (p : Int) * (m : Int) := by
  exact_mod_cast h

/-- the inverse of a number, by a power -/
def inv (n : Int) : Int := md (md n ^ (1073741787 : Nat))

theorem inv_one {n : Int} (h : md n ≠ 0) : md (n * inv n) = 1 := by
  unfold inv
  rw [md_mulr, ← md_mull]
  obtain ⟨a, ha⟩ : ∃ a : Nat, md n = (a : Int) := ⟨(md n).toNat, by have := md_lo n; omega⟩
  rw [ha]
  obtain ⟨m, hm⟩ := fermat_any prm_q a 1073741787 rfl (by
    intro hd
    apply h
    rw [← md_md, ha, md_zero]
    exact Int.natCast_dvd_natCast.2 hd)
  generalize (1073741787 : Nat) = e at *
  have : (a : Int) * (a : Int) ^ e = 1 + 1073741789 * (m : Int) := cast_power a e m _ hm
  rw [this]
  unfold md
  omega
theorem inv_lo (n : Int) : 0 ≤ inv n := md_lo _
theorem inv_hi (n : Int) : inv n < 1073741789 := md_hi _
theorem inv_md (n : Int) : inv (md n) = inv n := by unfold inv; rw [md_md]
theorem inv_cong {a b : Int} (h : md a = md b) : inv a = inv b := by unfold inv; rw [h]
theorem inv_mul (a b : Int) : md (inv a * inv b) = inv (a * b) := by
  unfold inv
  rw [md_mull, md_mulr, ← Int.mul_pow]
  refine md_pow ?_ _
  rw [md_mull, md_mulr, md_md]
/-- a number is what it is times an inverse of it -/
theorem md_cancel {a b c : Int} (hc : md c ≠ 0) (h : md (a * c) = md (b * c)) : md a = md b := by
  rw [md_eq] at *
  have : a * c - b * c = (a - b) * c := by grind
  rw [this] at h
  rcases md_prod h with h1 | h1
  · exact h1
  · exact absurd h1 hc

/-! ## polynomials -/

/-- the value of a polynomial, not reduced -/
def ev : List Int → Int → Int
  | [], _ => 0
  | c :: l, x => c + x * ev l x

/-- what Value answers: from the back, each step reduced -/
def valF : List Int → Int → Int
  | [], _ => 0
  | c :: l, x => md (md (valF l x * x) + c)

theorem valF_md : ∀ (l : List Int) (x : Int), valF l x = md (ev l x)
  | [], _ => rfl
  | c :: l, x => by
    show md (md (valF l x * x) + c) = md (c + x * ev l x)
    rw [md_addl, valF_md l x]
    refine (md_add (md_mull (ev l x) x) rfl).trans (congrArg md ?_)
    grind

theorem ev_cong (l : List Int) {x y : Int} (h : md x = md y) : md (ev l x) = md (ev l y) := by
  induction l with
  | nil => rfl
  | cons c l ih => exact md_add rfl (md_mul h ih)

/-- a polynomial without a root, and the rest -/
theorem ev_root (r : Int) : ∀ l : List Int, ∃ q : List Int, q.length = l.length - 1 ∧ ∀ x, ev l x = ev l r + (x - r) * ev q x
  | [] => ⟨[], rfl, fun x => by simp [ev]⟩
  | [c] => ⟨[], rfl, fun x => by simp [ev]⟩
  | c :: d :: l => by
    obtain ⟨q, hq, h⟩ := ev_root r (d :: l)
    refine ⟨ev (d :: l) r :: q, by simp [hq], fun x => ?_⟩
    have h1 := h x
    show c + x * ev (d :: l) x = c + r * ev (d :: l) r + (x - r) * (ev (d :: l) r + x * ev q x)
    rw [h1]
    grind

/-- the numbers for which these stand are pairwise different -/
def Dif : List Int → Prop
  | [] => True
  | x :: l => (∀ y ∈ l, md x ≠ md y) ∧ Dif l

/-- a polynomial with as many roots as coefficients is 0 everywhere -/
theorem ev_zero : ∀ (xs l : List Int), Dif xs → l.length ≤ xs.length → (∀ x ∈ xs, md (ev l x) = 0) → ∀ x, md (ev l x) = 0
  | [], l, _, hl, _, x => by
    have : l = [] := List.length_eq_zero_iff.1 (by simpa using hl)
    subst this
    rfl
  | r :: xs, l, hd, hl, hz, x => by
    obtain ⟨q, hq, h⟩ := ev_root r l
    have h0 := hz r (List.mem_cons_self ..)
    have hq0 := ev_zero xs q hd.2 (by simp at hl; omega) (fun y hy => by
      have h1 := hz y (List.mem_cons_of_mem _ hy)
      rw [h y] at h1
      have h2 : md ((y - r) * ev q y) = 0 := by
        rw [← md_addl, h0, Int.zero_add] at h1
        exact h1
      rcases md_prod h2 with h3 | h3
      · exact absurd (md_eq.2 h3).symm (hd.1 y hy)
      · exact h3) x
    rw [h x, ← md_addl, h0, Int.zero_add, ← md_mulr, hq0, Int.mul_zero]
    rfl

/-- sums and multiples of polynomials -/
def padd : List Int → List Int → List Int
  | [], m => m
  | c :: l, [] => c :: l
  | c :: l, d :: m => (c + d) :: padd l m
theorem padd_ev : ∀ (l m : List Int) (x : Int), ev (padd l m) x = ev l x + ev m x
  | [], m, x => by simp [padd, ev]
  | c :: l, [], x => by simp [padd, ev]
  | c :: l, d :: m, x => by
    show c + d + x * ev (padd l m) x = c + x * ev l x + (d + x * ev m x)
    rw [padd_ev l m x]
    grind
theorem padd_len : ∀ (l m : List Int), (padd l m).length = max l.length m.length
  | [], m => by simp [padd]
  | c :: l, [] => by simp [padd]
  | c :: l, d :: m => by
    simp only [padd, List.length_cons, padd_len l m]
    omega
def pmul (k : Int) (l : List Int) : List Int := l.map (k * ·)
theorem pmul_ev (k : Int) : ∀ (l : List Int) (x : Int), ev (pmul k l) x = k * ev l x
  | [], x => by simp [pmul, ev]
  | c :: l, x => by
    have := pmul_ev k l x
    show k * c + x * ev (pmul k l) x = k * (c + x * ev l x)
    rw [this]
    grind
/-- two polynomials with few coefficients that agree at many numbers agree everywhere -/
theorem ev_same (xs l m : List Int) (hd : Dif xs) (hl : l.length ≤ xs.length) (hm : m.length ≤ xs.length) (h : ∀ x ∈ xs, md (ev l x) = md (ev m x)) (x : Int) : md (ev l x) = md (ev m x) := by
  rw [md_eq]
  have e : ∀ x, ev l x - ev m x = ev (padd l (pmul (-1) m)) x := fun x => by
    rw [padd_ev, pmul_ev]
    grind
  rw [e]
  refine ev_zero xs _ hd (by rw [padd_len]; simp [pmul]; omega) (fun y hy => ?_) x
  rw [← e, ← md_eq]
  exact h y hy

/-- times (x - r) -/
def plin (r : Int) (l : List Int) : List Int := padd (0 :: l) (pmul (-r) l)
theorem plin_ev (r : Int) (l : List Int) (x : Int) : ev (plin r l) x = (x - r) * ev l x := by
  rw [plin, padd_ev, pmul_ev]
  show 0 + x * ev l x + -r * ev l x = _
  grind
theorem plin_len (r : Int) (l : List Int) : (plin r l).length = l.length + 1 := by
  rw [plin, padd_len]
  simp [pmul]

/-- the product of x without each of some numbers -/
def prd (x : Int) : List Int → Int
  | [] => 1
  | r :: l => (x - r) * prd x l
theorem prd_ev : ∀ l : List Int, ∃ p : List Int, p.length = l.length + 1 ∧ ∀ x, ev p x = prd x l
  | [] => ⟨[1], rfl, fun x => by simp [ev, prd]⟩
  | r :: l => by
    obtain ⟨p, hp, h⟩ := prd_ev l
    exact ⟨plin r p, by rw [plin_len, hp]; rfl, fun x => by rw [plin_ev, h]; rfl⟩
theorem prd_zero (x : Int) : ∀ l : List Int, (∃ r ∈ l, md x = md r) → md (prd x l) = 0
  | _ :: l, ⟨s, hs, h⟩ => by
    show md ((x - _) * prd x l) = 0
    rcases List.mem_cons.1 hs with rfl | h1
    · rw [← md_mull, md_eq.1 h, Int.zero_mul]; rfl
    · rw [← md_mulr, prd_zero x l ⟨s, h1, h⟩, Int.mul_zero]; rfl
theorem prd_ne (x : Int) : ∀ l : List Int, (∀ r ∈ l, md x ≠ md r) → md (prd x l) ≠ 0
  | [], _ => by show md 1 ≠ 0; decide
  | r :: l, h => by
    intro e
    rcases md_prod (show md ((x - r) * prd x l) = 0 from e) with h1 | h1
    · exact h r (List.mem_cons_self ..) (md_eq.2 h1)
    · exact prd_ne x l (fun s hs => h s (List.mem_cons_of_mem _ hs)) h1
theorem prd_cong {x y : Int} (h : md x = md y) : ∀ l : List Int, md (prd x l) = md (prd y l)
  | [] => rfl
  | _ :: l => md_mul (md_sub h rfl) (prd_cong h l)
/-! ## through points -/

/-- a point: the number and the value there -/
abbrev Pt : Type := Int × Int

/-- the numbers of the points but the one with the index i -/
def oth (l : List Pt) (i : Nat) : List Int := (l.eraseIdx i).map (·.1)
/-- how much the value of the point i counts at x, not reduced -/
def wgt (l : List Pt) (i : Nat) (x : Int) : Int := prd x (oth l i) * inv (prd ((l.map (·.1)).getD i 0) (oth l i))
/-- the sum of what the first n points count -/
def lagS (l : List Pt) (x : Int) : Nat → Int
  | 0 => 0
  | n + 1 => lagS l x n + (l.map (·.2)).getD n 0 * wgt l n x
/-- what At answers -/
def atF (l : List Pt) (x : Int) : Int := md (lagS l x l.length)

theorem oth_len (l : List Pt) (i : Nat) (h : i < l.length) : (oth l i).length + 1 = l.length := by
  unfold oth
  rw [List.length_map, List.length_eraseIdx_of_lt h]
  omega

/-- what At answers is the value of a polynomial with as many coefficients as points -/
theorem lag_poly (l : List Pt) : ∀ n, n ≤ l.length → ∃ p : List Int, p.length ≤ l.length ∧ ∀ x, ev p x = lagS l x n
  | 0, _ => ⟨[], Nat.zero_le _, fun _ => rfl⟩
  | n + 1, h => by
    obtain ⟨p, hp, e⟩ := lag_poly l n (by omega)
    obtain ⟨q, hq, f⟩ := prd_ev (oth l n)
    have hn := oth_len l n (by omega)
    refine ⟨padd p (pmul ((l.map (·.2)).getD n 0 * inv (prd ((l.map (·.1)).getD n 0) (oth l n))) q), ?_, fun x => ?_⟩
    · rw [padd_len]
      simp only [pmul, List.length_map]
      omega
    · rw [padd_ev, pmul_ev, e, f]
      simp only [lagS, wgt]
      grind

theorem dif_get : ∀ (xs : List Int), Dif xs → ∀ i j (hi : i < xs.length) (hj : j < xs.length), i ≠ j → md xs[i] ≠ md xs[j]
  | x :: l, h, 0, 0, _, _, hn => absurd rfl hn
  | x :: l, h, 0, j + 1, _, hj, _ => h.1 _ (List.getElem_mem _)
  | x :: l, h, i + 1, 0, hi, _, _ => fun e => h.1 _ (List.getElem_mem (by simpa using hi)) e.symm
  | x :: l, h, i + 1, j + 1, hi, hj, hn => dif_get l h.2 i j (by simpa using hi) (by simpa using hj) (by omega)
theorem dif_of : ∀ (xs : List Int), (∀ i j (hi : i < xs.length) (hj : j < xs.length), j < i → md xs[i] ≠ md xs[j]) → Dif xs
  | [], _ => trivial
  | x :: l, h => ⟨fun y hy e => by
      obtain ⟨k, hk, rfl⟩ := List.mem_iff_getElem.1 hy
      exact h (k + 1) 0 (by simpa using hk) (by simp) (by omega) e.symm, dif_of l fun i j hi hj hij => h (i + 1) (j + 1) (by simpa using hi) (by simpa using hj) (by omega)⟩
theorem oth_mem (l : List Pt) (i j : Nat) (hj : j < l.length) (h : i ≠ j) : (l[j]).1 ∈ oth l i := by
  unfold oth
  refine List.mem_map.2 ⟨l[j], ?_, rfl⟩
  rw [List.mem_eraseIdx_iff_getElem]
  exact ⟨j, hj, fun e => h e.symm, rfl⟩
theorem oth_ne (l : List Pt) (hd : Dif (l.map (·.1))) (i : Nat) (hi : i < l.length) : ∀ r ∈ oth l i, md (l[i]).1 ≠ md r := by
  intro r hr e
  unfold oth at hr
  obtain ⟨p, hp, rfl⟩ := List.mem_map.1 hr
  rw [List.mem_eraseIdx_iff_getElem] at hp
  obtain ⟨k, hk, hne, rfl⟩ := hp
  have := dif_get _ hd i k (by simpa using hi) (by simpa using hk) (fun e => hne e.symm)
  simp only [List.getElem_map] at this
  exact this e

theorem wgt_own (l : List Pt) (hd : Dif (l.map (·.1))) (i : Nat) (hi : i < l.length) (x : Int) (hx : md x = md (l[i]).1) : md (wgt l i x) = 1 := by
  unfold wgt
  have e : (l.map (·.1)).getD i 0 = (l[i]).1 := by
    rw [List.getD_eq_getElem?_getD, List.getElem?_map, List.getElem?_eq_getElem hi]
    rfl
  rw [e, ← md_mull, prd_cong hx, md_mull]
  exact inv_one (prd_ne _ _ (oth_ne l hd i hi))
theorem wgt_other (l : List Pt) (i j : Nat) (hj : j < l.length) (h : i ≠ j) (x : Int) (hx : md x = md (l[j]).1) : md (wgt l i x) = 0 := by
  unfold wgt
  rw [← md_mull, prd_zero x _ ⟨_, oth_mem l i j hj h, hx⟩, Int.zero_mul]
  rfl

theorem lag_at (l : List Pt) (hd : Dif (l.map (·.1))) (j : Nat) (hj : j < l.length) (x : Int) (hx : md x = md (l[j]).1) : ∀ n, n ≤ l.length → md (lagS l x n) = if j < n then md (l[j]).2 else 0
  | 0, _ => rfl
  | n + 1, h => by
    have ih := lag_at l hd j hj x hx n (by omega)
    have e : (l.map (·.2)).getD n 0 = (l[n]).2 := by
      rw [List.getD_eq_getElem?_getD, List.getElem?_map, List.getElem?_eq_getElem (by omega)]
      rfl
    show md (lagS l x n + (l.map (·.2)).getD n 0 * wgt l n x) = _
    rw [e, ← md_addl, ih, ← md_addr, ← md_mulr]
    by_cases hn : n = j
    · subst hn
      rw [wgt_own l hd n hj x hx, if_neg (by omega), if_pos (by omega), Int.mul_one, Int.zero_add, md_md]
    · rw [wgt_other l n j hj hn x hx, Int.mul_zero]
      by_cases hl : j < n
      · rw [if_pos hl, if_pos (by omega)]
        show md (md (l[j]).2 + md 0) = _
        rw [show md 0 = 0 from rfl, Int.add_zero, md_md]
      · rw [if_neg hl, if_neg (by omega)]
        rfl

/-- at the number of a point At answers its value -/
theorem at_point (l : List Pt) (hd : Dif (l.map (·.1))) (j : Nat) (hj : j < l.length) (x : Int) (hx : md x = md (l[j]).1) : atF l x = md (l[j]).2 := by
  unfold atF
  rw [lag_at l hd j hj x hx _ (Nat.le_refl _), if_pos hj]

/-- what goes through the points is what At answers -/
theorem at_poly (l : List Pt) (hd : Dif (l.map (·.1))) (p : List Int) (hp : p.length ≤ l.length) (h : ∀ q ∈ l, md (ev p q.1) = md q.2) (x : Int) : atF l x = md (ev p x) := by
  obtain ⟨m, hm, e⟩ := lag_poly l l.length (Nat.le_refl _)
  unfold atF
  rw [← e]
  refine ev_same _ _ _ hd (by simpa using hm) (by simpa using hp) (fun y hy => ?_) x
  obtain ⟨q, hq, rfl⟩ := List.mem_map.1 hy
  obtain ⟨j, hj, rfl⟩ := List.mem_iff_getElem.1 hq
  rw [e, h _ hq]
  have := at_point l hd j hj _ rfl
  exact this

/-- a polynomial for what At answers -/
theorem at_some (l : List Pt) (hd : Dif (l.map (·.1))) : ∃ p : List Int, p.length ≤ l.length ∧ (∀ q ∈ l, md (ev p q.1) = md q.2) ∧ ∀ x, atF l x = md (ev p x) := by
  obtain ⟨m, hm, e⟩ := lag_poly l l.length (Nat.le_refl _)
  refine ⟨m, hm, fun q hq => ?_, fun x => by rw [e]; rfl⟩
  obtain ⟨j, hj, rfl⟩ := List.mem_iff_getElem.1 hq
  rw [e]
  exact at_point l hd j hj _ rfl

theorem at_turned (l m : List Pt) (hd : Dif (l.map (·.1))) (hd2 : Dif (m.map (·.1))) (hl : l.length = m.length) (h : ∀ q ∈ m, q ∈ l) (x : Int) : atF l x = atF m x := by
  obtain ⟨p, hp, h1, h2⟩ := at_some l hd
  rw [h2, at_poly m hd2 p (by omega) (fun q hq => h1 q (h q hq))]

theorem at_more (l : List Pt) (y z : Int) (hd : Dif (l.map (·.1))) (hd2 : Dif ((l ++ [(y, atF l y)]).map (·.1))) : atF (l ++ [(y, atF l y)]) z = atF l z := by
  obtain ⟨p, hp, h1, h2⟩ := at_some l hd
  rw [h2 z]
  refine at_poly _ hd2 p (by simp; omega) (fun q hq => ?_) z
  rcases List.mem_append.1 hq with h3 | h3
  · exact h1 q h3
  · obtain rfl := List.mem_singleton.1 h3
    show md (ev p y) = md (atF l y)
    rw [h2 y, md_md]

theorem dif_perm : ∀ {l m : List Int}, l.Perm m → Dif l → Dif m := by
  intro l m h
  induction h with
  | nil => exact id
  | cons x h ih => exact fun hd => ⟨fun y hy => hd.1 y (h.mem_iff.2 hy), ih hd.2⟩
  | swap x y l => exact fun hd => ⟨fun z hz => by
      rcases List.mem_cons.1 hz with rfl | h1
      · exact fun e => hd.1 x (List.mem_cons_self ..) e.symm
      · exact hd.2.1 z h1, fun z hz => hd.1 z (List.mem_cons_of_mem _ hz), hd.2.2⟩
  | trans _ _ ih1 ih2 => exact fun hd => ih2 (ih1 hd)

/-- the reference's sum: each point's value times the inverses, one by one -/
def rprt (xi : Int) (x : Int) : List Int → Int → Int
  | [], y => y
  | r :: l, y => rprt xi x l (md (y * md (md (x - r) * inv (xi - r))))
theorem rprt_is (xi x : Int) : ∀ (l : List Int) (y : Int), md (rprt xi x l y) = md (y * (prd x l * inv (prd xi l)))
  | [], y => by
    show md y = md (y * (1 * inv 1))
    have : inv 1 = 1 := by
      have h := inv_one (n := 1) (by decide)
      rw [Int.one_mul, md_id (inv_lo _) (inv_hi _)] at h
      exact h
    rw [this, Int.one_mul, Int.mul_one]
  | r :: l, y => by
    show md (rprt xi x l (md (y * md (md (x - r) * inv (xi - r))))) = md (y * ((x - r) * prd x l * inv ((xi - r) * prd xi l)))
    rw [rprt_is xi x l, md_mull]
    have e1 : md (md (md (x - r) * inv (xi - r)) * (prd x l * inv (prd xi l))) = md ((x - r) * prd x l * inv ((xi - r) * prd xi l)) := by
      rw [md_mull, ← inv_mul, md_mulr]
      refine (md_mul (md_mull _ _) rfl).trans (congrArg md ?_)
      grind
    have e2 : y * md (md (x - r) * inv (xi - r)) * (prd x l * inv (prd xi l)) = y * (md (md (x - r) * inv (xi - r)) * (prd x l * inv (prd xi l))) := by grind
    rw [e2]
    exact md_mul rfl e1
/-! ## sums of polynomials -/

/-- the sum of two polynomials, as the statement makes it -/
def sumF : List Int → List Int → List Int
  | [], m => m.map md
  | c :: l, [] => c :: l
  | c :: l, d :: m => md (c + d) :: sumF l m
theorem sumF_len : ∀ l m : List Int, (sumF l m).length = max l.length m.length
  | [], m => by simp [sumF]
  | c :: l, [] => by simp [sumF]
  | c :: l, d :: m => by
    simp only [sumF, List.length_cons, sumF_len l m]
    omega
theorem sumF_get : ∀ (l m : List Int) (i : Nat), i < max l.length m.length → (sumF l m)[i]? = some (if i < m.length then md (l.getD i 0 + m.getD i 0) else l.getD i 0)
  | [], m, i, h => by
    have h1 : i < m.length := by simpa using h
    simp only [sumF, List.getElem?_map, List.getElem?_eq_getElem h1, Option.map_some, if_pos h1, List.getD_eq_getElem?_getD, Option.getD_some, List.getElem?_nil, Option.getD_none, Int.zero_add]
  | c :: l, [], i, h => by
    have h1 : i < (c :: l).length := by simpa using h
    simp only [sumF, List.getElem?_eq_getElem h1, List.getD_eq_getElem?_getD, Option.getD_some]
    rw [if_neg (by simp)]
  | c :: l, d :: m, 0, _ => by simp [sumF]
  | c :: l, d :: m, i + 1, h => by
    have := sumF_get l m i (by simp only [List.length_cons] at h; omega)
    simp only [sumF, List.getElem?_cons_succ, this, List.length_cons, Nat.add_lt_add_iff_right, List.getD_eq_getElem?_getD]
theorem ev_md : ∀ (l : List Int) (x : Int), md (ev (l.map md) x) = md (ev l x)
  | [], _ => rfl
  | c :: l, x => md_add (md_md c) (md_mul rfl (ev_md l x))
theorem sumF_ev : ∀ (l m : List Int) (x : Int), md (ev (sumF l m) x) = md (ev l x + ev m x)
  | [], m, x => by
    show md (ev (m.map md) x) = md (0 + ev m x)
    rw [ev_md, Int.zero_add]
  | c :: l, [], x => by
    show md (ev (c :: l) x) = md (ev (c :: l) x + 0)
    rw [Int.add_zero]
  | c :: l, d :: m, x => by
    show md (md (c + d) + x * ev (sumF l m) x) = md (c + x * ev l x + (d + x * ev m x))
    rw [md_addl, ← md_addr, ← md_mulr x, sumF_ev l m x, md_mulr, md_addr]
    congr 1
    grind
theorem times_ev (n : Int) : ∀ (l : List Int) (x : Int), md (ev (l.map fun c => md (n * c)) x) = md (n * ev l x)
  | [], x => by simp [ev]
  | c :: l, x => by
    show md (md (n * c) + x * ev (l.map fun c => md (n * c)) x) = md (n * (c + x * ev l x))
    rw [md_addl, ← md_addr, ← md_mulr x, times_ev n l x, md_mulr, md_addr]
    congr 1
    grind
theorem sums_law (a b : List Int) (x : Int) : valF (sumF a b) x = md (valF a x + valF b x) := by
  rw [valF_md, valF_md, valF_md, md_addl, md_addr, sumF_ev]
theorem times_law (n : Int) (a : List Int) (x : Int) : valF (a.map fun c => md (n * c)) x = md (n * valF a x) := by
  rw [valF_md, valF_md, md_mulr, times_ev]

/-! ## the examples -/
theorem inv_two : inv 2 = 536870895 := by
  have h := inv_one (n := 2) (by decide)
  have h2 : md (536870895 * 2) = 1 := by decide
  have h3 := md_cancel (a := inv 2) (b := 536870895) (c := 2) (by decide) (by rw [h2, Int.mul_comm]; exact h)
  rw [md_id (inv_lo _) (inv_hi _)] at h3
  rw [h3]
  rfl
theorem at_line : atF [(1, 3), (2, 5)] 0 = 1 := by
  rw [at_poly [(1, 3), (2, 5)] (by simp [Dif]; decide) [1, 2] (by simp) (by
    intro q hq
    rcases List.mem_cons.1 hq with rfl | hq
    · rfl
    · obtain rfl := List.mem_singleton.1 hq
      rfl)]
  rfl
end Go.Proofs.Ytcafjncilflanaa
