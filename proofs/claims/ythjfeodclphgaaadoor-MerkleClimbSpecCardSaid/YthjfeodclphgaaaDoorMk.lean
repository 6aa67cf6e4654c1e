/- Roots, paths and collisions of lists, as plain functions. -/
import Derived.Test.YthjfeodclphgaaaDoorTag
namespace Go.Proofs.YthjfeodclphgaaaDoor
/-- The text of a node, under a tag T (a digest). -/
def nodeT (T a b : List UInt8) : List UInt8 := T ++ (a ++ b)
section
variable (H : List UInt8 → List UInt8) (T : List UInt8)
/-- The row after a row. -/
def pairsL : List (List UInt8) → List (List UInt8)
  | a :: b :: l => H (nodeT T a b) :: pairsL l
  | [a] => [a]
  | [] => []
theorem pairsL_len : ∀ l : List (List UInt8), (pairsL H T l).length = (l.length + 1) / 2
  | a :: b :: l => by simp only [pairsL, List.length_cons, pairsL_len l]; omega
  | [a] => by simp [pairsL]
  | [] => by simp [pairsL]
def rootR (l : List (List UInt8)) : List UInt8 :=
  if _h : l.length ≤ 1 then l.headD [] else rootR (pairsL H T l)
termination_by l.length
decreasing_by rw [pairsL_len]; omega
theorem rootR_one {l : List (List UInt8)} (h : l.length ≤ 1) : rootR H T l = l.headD [] := by unfold rootR; rw [dif_pos h]
theorem rootR_more {l : List (List UInt8)} (h : 1 < l.length) : rootR H T l = rootR H T (pairsL H T l) := by conv => lhs; unfold rootR; rw [dif_neg (by omega)]
/-- The neighbour of a place. -/
def nb (i : Nat) : Nat := if i % 2 = 1 then i - 1 else i + 1
theorem nb_half (i : Nat) : nb i / 2 = i / 2 := by unfold nb; split <;> omega
theorem nb_ne (i : Nat) : nb i ≠ i := by unfold nb; split <;> omega
/-- Nothing is hashed together with what is at the place i of n. -/
def aloneB (n i : Nat) : Bool := decide (n ≤ nb i)
def proveR (l : List (List UInt8)) (i : Nat) : List (List UInt8) :=
  if _h : l.length ≤ 1 then [] else (if aloneB l.length i then [] else [l.getD (nb i) []]) ++ proveR (pairsL H T l) (i / 2)
termination_by l.length
decreasing_by rw [pairsL_len]; omega
theorem proveR_one {l : List (List UInt8)} {i : Nat} (h : l.length ≤ 1) : proveR H T l i = [] := by unfold proveR; rw [dif_pos h]
theorem proveR_more {l : List (List UInt8)} {i : Nat} (h : 1 < l.length) : proveR H T l i = (if aloneB l.length i then [] else [l.getD (nb i) []]) ++ proveR H T (pairsL H T l) (i / 2) := by conv => lhs; unfold proveR; rw [dif_neg (by omega)]
/-- The text at the place i: with the neighbour's digest before or behind. -/
def stepT (i : Nat) (d e : List UInt8) : List UInt8 := if nb i < i then nodeT T e d else nodeT T d e
def climbR (n i : Nat) (d : List UInt8) (p : List (List UInt8)) : List UInt8 :=
  if _h : n ≤ 1 then d else if aloneB n i then climbR ((n + 1) / 2) (i / 2) d p else climbR ((n + 1) / 2) (i / 2) (H (stepT T i d (p.headD []))) p.tail
termination_by n
decreasing_by all_goals omega
theorem climbR_one {n i : Nat} {d : List UInt8} {p : List (List UInt8)} (h : n ≤ 1) : climbR H T n i d p = d := by unfold climbR; rw [dif_pos h]
theorem climbR_alone {n i : Nat} {d : List UInt8} {p : List (List UInt8)} (h : 1 < n) (ha : aloneB n i = true) : climbR H T n i d p = climbR H T ((n + 1) / 2) (i / 2) d p := by conv => lhs; unfold climbR; rw [dif_neg (by omega), if_pos ha]
theorem climbR_two {n i : Nat} {d : List UInt8} {p : List (List UInt8)} (h : 1 < n) (ha : aloneB n i = false) : climbR H T n i d p = climbR H T ((n + 1) / 2) (i / 2) (H (stepT T i d (p.headD []))) p.tail := by conv => lhs; unfold climbR; rw [dif_neg (by omega), if_neg (by rw [ha]; decide)]
/-- The length of a path. -/
def lenR (n i : Nat) : Nat := if _h : n ≤ 1 then 0 else (if aloneB n i then 0 else 1) + lenR ((n + 1) / 2) (i / 2)
termination_by n
decreasing_by omega
theorem lenR_one {n i : Nat} (h : n ≤ 1) : lenR n i = 0 := by unfold lenR; rw [dif_pos h]
theorem lenR_more {n i : Nat} (h : 1 < n) : lenR n i = (if aloneB n i then 0 else 1) + lenR ((n + 1) / 2) (i / 2) := by conv => lhs; unfold lenR; rw [dif_neg (by omega)]
theorem lenR_le : ∀ (k n i : Nat), n ≤ 2 ^ k → lenR n i ≤ k
  | 0, n, i, h => by rw [lenR_one (by simpa using h)]; exact Nat.le_refl _
  | k + 1, n, i, h => by
    by_cases h1 : n ≤ 1
    · rw [lenR_one h1]; omega
    · rw [lenR_more (by omega)]
      have := lenR_le k ((n + 1) / 2) (i / 2) (by rw [Nat.pow_succ] at h; omega)
      split <;> omega
theorem proveR_len : ∀ (k : Nat) (l : List (List UInt8)) (i : Nat), l.length ≤ k → (proveR H T l i).length = lenR l.length i
  | k, l, i, hk => by
    by_cases h1 : l.length ≤ 1
    · rw [proveR_one H T h1, lenR_one h1]; rfl
    · cases k with
      | zero => omega
      | succ k =>
        rw [proveR_more H T (by omega), lenR_more (by omega), List.length_append, proveR_len k (pairsL H T l) (i / 2) (by rw [pairsL_len]; omega), pairsL_len]
        split <;> rfl
theorem pairsL_get : ∀ (l : List (List UInt8)) (j : Nat), j < (l.length + 1) / 2 → (pairsL H T l).getD j [] = if 2 * j + 1 < l.length then H (nodeT T (l.getD (2 * j) []) (l.getD (2 * j + 1) [])) else l.getD (2 * j) []
  | a :: b :: l, 0, h => by simp [pairsL]
  | a :: b :: l, j + 1, h => by
    have e := pairsL_get l j (by simp only [List.length_cons] at h; omega)
    simp only [pairsL, List.getD_cons_succ, List.length_cons, show 2 * (j + 1) = 2 * j + 1 + 1 by omega, e]
    by_cases hc : 2 * j + 1 < l.length
    · rw [if_pos hc, if_pos (by omega)]
    · rw [if_neg hc, if_neg (by omega)]
  | [a], 0, h => by simp [pairsL]
  | [a], j + 1, h => by simp at h
  | [], j, h => by simp at h
/-- The digest above a place, and its neighbour's. -/
theorem pairs_at {l : List (List UInt8)} {i : Nat} (hi : i < l.length) : (pairsL H T l).getD (i / 2) [] = if aloneB l.length i then l.getD i [] else H (stepT T i (l.getD i []) (l.getD (nb i) [])) := by
  rw [pairsL_get H T l (i / 2) (by omega)]
  unfold aloneB stepT nb
  rcases Nat.mod_two_eq_zero_or_one i with h | h
  · have e : 2 * (i / 2) = i := by omega
    rw [e, if_neg (show ¬ i % 2 = 1 by omega)]
    by_cases hc : i + 1 < l.length
    · rw [if_pos hc, if_neg (by simp; omega), if_neg (by omega)]
    · rw [if_neg hc, if_pos (by simp; omega)]
  · have e : 2 * (i / 2) = i - 1 := by omega
    have e2 : i - 1 + 1 = i := by omega
    rw [e, e2, if_pos h, if_pos hi, if_neg (by simp; omega), if_pos (by omega)]
/-- Climbing from a leaf with its path leads to the root. -/
theorem climb_prove : ∀ (k : Nat) (l : List (List UInt8)) (i : Nat), l.length ≤ k → i < l.length → climbR H T l.length i (l.getD i []) (proveR H T l i) = rootR H T l
  | k, l, i, hk, hi => by
    by_cases h1 : l.length ≤ 1
    · rw [climbR_one H T h1, rootR_one H T h1]
      obtain rfl : i = 0 := by omega
      cases l <;> rfl
    · cases k with
      | zero => omega
      | succ k =>
        have e := climb_prove k (pairsL H T l) (i / 2) (by rw [pairsL_len]; omega) (by rw [pairsL_len]; omega)
        rw [rootR_more H T (by omega), ← e, pairsL_len, pairs_at H T hi]
        cases ha : aloneB l.length i with
        | true => rw [climbR_alone H T (by omega) ha, proveR_more H T (by omega), ha]; rfl
        | false => rw [climbR_two H T (by omega) ha, proveR_more H T (by omega), ha]; rfl
/-- The first row in which two ways have one digest. -/
def commonR (n i : Nat) (x y : List UInt8) (p q : List (List UInt8)) : List UInt8 × List UInt8 :=
  if _h : n ≤ 1 then (x, y) else if H x = H y then (x, y) else if aloneB n i then commonR ((n + 1) / 2) (i / 2) x y p q else
    commonR ((n + 1) / 2) (i / 2) (stepT T i (H x) (p.headD [])) (stepT T i (H y) (q.headD [])) p.tail q.tail
termination_by n
decreasing_by all_goals omega
theorem commonR_one {n i : Nat} {x y : List UInt8} {p q : List (List UInt8)} (h : n ≤ 1) : commonR H T n i x y p q = (x, y) := by unfold commonR; rw [dif_pos h]
theorem commonR_eq {n i : Nat} {x y : List UInt8} {p q : List (List UInt8)} (he : H x = H y) : commonR H T n i x y p q = (x, y) := by
  unfold commonR
  split
  · rfl
  · first | rfl | rw [if_pos he]
theorem commonR_alone {n i : Nat} {x y : List UInt8} {p q : List (List UInt8)} (h : 1 < n) (he : H x ≠ H y) (ha : aloneB n i = true) : commonR H T n i x y p q = commonR H T ((n + 1) / 2) (i / 2) x y p q := by conv => lhs; unfold commonR; rw [dif_neg (by omega), if_neg he, if_pos ha]
theorem commonR_two {n i : Nat} {x y : List UInt8} {p q : List (List UInt8)} (h : 1 < n) (he : H x ≠ H y) (ha : aloneB n i = false) : commonR H T n i x y p q = commonR H T ((n + 1) / 2) (i / 2) (stepT T i (H x) (p.headD [])) (stepT T i (H y) (q.headD [])) p.tail q.tail := by conv => lhs; unfold commonR; rw [dif_neg (by omega), if_neg he, if_neg (by rw [ha]; decide)]
theorem stepT_inj {i : Nat} {a b e f : List UInt8} (ha : a.length = 32) (hb : b.length = 32) (he : e.length = 32) (hf : f.length = 32) (h : stepT T i a e = stepT T i b f) : a = b := by
  unfold stepT nodeT at h
  split at h
  · have h1 := (List.append_inj (List.append_cancel_left h) (by rw [he, hf])).2
    exact h1
  · exact (List.append_inj (List.append_cancel_left h) (by rw [ha, hb])).1
/-- Two different texts at one place, with one root: two different texts with one digest. -/
theorem common_two (hH : ∀ b, (H b).length = 32) : ∀ (k n i : Nat) (x y : List UInt8) (p q : List (List UInt8)), n ≤ k → x ≠ y → (∀ d ∈ p, d.length = 32) → (∀ d ∈ q, d.length = 32) → p.length = lenR n i → q.length = lenR n i → climbR H T n i (H x) p = climbR H T n i (H y) q →
    (commonR H T n i x y p q).1 ≠ (commonR H T n i x y p q).2 ∧ H (commonR H T n i x y p q).1 = H (commonR H T n i x y p q).2
  | k, n, i, x, y, p, q, hk, hxy, hp, hq, lp, lq, hc => by
    by_cases he : H x = H y
    · rw [commonR_eq H T he]; exact ⟨hxy, he⟩
    · by_cases h1 : n ≤ 1
      · rw [climbR_one H T h1, climbR_one H T h1] at hc
        exact absurd hc he
      · cases k with
        | zero => omega
        | succ k =>
          cases ha : aloneB n i with
          | true =>
            rw [climbR_alone H T (by omega) ha, climbR_alone H T (by omega) ha] at hc
            rw [commonR_alone H T (by omega) he ha]
            rw [lenR_more (by omega), ha] at lp lq
            exact common_two hH k ((n + 1) / 2) (i / 2) x y p q (by omega) hxy hp hq (by simpa using lp) (by simpa using lq) hc
          | false =>
            rw [climbR_two H T (by omega) ha, climbR_two H T (by omega) ha] at hc
            rw [commonR_two H T (by omega) he ha]
            rw [lenR_more (by omega), ha] at lp lq
            match p, q, lp, lq with
            | a :: p, b :: q, lp, lq =>
              refine common_two hH k ((n + 1) / 2) (i / 2) _ _ p q (by omega) (fun h => he ?_) (fun d hd => hp d (List.mem_cons_of_mem _ hd)) (fun d hd => hq d (List.mem_cons_of_mem _ hd)) (by simp at lp; omega) (by simp at lq; omega) hc
              exact stepT_inj T (hH _) (hH _) (hp a (List.mem_cons_self ..)) (hq b (List.mem_cons_self ..)) h
            | [], _, lp, _ => simp at lp; omega
            | _ :: _, [], _, lq => simp at lq; omega
theorem pairsL_app : ∀ (k : Nat) (a b : List (List UInt8)), a.length = 2 * k → pairsL H T (a ++ b) = pairsL H T a ++ pairsL H T b
  | 0, a, b, h => by rw [List.length_eq_zero_iff.1 (by omega : a.length = 0)]; rfl
  | k + 1, a, b, h => by
    match a, h with
    | x :: y :: a, h => simp only [List.cons_append, pairsL, pairsL_app k a b (by simp at h; omega)]
    | [_], h => simp at h; omega
    | [], h => simp at h
/-- The root is that of a node of two roots. -/
theorem root_split : ∀ (k : Nat) (a b : List (List UInt8)), a.length = 2 ^ k → 0 < b.length → b.length ≤ 2 ^ k → rootR H T (a ++ b) = H (nodeT T (rootR H T a) (rootR H T b))
  | 0, a, b, ha, hb, hb2 => by
    match a, b, ha, hb, hb2 with
    | [x], [y], _, _, _ =>
      rw [rootR_more H T (by simp), rootR_one H T (l := [x]) (by simp), rootR_one H T (l := [y]) (by simp)]
      exact rootR_one H T (by simp [pairsL])
    | [x], y :: z :: b, _, _, h => simp at h
  | k + 1, a, b, ha, hb, hb2 => by
    rw [Nat.pow_succ] at ha hb2
    rw [rootR_more H T (by rw [List.length_append]; have := Nat.one_le_two_pow (n := k); omega), pairsL_app H T (2 ^ k) a b (by omega),
      root_split k _ _ (by rw [pairsL_len]; omega) (by rw [pairsL_len]; omega) (by rw [pairsL_len]; omega)]
    rw [← rootR_more H T (l := a) (by have := Nat.one_le_two_pow (n := k); omega)]
    by_cases hb1 : b.length ≤ 1
    · match b, hb, hb1 with
      | [x], _, _ => rfl
      | _ :: _ :: _, _, h => simp at h
    · rw [← rootR_more H T (l := b) (by omega)]
end
end Go.Proofs.YthjfeodclphgaaaDoor
