/- Trees, paths and climbs of lists of digests, in plain words. -/
import Derived.Test.YtnopibpakchejaaDoorHalf
namespace Go.Proofs.YtnopibpakchejaaDoor

/-- All are digests. -/
def D32 (l : List (List UInt8)) : Prop := ∀ d ∈ l, d.length = 32
theorem D32.take {l : List (List UInt8)} (h : D32 l) (k : Nat) : D32 (l.take k) := fun d hd => h d (List.mem_of_mem_take hd)
theorem D32.drop {l : List (List UInt8)} (h : D32 l) (k : Nat) : D32 (l.drop k) := fun d hd => h d (List.mem_of_mem_drop hd)
theorem D32.append {l m : List (List UInt8)} (h : D32 l) (k : D32 m) : D32 (l ++ m) := fun d hd => (List.mem_append.1 hd).elim (h d) (k d)
theorem D32.one {d : List UInt8} (h : d.length = 32) : D32 [d] := fun x hx => by rw [List.mem_singleton.1 hx]; exact h
theorem D32.nil : D32 [] := fun x hx => by cases hx
theorem D32.flat {l : List (List UInt8)} (h : D32 l) : l.flatten.length = 32 * l.length := by
  induction l with
  | nil => rfl
  | cons d l ih =>
    rw [List.flatten_cons, List.length_append, h d List.mem_cons_self, ih fun x hx => h x (List.mem_cons_of_mem _ hx), List.length_cons]
    omega
theorem D32.flat_take {l : List (List UInt8)} (h : D32 l) (k : Nat) : (l.take k).flatten = l.flatten.take (32 * k) := by
  induction l generalizing k with
  | nil => simp
  | cons d l ih =>
    have hd := h d List.mem_cons_self
    cases k with
    | zero => simp
    | succ k =>
      rw [List.take_succ_cons, List.flatten_cons, List.flatten_cons, ih (fun x hx => h x (List.mem_cons_of_mem _ hx)), List.take_append, hd, List.take_of_length_le (l := d) (by omega)]
      congr 2
theorem D32.flat_drop {l : List (List UInt8)} (h : D32 l) (k : Nat) : (l.drop k).flatten = l.flatten.drop (32 * k) := by
  induction l generalizing k with
  | nil => simp
  | cons d l ih =>
    have hd := h d List.mem_cons_self
    cases k with
    | zero => simp
    | succ k =>
      rw [List.drop_succ_cons, List.flatten_cons, ih (fun x hx => h x (List.mem_cons_of_mem _ hx)), List.drop_append, hd, List.drop_of_length_le (l := d) (by omega), List.nil_append]
      congr 1

/-- The digest of a list. -/
def treeL (l : List (List UInt8)) : List UInt8 :=
  if _h : l.length ≤ 1 then (match l with | [] => tagd tEmpty [] | d :: _ => tagd tLeaf d)
  else tagd tNode (treeL (l.take (hp l.length)) ++ treeL (l.drop (hp l.length)))
termination_by l.length
decreasing_by
  · have := hp_lt (n := l.length) (by omega); simp; omega
  · have := hp_pos l.length; simp; omega
theorem treeL_nil : treeL [] = tagd tEmpty [] := by rw [treeL]; simp
theorem treeL_one (d : List UInt8) : treeL [d] = tagd tLeaf d := by rw [treeL]; simp
theorem treeL_more {l : List (List UInt8)} (h : 2 ≤ l.length) : treeL l = tagd tNode (treeL (l.take (hp l.length)) ++ treeL (l.drop (hp l.length))) := by
  rw [treeL, dif_neg (by omega)]
theorem treeL_len (l : List (List UInt8)) : (treeL l).length = 32 := by
  match l with
  | [] => rw [treeL_nil]; exact tagd_len _ _
  | [d] => rw [treeL_one]; exact tagd_len _ _
  | a :: b :: l => rw [treeL_more (by simp)]; exact tagd_len _ _

/-- The path of an element: from the leaf up. -/
def pathL (l : List (List UInt8)) (at' : Nat) : List (List UInt8) :=
  if _h : l.length ≤ 1 then []
  else if at' < hp l.length then pathL (l.take (hp l.length)) at' ++ [treeL (l.drop (hp l.length))]
  else pathL (l.drop (hp l.length)) (at' - hp l.length) ++ [treeL (l.take (hp l.length))]
termination_by l.length
decreasing_by
  · have := hp_lt (n := l.length) (by omega); simp; omega
  · have := hp_pos l.length; simp; omega
theorem pathL_one {l : List (List UInt8)} (h : l.length ≤ 1) (k : Nat) : pathL l k = [] := by rw [pathL, dif_pos h]
theorem pathL_left {l : List (List UInt8)} (h : 2 ≤ l.length) {k : Nat} (hk : k < hp l.length) : pathL l k = pathL (l.take (hp l.length)) k ++ [treeL (l.drop (hp l.length))] := by
  rw [pathL, dif_neg (by omega), if_pos hk]
theorem pathL_right {l : List (List UInt8)} (h : 2 ≤ l.length) {k : Nat} (hk : hp l.length ≤ k) : pathL l k = pathL (l.drop (hp l.length)) (k - hp l.length) ++ [treeL (l.take (hp l.length))] := by
  rw [pathL, dif_neg (by omega), if_neg (by omega)]

/-- How many steps an index has. -/
def stepsL (at' n : Nat) : Nat :=
  if _h : n ≤ 1 then 0
  else if at' < hp n then 1 + stepsL at' (hp n) else 1 + stepsL (at' - hp n) (n - hp n)
termination_by n
decreasing_by
  · exact hp_lt (by omega)
  · have := hp_pos n; omega
theorem stepsL_one {n : Nat} (h : n ≤ 1) (k : Nat) : stepsL k n = 0 := by rw [stepsL, dif_pos h]
theorem stepsL_left {n : Nat} (h : 2 ≤ n) {k : Nat} (hk : k < hp n) : stepsL k n = 1 + stepsL k (hp n) := by rw [stepsL, dif_neg (by omega), if_pos hk]
theorem stepsL_right {n : Nat} (h : 2 ≤ n) {k : Nat} (hk : hp n ≤ k) : stepsL k n = 1 + stepsL (k - hp n) (n - hp n) := by rw [stepsL, dif_neg (by omega), if_neg (by omega)]

theorem path_steps (n : Nat) : ∀ (l : List (List UInt8)) (k : Nat), l.length = n → (pathL l k).length = stepsL k n := by
  induction n using Nat.strongRecOn with
  | _ n ih =>
    intro l k hl
    by_cases h : n ≤ 1
    · rw [pathL_one (by omega), stepsL_one h]; rfl
    · have h2 := hp_lt (n := n) (by omega)
      have h1 := hp_pos n
      by_cases hk : k < hp n
      · rw [pathL_left (by omega) (by rw [hl]; exact hk), stepsL_left (by omega) hk, List.length_append, hl, ih (hp n) h2 _ k (by simp; omega)]
        simp; omega
      · rw [pathL_right (by omega) (by rw [hl]; omega), stepsL_right (by omega) (by omega), List.length_append, hl, ih (n - hp n) (by omega) _ (k - hp n) (by simp; omega)]
        simp; omega
theorem path_d32 (n : Nat) : ∀ (l : List (List UInt8)) (k : Nat), l.length = n → D32 (pathL l k) := by
  induction n using Nat.strongRecOn with
  | _ n ih =>
    intro l k hl
    by_cases h : n ≤ 1
    · rw [pathL_one (by omega)]; exact D32.nil
    · have h2 := hp_lt (n := n) (by omega)
      have h1 := hp_pos n
      by_cases hk : k < hp n
      · rw [pathL_left (by omega) (by rw [hl]; exact hk)]
        rw [hl]
        exact (ih (hp n) h2 _ k (by simp; omega)).append (D32.one (treeL_len _))
      · rw [pathL_right (by omega) (by rw [hl]; omega)]
        rw [hl]
        exact (ih (n - hp n) (by omega) _ (k - hp n) (by simp; omega)).append (D32.one (treeL_len _))

/-- The digest to which a path leads. -/
def climbL (d : List UInt8) (at' n : Nat) (p : List (List UInt8)) : List UInt8 :=
  if _h : n ≤ 1 then tagd tLeaf d
  else if at' < hp n then tagd tNode (climbL d at' (hp n) p.dropLast ++ p.getLastD []) else tagd tNode (p.getLastD [] ++ climbL d (at' - hp n) (n - hp n) p.dropLast)
termination_by n
decreasing_by
  · exact hp_lt (by omega)
  · have := hp_pos n; omega
theorem climbL_one {n : Nat} (h : n ≤ 1) (d : List UInt8) (k : Nat) (p : List (List UInt8)) : climbL d k n p = tagd tLeaf d := by rw [climbL, dif_pos h]
theorem climbL_left {n : Nat} (h : 2 ≤ n) {k : Nat} (hk : k < hp n) (d : List UInt8) (p : List (List UInt8)) : climbL d k n p = tagd tNode (climbL d k (hp n) p.dropLast ++ p.getLastD []) := by rw [climbL, dif_neg (by omega), if_pos hk]
theorem climbL_right {n : Nat} (h : 2 ≤ n) {k : Nat} (hk : hp n ≤ k) (d : List UInt8) (p : List (List UInt8)) : climbL d k n p = tagd tNode (p.getLastD [] ++ climbL d (k - hp n) (n - hp n) p.dropLast) := by rw [climbL, dif_neg (by omega), if_neg (by omega)]
theorem climbL_len (d : List UInt8) (k n : Nat) (p : List (List UInt8)) : (climbL d k n p).length = 32 := by
  by_cases h : n ≤ 1
  · rw [climbL_one h]; exact tagd_len _ _
  · by_cases hk : k < hp n
    · rw [climbL_left (by omega) hk]; exact tagd_len _ _
    · rw [climbL_right (by omega) (by omega)]; exact tagd_len _ _

/-- Climbing the path of an element leads to the digest of the list. -/
theorem climb_path (n : Nat) : ∀ (l : List (List UInt8)) (k : Nat) (h : k < l.length), l.length = n → climbL l[k] k n (pathL l k) = treeL l := by
  induction n using Nat.strongRecOn with
  | _ n ih =>
    intro l k hk hl
    by_cases h : n ≤ 1
    · rw [climbL_one h]
      match l, hk with
      | [d], hk =>
        have : k = 0 := by simp at hk; omega
        subst this
        rw [treeL_one]; rfl
      | a :: b :: l, _ => simp at hl; omega
    · have h2 := hp_lt (n := n) (by omega)
      have h1 := hp_pos n
      rw [treeL_more (by omega)]
      by_cases hkh : k < hp n
      · rw [pathL_left (by omega) (by rw [hl]; exact hkh), climbL_left (by omega) hkh, List.dropLast_concat, List.getLastD_concat, hl]
        have := ih (hp n) h2 (l.take (hp n)) k (by simp; omega) (by simp; omega)
        rw [← this]
        simp
      · rw [pathL_right (by omega) (by rw [hl]; omega), climbL_right (by omega) (by omega), List.dropLast_concat, List.getLastD_concat, hl]
        have := ih (n - hp n) (by omega) (l.drop (hp n)) (k - hp n) (by simp; omega) (by simp; omega)
        rw [← this]
        simp only [List.getElem_drop]
        congr 5
        omega
end Go.Proofs.YtnopibpakchejaaDoor
