
/- What follows from what the calls answer. -/
import Derived.Test.YtgigccgklahddaaPrf
namespace Go.Proofs.Ytgigccgklahddaa
open Go.RowKit

/-- A disk with one write more. -/
abbrev Dk.plus (d : Dk) (i : Int) (b : List UInt8) : Dk := { d with pen := d.pen ++ [(i, padS b)] }
theorem write_ok {d : Dk} {i : Int} {b : List UInt8} (hr : d.runs = true) (hh : d.has i = true) (hb : b.length ≤ 128) (hp : d.pen.length ≠ 4096) : d.write i b = (d.plus i b, 0) := by
  simp [Dk.write, hr, hh, hp]
  omega
theorem write_no {d : Dk} {i : Int} {b : List UInt8} (h : ¬ (d.runs = true ∧ d.has i = true ∧ b.length ≤ 128 ∧ d.pen.length ≠ 4096)) : ∃ n, d.write i b = (Dk.zero, n) ∧ ((n : Int) != 0) = true := by
  unfold Dk.write
  by_cases h1 : (d.runs && d.has i) = true
  · rw [if_pos h1]
    by_cases h2 : 128 < b.length
    · rw [if_pos h2]; exact ⟨1, rfl, rfl⟩
    · rw [if_neg h2]
      by_cases h3 : d.pen.length = 4096
      · rw [if_pos h3]; exact ⟨2, rfl, rfl⟩
      · simp only [Bool.and_eq_true] at h1
        exact absurd ⟨h1.1, h1.2, by omega, h3⟩ h
  · rw [if_neg h1]; exact ⟨40, rfl, rfl⟩
theorem runs_iff {d : Dk} : d.runs = true ↔ d.stp = false ∧ ((1 ≤ d.sec.length ∧ d.sec.length ≤ 4096) ∧ ∀ i (h : i < d.sec.length), (d.sec[i]).length = 128) ∧ (d.pen.length ≤ 4096 ∧ ∀ i (h : i < d.pen.length), 0 ≤ (d.pen[i]).1 ∧ (d.pen[i]).1 < d.sec.length ∧ (d.pen[i]).2.length = 128) ∧ (-1 ≤ d.left ∧ d.left ≤ 65536) := by
  simp only [Dk.runs, Dk.valid, Bool.and_eq_true, Bool.not_eq_true', decide_eq_true_eq, validSec_iff, validPen_iff]
  constructor
  · rintro ⟨h1, ⟨h2, h3⟩, h4⟩; exact ⟨h1, h2, h3, h4⟩
  · rintro ⟨h1, h2, h3, h4⟩; exact ⟨h1, ⟨h2, h3⟩, h4⟩
theorem dhas_iff {d : Dk} {i : Int} : d.has i = true ↔ 0 ≤ i ∧ i < d.sec.length := by simp [Dk.has]
theorem plus_runs {d : Dk} {i : Int} {b : List UInt8} (hr : d.runs = true) (hh : d.has i = true) (hp : d.pen.length ≠ 4096) : (d.plus i b).runs = true := by
  rw [runs_iff] at hr ⊢
  obtain ⟨h1, h2, ⟨h3, h4⟩, h5⟩ := hr
  obtain ⟨q1, q2⟩ := dhas_iff.1 hh
  refine ⟨h1, h2, ⟨by simp; omega, fun j hj => ?_⟩, h5⟩
  by_cases he : j < d.pen.length
  · simp only [List.getElem_append_left he]; exact h4 j he
  · have : j = d.pen.length := by simp at hj; omega
    subst this
    simp
    exact ⟨q1, q2, padS_len b⟩
theorem lastW_more (i : Int) (s : List UInt8) (p : List (Int × List UInt8)) (x : Int × List UInt8) : lastW i s (p ++ [x]) = if x.1 = i then x.2 else lastW i s p := by
  unfold lastW
  rw [List.foldl_append]
  rfl
theorem read_ok' {d : Dk} {i : Int} (hr : d.runs = true) (hh : d.has i = true) : d.read i = (lastW i (d.sec.getD i.toNat []) d.pen, 0) := by simp [Dk.read, hr, hh]
theorem read_no {d : Dk} {i : Int} (h : (d.runs && d.has i) = false) : d.read i = ([], 40) := by simp [Dk.read, h]
/-- What is performed is what was written last. -/
theorem perf_get {p : List (Int × List UInt8)} : ∀ {s : List (List UInt8)} (k : Nat), (∀ x ∈ p, 0 ≤ x.1) → k < s.length → (perf s p).getD k [] = lastW k (s.getD k []) p := by
  induction p with
  | nil => intro s k _ _; rfl
  | cons x p ih =>
    intro s k h hk
    have h1 := ih (s := s.set x.1.toNat x.2) k (fun y hy => h y (by simp [hy])) (by rw [List.length_set]; exact hk)
    have e1 : perf s (x :: p) = perf (s.set x.1.toNat x.2) p := rfl
    have e2 : lastW k (s.getD k []) (x :: p) = lastW k (if x.1 = k then x.2 else s.getD k []) p := rfl
    rw [e1, h1, e2]
    congr 1
    have h0 := h x (by simp)
    rw [List.getD_eq_getElem?_getD, List.getD_eq_getElem?_getD, List.getElem?_set]
    by_cases he : x.1 = k
    · have : x.1.toNat = k := by omega
      simp [he, hk]
    · have : x.1.toNat ≠ k := by omega
      simp [he, this]
theorem sync_not {d : Dk} (hr : d.runs = true) (h : d.left ≠ -1 ∧ d.left < d.pen.length) : d.sync = (⟨tornS (perf d.sec (d.pen.take d.left.toNat)) (d.pen.getD d.left.toNat (0, [])), [], 0, true⟩, 40) := by
  unfold Dk.sync
  rw [if_pos hr, if_neg h.1, if_neg (by omega)]
theorem sync_all {d : Dk} (hr : d.runs = true) (h : d.left = -1 ∨ (d.pen.length : Int) ≤ d.left) : d.sync = (⟨perf d.sec d.pen, [], if d.left = -1 then -1 else d.left - d.pen.length, false⟩, 0) := by
  unfold Dk.sync
  rw [if_pos hr]
  by_cases h1 : d.left = -1
  · rw [if_pos h1, if_pos h1]
  · rw [if_neg h1, if_neg h1, if_pos (by omega)]
theorem perf_valid {s : List (List UInt8)} {p : List (Int × List UInt8)} (hs : ∀ i (h : i < s.length), (s[i]).length = 128) (hp : ∀ i (h : i < p.length), (p[i]).2.length = 128) : ∀ i (h : i < (perf s p).length), ((perf s p)[i]).length = 128 := by
  have key : ∀ (p : List (Int × List UInt8)) (s : List (List UInt8)), (∀ x ∈ s, x.length = 128) → (∀ x ∈ p, x.2.length = 128) → ∀ x ∈ perf s p, x.length = 128 := by
    intro p
    induction p with
    | nil => intro s h _; exact h
    | cons y p ih =>
      intro s h h2
      refine ih (s.set y.1.toNat y.2) (fun x hx => ?_) (fun x hx => h2 x (by simp [hx]))
      rcases List.mem_or_eq_of_mem_set hx with hx | rfl
      · exact h x hx
      · exact h2 y (by simp)
  intro i h
  refine key p s (fun x hx => ?_) (fun x hx => ?_) _ (List.getElem_mem h)
  · obtain ⟨j, hj, rfl⟩ := List.getElem_of_mem hx; exact hs j hj
  · obtain ⟨j, hj, rfl⟩ := List.getElem_of_mem hx; exact hp j hj
theorem sync_runs {d : Dk} (hr : d.runs = true) (h : d.left = -1 ∨ (d.pen.length : Int) ≤ d.left) : d.sync.1.runs = true := by
  rw [sync_all hr h]
  obtain ⟨h1, ⟨h2, h3⟩, ⟨h4, h5⟩, h6⟩ := runs_iff.1 hr
  refine runs_iff.2 ⟨rfl, ⟨?_, perf_valid h3 fun i h => (h5 i h).2.2⟩, ⟨Nat.zero_le _, fun i h => (by cases h)⟩, ?_⟩
  · simp only [perf_len]; exact h2
  · show -1 ≤ (if d.left = -1 then -1 else d.left - d.pen.length) ∧ (if d.left = -1 then -1 else d.left - d.pen.length) ≤ 65536
    split <;> omega
end Go.Proofs.Ytgigccgklahddaa
