/- What is read of sectors, step by step (pure). -/
import Derived.Test.YtgigccgklahddaaRop
import Derived.Test.YtgigccgklahddaaVal
import Derived.Test.YtgigccgklahddaaGen
import Derived.Test.YtgigccgklahddaaPur
import Derived.Test.YtgigccgklahddaaSan
namespace Go.Proofs.Ytgigccgklahddaa
open Go.RowKit

/-- From a sector on, behind a generation, these records are read; the reading has come to a sector and a generation. -/
inductive Reads (ss : List (List UInt8)) : Nat → Nat → List (List UInt8) → Nat → Nat → Prop where
  | nil (k g : Nat) : Reads ss k g [] k g
  | cons {k g h k' g' : Nat} {b : List UInt8} {r : List (List UInt8)} (hb : recB ss k = some (b, h)) (hg : g ≤ h) (hr : Reads ss (k + secN b.length) h r k' g') : Reads ss k g (b :: r) k' g'
/-- The reading ends here. -/
def Stops (ss : List (List UInt8)) (k g : Nat) : Prop := ∀ b h, recB ss k = some (b, h) → h < g
theorem Reads.at {ss : List (List UInt8)} {k g k' g' : Nat} {r : List (List UInt8)} (h : Reads ss k g r k' g') : k' = k + usedB r ∧ g ≤ g' := by
  induction h with
  | nil k g => exact ⟨by rw [show usedB [] = 0 from usedB_nil]; rfl, Nat.le_refl _⟩
  | cons hb hg hr ih =>
    rename_i b r
    refine ⟨?_, Nat.le_trans hg ih.2⟩
    rw [ih.1, show b :: r = [b] ++ r from rfl, usedB_app, usedB_one]
    omega
theorem Reads.app {ss : List (List UInt8)} {k g k1 g1 k2 g2 : Nat} {r s : List (List UInt8)} (h : Reads ss k g r k1 g1) (h2 : Reads ss k1 g1 s k2 g2) : Reads ss k g (r ++ s) k2 g2 := by
  induction h with
  | nil k g => exact h2
  | cons hb hg hr ih => exact .cons hb hg (ih h2)
theorem recsFrom_reads {ss : List (List UInt8)} (hL : ∀ s ∈ ss, s.length = 128) : ∀ (f k g : Nat), ss.length ≤ k + f → ∃ k' g', Reads ss k g (recsFrom ss f k g) k' g' ∧ Stops ss k' g'
  | 0, k, g, h => ⟨k, g, .nil k g, fun b h' hb => by rw [recB_end (by omega)] at hb; cases hb⟩
  | f + 1, k, g, h => by
    unfold recsFrom
    by_cases hk : k < ss.length
    · rw [if_pos hk]
      cases hx : recB ss k with
      | none => exact ⟨k, g, .nil k g, fun b h' hb => by rw [hx] at hb; cases hb⟩
      | some y =>
        obtain ⟨b, h'⟩ := y
        simp only
        by_cases hlt : h' < g
        · rw [if_pos hlt]
          exact ⟨k, g, .nil k g, fun b2 h2 hb => by rw [hx] at hb; injection hb with hb; injection hb with _ hb; omega⟩
        · rw [if_neg hlt]
          have hp := secN_pos b.length
          obtain ⟨k', g', h1, h2⟩ := recsFrom_reads hL f (k + secN b.length) h' (by omega)
          exact ⟨k', g', .cons hx (by omega) h1, h2⟩
    · rw [if_neg hk]
      exact ⟨k, g, .nil k g, fun b h' hb => by rw [recB_end (by omega)] at hb; cases hb⟩
/-- What is read is what recordsB says. -/
theorem recordsB_reads {ss : List (List UInt8)} (hL : ∀ s ∈ ss, s.length = 128) : ∃ g', Reads ss 0 0 (recordsB ss) (usedB (recordsB ss)) g' ∧ Stops ss (usedB (recordsB ss)) g' := by
  obtain ⟨k', g', h1, h2⟩ := recsFrom_reads hL ss.length 0 0 (by omega)
  have := h1.at.1
  rw [Nat.zero_add] at this
  subst this
  exact ⟨g', h1, h2⟩
theorem reads_recsFrom {ss : List (List UInt8)} (hL : ∀ s ∈ ss, s.length = 128) {k g k' g' : Nat} {r : List (List UInt8)} (h : Reads ss k g r k' g') (hs : Stops ss k' g') : ∀ f, ss.length ≤ k + f → recsFrom ss f k g = r := by
  induction h with
  | nil k g =>
    intro f hf
    cases f with
    | zero => rfl
    | succ f =>
      unfold recsFrom
      split
      · cases hx : recB ss k with
        | none => rfl
        | some y =>
          obtain ⟨b, h'⟩ := y
          simp only
          rw [if_pos (hs b h' hx)]
      · rfl
  | cons hb hg hr ih =>
    rename_i k g h k' g' b r
    intro f hf
    have hk : k < ss.length := by
      rcases Nat.lt_or_ge k ss.length with h | h
      · exact h
      · rw [recB_end h] at hb; cases hb
    have hfit := rec_fits hL hb
    have hp := secN_pos b.length
    cases f with
    | zero => omega
    | succ f =>
      unfold recsFrom
      rw [if_pos hk, hb]
      simp only
      rw [if_neg (by omega), ih hs f (by omega)]
theorem reads_recordsB {ss : List (List UInt8)} (hL : ∀ s ∈ ss, s.length = 128) {k' g' : Nat} {r : List (List UInt8)} (h : Reads ss 0 0 r k' g') (hs : Stops ss k' g') : recordsB ss = r :=
  reads_recsFrom hL h hs ss.length (by omega)
/-- The same sectors are continued alike. -/
theorem cont_agree {ss tt : List (List UInt8)} (hL : ∀ s ∈ ss, s.length = 128) (g : Nat) : ∀ (f k m : Nat) (acc : List UInt8) {b : List UInt8}, acc.length = 112 * m → contB ss g f k acc = some b → (∀ i, k ≤ i → i + m < k + secN b.length → tt.getD i [] = ss.getD i []) → contB tt g f k acc = some b
  | 0, k, m, acc, b, _, h, _ => by cases h
  | f + 1, k, m, acc, b, ha, h, hag => by
    have hN : m < secN b.length := by
      unfold contB at h
      cases hq : readB (ss.getD k []) k with
      | none => rw [hq] at h; cases h
      | some q =>
        rw [hq] at h
        obtain ⟨f1, f2, f3⟩ := read_facts hq (read_len hL hq)
        simp only at h
        split at h
        · cases h
        · next hc =>
          have hb : q.begins ≠ true := fun e => hc (.inl e)
          have h0 := f3.resolve_left hb
          have hlen : 112 * m + 1 ≤ b.length := by
            split at h
            · injection h with h
              subst h
              rw [List.length_append]; omega
            · have := cont_ge h
              rw [List.length_append] at this
              omega
          unfold secN
          omega
    unfold contB at h ⊢
    rw [hag k (Nat.le_refl _) (by omega)]
    cases hq : readB (ss.getD k []) k with
    | none => rw [hq] at h; cases h
    | some q =>
      rw [hq] at h
      obtain ⟨f1, f2, f3⟩ := read_facts hq (read_len hL hq)
      simp only at h ⊢
      split at h
      · cases h
      · next hc =>
        rw [if_neg hc]
        split at h
        · next he => rw [if_pos he]; exact h
        · next he =>
          rw [if_neg he]
          exact cont_agree hL g f (k + 1) (m + 1) (acc ++ q.data) (by rw [List.length_append, ha, f2.resolve_left he]; omega) h (fun i h1 h2 => hag i (by omega) (by omega))
where
  cont_ge {ss : List (List UInt8)} {g : Nat} : ∀ {f k : Nat} {acc b : List UInt8}, contB ss g f k acc = some b → acc.length ≤ b.length
    | 0, _, _, _, h => by cases h
    | f + 1, k, acc, b, h => by
      unfold contB at h
      split at h
      · cases h
      · split at h
        · cases h
        · split at h
          · injection h with h
            subst h
            rw [List.length_append]; omega
          · have := cont_ge h
            rw [List.length_append] at this
            omega
theorem rec_agree {ss tt : List (List UInt8)} (hL : ∀ s ∈ ss, s.length = 128) (hlen : tt.length = ss.length) {k g : Nat} {b : List UInt8} (h : recB ss k = some (b, g)) (hag : ∀ i, k ≤ i → i < k + secN b.length → tt.getD i [] = ss.getD i []) : recB tt k = some (b, g) := by
  have hp := secN_pos b.length
  unfold recB at h ⊢
  rw [hag k (Nat.le_refl _) (by omega), hlen]
  cases hq : readB (ss.getD k []) k with
  | none => rw [hq] at h; cases h
  | some p =>
    rw [hq] at h
    obtain ⟨f1, f2, f3⟩ := read_facts hq (read_len hL hq)
    simp only at h ⊢
    split at h
    · cases h
    · next hb =>
      rw [if_neg hb]
      split at h
      · next he => rw [if_pos he]; exact h
      · next he =>
        rw [if_neg he]
        cases hc : contB ss p.gen (ss.length - (k + 1)) (k + 1) p.data with
        | none => rw [hc] at h; cases h
        | some b2 =>
          rw [hc] at h
          injection h with h
          injection h with h1 h2
          subst h1 h2
          rw [cont_agree hL p.gen _ (k + 1) 1 p.data (by rw [f2.resolve_left he]) hc (fun i h1 h2 => hag i (by omega) (by omega))]
          rfl
theorem Reads.agree {ss tt : List (List UInt8)} (hL : ∀ s ∈ ss, s.length = 128) (hlen : tt.length = ss.length) {k g k' g' : Nat} {r : List (List UInt8)} (h : Reads ss k g r k' g') (hag : ∀ i, k ≤ i → i < k' → tt.getD i [] = ss.getD i []) : Reads tt k g r k' g' := by
  induction h with
  | nil k g => exact .nil k g
  | cons hb hg hr ih =>
    rename_i k g h k' g' b r
    have h1 := hr.at.1
    exact .cons (rec_agree hL hlen hb (fun i h2 h3 => hag i h2 (by omega))) hg (ih (fun i h2 h3 => hag i (by omega) h3))
end Go.Proofs.Ytgigccgklahddaa

/- What is read of sectors that were written (pure). -/
namespace Go.Proofs.Ytgigccgklahddaa
open Go.RowKit

theorem pieces_get (b : List UInt8) {i : Nat} (h : i < (piecesB b).length) : (piecesB b)[i] = (decide (i = 0), decide (i + 1 = secN b.length), (b.drop (112 * i)).take 112) := by
  have e : (piecesB b)[i]? = some (decide (i = 0), decide (i + 1 = secN b.length), (b.drop (112 * i)).take 112) := by
    rw [piecesB_len] at h
    unfold piecesB
    rw [List.getElem?_map, List.getElem?_range h]
    rfl
  rw [List.getElem?_eq_getElem h] at e
  injection e
theorem secN_ge (n : Nat) : n ≤ 112 * secN n ∧ (1 < secN n → 112 * (secN n - 1) < n) := by unfold secN; omega
/-- A piece is read as it was written. -/
theorem read_piece (b : List UInt8) {i g k : Nat} (hi : i < secN b.length) (hg : 0 < g) (hg2 : g < 4294967296) :
    readB (secB (decide (i = 0)) (decide (i + 1 = secN b.length)) ((b.drop (112 * i)).take 112) k g) k = some ⟨decide (i = 0), decide (i + 1 = secN b.length), (b.drop (112 * i)).take 112, g⟩ := by
  have hs := secN_ge b.length
  refine read_sec (by rw [List.length_take]; omega) hg hg2 ?_ ?_
  · by_cases h : i + 1 = secN b.length
    · exact .inl (decide_eq_true h)
    · right
      have := hs.2 (by omega)
      have h3 : 112 * (i + 1) ≤ 112 * (secN b.length - 1) := Nat.mul_le_mul_left _ (by omega)
      rw [List.length_take, List.length_drop]
      omega
  · by_cases h : i = 0
    · exact .inl (decide_eq_true h)
    · right
      have := hs.2 (by omega)
      have h3 : 112 * i ≤ 112 * (secN b.length - 1) := Nat.mul_le_mul_left _ (by omega)
      rw [List.length_take, List.length_drop]
      omega
/-- The sectors from k on hold the pieces of a record. -/
def Holds (tt : List (List UInt8)) (k g : Nat) (ps : List (Bool × Bool × List UInt8)) : Prop := ∀ i (h : i < ps.length), tt.getD (k + i) [] = secB (ps[i]).1 (ps[i]).2.1 (ps[i]).2.2 (k + i) g
theorem Holds.left {tt : List (List UInt8)} {k g : Nat} {a b : List (Bool × Bool × List UInt8)} (h : Holds tt k g (a ++ b)) : Holds tt k g a := fun i hi => by
  have := h i (by rw [List.length_append]; omega)
  rwa [List.getElem_append_left hi] at this
theorem Holds.right {tt : List (List UInt8)} {k g : Nat} {a b : List (Bool × Bool × List UInt8)} (h : Holds tt k g (a ++ b)) : Holds tt (k + a.length) g b := fun i hi => by
  have := h (a.length + i) (by rw [List.length_append]; omega)
  rw [List.getElem_append_right (by omega)] at this
  simp only [Nat.add_sub_cancel_left] at this
  rwa [Nat.add_assoc]
theorem take_step (b : List UInt8) (m : Nat) : b.take (112 * m) ++ (b.drop (112 * m)).take 112 = b.take (112 * (m + 1)) := by
  rw [show 112 * (m + 1) = 112 * m + 112 by omega, List.take_add]
section
variable {tt : List (List UInt8)} {k g : Nat} {b : List UInt8}
theorem Holds.read (h : Holds tt k g (piecesB b)) (hg : 0 < g) (hg2 : g < 4294967296) {i : Nat} (hi : i < secN b.length) : readB (tt.getD (k + i) []) (k + i) = some ⟨decide (i = 0), decide (i + 1 = secN b.length), (b.drop (112 * i)).take 112, g⟩ := by
  have hi' : i < (piecesB b).length := by rw [piecesB_len]; exact hi
  rw [h i hi', pieces_get b hi']
  exact read_piece b hi hg hg2
theorem cont_written (h : Holds tt k g (piecesB b)) (hg : 0 < g) (hg2 : g < 4294967296) : ∀ (f m : Nat), 1 ≤ m → m < secN b.length → secN b.length ≤ m + f → contB tt g f (k + m) (b.take (112 * m)) = some b
  | 0, m, _, h1, h2 => by omega
  | f + 1, m, h0, h1, h2 => by
    unfold contB
    rw [h.read hg hg2 h1]
    simp only
    have hm0 : decide (m = 0) = false := decide_eq_false (by omega)
    rw [hm0, if_neg (by simp), take_step]
    by_cases hl : m + 1 = secN b.length
    · rw [if_pos (decide_eq_true hl), List.take_of_length_le (by rw [hl]; exact (secN_ge b.length).1)]
    · rw [if_neg (by simp [hl]), Nat.add_assoc]
      exact cont_written h hg hg2 f (m + 1) (by omega) (by omega) (by omega)
/-- A record that was written is read. -/
theorem rec_written (h : Holds tt k g (piecesB b)) (hg : 0 < g) (hg2 : g < 4294967296) (hk : k + secN b.length ≤ tt.length) : recB tt k = some (b, g) := by
  have hp := secN_pos b.length
  have h0 := h.read hg hg2 (i := 0) hp
  rw [Nat.add_zero] at h0
  unfold recB
  rw [h0]
  simp only [decide_true]
  rw [if_neg (by decide)]
  by_cases hl : 0 + 1 = secN b.length
  · rw [if_pos (decide_eq_true hl)]
    congr 2
    rw [Nat.mul_zero, List.drop_zero, List.take_of_length_le]
    have := (secN_ge b.length).1
    omega
  · rw [if_neg (by simp; omega)]
    have := cont_written h hg hg2 (tt.length - (k + 1)) 1 (Nat.le_refl _) (by omega) (by omega)
    rw [show (b.drop (112 * 0)).take 112 = b.take (112 * 1) by rw [Nat.mul_zero, List.drop_zero, Nat.mul_one], this]
    rfl
/-- A record whose writing was broken off is not read. -/
theorem rec_broken {t : Nat} (h : ∀ i, i < t → ∀ (hi : i < (piecesB b).length), tt.getD (k + i) [] = secB ((piecesB b)[i]).1 ((piecesB b)[i]).2.1 ((piecesB b)[i]).2.2 (k + i) g) (ht : t < secN b.length) (hg : 0 < g) (hg2 : g < 4294967296) (hbad : readB (tt.getD (k + t) []) (k + t) = none) : recB tt k = none := by
  have hread : ∀ i, i < t → readB (tt.getD (k + i) []) (k + i) = some ⟨decide (i = 0), decide (i + 1 = secN b.length), (b.drop (112 * i)).take 112, g⟩ := fun i hi => by
    have hi' : i < (piecesB b).length := by rw [piecesB_len]; omega
    rw [h i hi hi', pieces_get b hi']
    exact read_piece b (by omega) hg hg2
  have hcont : ∀ (f m : Nat) (acc : List UInt8), 1 ≤ m → m ≤ t → contB tt g f (k + m) acc = none := by
    intro f
    induction f with
    | zero => intro m acc _ _; rfl
    | succ f ih =>
      intro m acc h1 h2
      unfold contB
      by_cases hm : m = t
      · subst hm
        rw [hbad]
      · rw [hread m (by omega)]
        simp only
        rw [decide_eq_false (show ¬ m = 0 by omega), if_neg (by simp), if_neg (by simp; omega), Nat.add_assoc]
        exact ih (m + 1) _ (by omega) (by omega)
  by_cases h0 : t = 0
  · subst h0
    rw [Nat.add_zero] at hbad
    exact rec_start_no hbad
  · have hr := hread 0 (by omega)
    rw [Nat.add_zero] at hr
    unfold recB
    rw [hr]
    simp only [decide_true]
    rw [if_neg (by decide), if_neg (by simp; omega), hcont _ 1 _ (Nat.le_refl _) (by omega)]
    rfl
end
/-- Records that were written are read. -/
theorem reads_written {tt : List (List UInt8)} {g : Nat} (hg : 0 < g) (hg2 : g < 4294967296) : ∀ (r : List (List UInt8)) (k h : Nat), Holds tt k g (r.flatMap piecesB) → k + usedB r ≤ tt.length → h ≤ g → ∃ g', Reads tt k h r (k + usedB r) g' ∧ (r ≠ [] → g' = g) ∧ h ≤ g' ∧ g' ≤ g
  | [], k, h, _, _, hh => ⟨h, by rw [show usedB [] = 0 from usedB_nil]; exact .nil k h, fun e => absurd rfl e, Nat.le_refl _, hh⟩
  | b :: r, k, h, hH, hk, hh => by
    have hu : usedB (b :: r) = secN b.length + usedB r := by rw [show b :: r = [b] ++ r from rfl, usedB_app, usedB_one]
    rw [hu] at hk ⊢
    rw [List.flatMap_cons] at hH
    have h2 := hH.right
    rw [piecesB_len] at h2
    obtain ⟨g', h3, h4, h5, h6⟩ := reads_written hg hg2 r (k + secN b.length) g h2 (by omega) (Nat.le_refl _)
    have hgg : g' = g := by omega
    subst hgg
    refine ⟨g', .cons (rec_written hH.left hg hg2 (by omega)) hh (by rw [← Nat.add_assoc]; exact h3), fun _ => rfl, hh, Nat.le_refl _⟩
end Go.Proofs.Ytgigccgklahddaa

/- What is read after a Sync, whole or broken off (pure). -/
namespace Go.Proofs.Ytgigccgklahddaa
open Go.RowKit

theorem genA_sec {bg en : Bool} {l : List UInt8} {k g : Nat} (hg : g < 4294967296) : genA (secB bg en l k g) = g := by
  obtain ⟨c0, c1, c2, c3, hs⟩ := secB_cons bg en l k g
  unfold genA
  rw [hs]
  exact n4_b4 hg
theorem getD_drop (l : List UInt8) (a i : Nat) : (l.drop a).getD i 0 = l.getD (a + i) 0 := by
  rw [List.getD_eq_getElem?_getD, List.getD_eq_getElem?_getD, List.getElem?_drop]
theorem genZ_drop (s : List UInt8) : genZ s = genA (s.drop 124) := by
  unfold genZ genA
  simp only [getD_drop]
theorem sec_drop {bg en : Bool} {l : List UInt8} {k g : Nat} (hl : l.length ≤ 112) : (secB bg en l k g).drop 124 = b4 g := by
  unfold secB
  rw [← List.append_assoc, ← List.append_assoc, List.drop_append_of_le_length (by simp only [List.length_append, bodyB_len hl, b4_len]; omega), List.drop_of_length_le (by simp only [List.length_append, bodyB_len hl, b4_len]; omega), List.nil_append]
theorem genZ_sec {bg en : Bool} {l : List UInt8} {k g : Nat} (hl : l.length ≤ 112) (hg : g < 4294967296) : genZ (secB bg en l k g) = g := by
  rw [genZ_drop, sec_drop hl]
  exact n4_b4 hg
theorem read_gen {s : List UInt8} {k : Nat} {p : Piece} (h : readB s k = some p) : p.gen = genA s := by
  unfold readB at h
  simp only at h
  split at h
  · injection h with h
    subst h
    rfl
  · cases h
theorem read_sec_eq {s : List UInt8} {k : Nat} {p : Piece} (h : readB s k = some p) : secB p.begins p.ends p.data k p.gen = s := by
  unfold readB at h
  simp only at h
  split at h
  · rename_i hc
    injection h with h
    subst h
    exact hc.2.2.2.2
  · cases h
/-- In a sector that is read both numbers are one. -/
theorem read_genZ {s : List UInt8} {k : Nat} {p : Piece} (h : readB s k = some p) (hs : s.length = 128) : genZ s = genA s := by
  have h1 := read_gen h
  have h2 := read_sec_eq h
  have h3 := (read_facts h hs).1
  have h4 : genA s < 4294967296 := n4_lt _ _ _ _
  have h5 : genZ (secB p.begins p.ends p.data k p.gen) = p.gen := genZ_sec h3 (by omega)
  rw [h2] at h5
  rw [h5, h1]
/-- The greatest number. -/
theorem genM_ge : ∀ (l : List (List UInt8)) (m : Nat), m ≤ genM l m
  | [], m => Nat.le_refl m
  | s :: r, m => by
    have := genM_ge r (max (max m (genA s)) (genZ s))
    show m ≤ genM r (max (max m (genA s)) (genZ s))
    omega
theorem genM_of : ∀ (l : List (List UInt8)) (m : Nat), ∀ s ∈ l, genA s ≤ genM l m ∧ genZ s ≤ genM l m
  | [], m, s, h => by cases h
  | x :: r, m, s, h => by
    show genA s ≤ genM r (max (max m (genA x)) (genZ x)) ∧ genZ s ≤ genM r (max (max m (genA x)) (genZ x))
    rcases List.mem_cons.1 h with rfl | h
    · have := genM_ge r (max (max m (genA s)) (genZ s))
      omega
    · exact genM_of r _ s h
theorem genM_le {g : Nat} : ∀ (l : List (List UInt8)) (m : Nat), m ≤ g → (∀ s ∈ l, genA s ≤ g ∧ genZ s ≤ g) → genM l m ≤ g
  | [], m, h, _ => h
  | x :: r, m, h, h2 => by
    have := h2 x (by simp)
    exact genM_le r _ (by omega) (fun s hs => h2 s (by simp [hs]))
theorem genM_at (l : List (List UInt8)) (k : Nat) : genA (l.getD k []) ≤ genM l 0 ∧ genZ (l.getD k []) ≤ genM l 0 := by
  by_cases h : k < l.length
  · rw [List.getD_eq_getElem?_getD, List.getElem?_eq_getElem h]
    exact genM_of l 0 _ (List.getElem_mem h)
  · rw [List.getD_eq_getElem?_getD, List.getElem?_eq_none (by omega)]
    exact ⟨Nat.zero_le _, Nat.zero_le _⟩
theorem genM_getD {l : List (List UInt8)} {g : Nat} (h : ∀ k, k < l.length → genA (l.getD k []) ≤ g ∧ genZ (l.getD k []) ≤ g) : genM l 0 ≤ g :=
  genM_le l 0 (Nat.zero_le _) fun s hs => by
    obtain ⟨i, hi, rfl⟩ := List.getElem_of_mem hs
    have := h i hi
    rwa [List.getD_eq_getElem?_getD, List.getElem?_eq_getElem hi] at this
theorem rec_genM {ss : List (List UInt8)} {k h : Nat} {b : List UInt8} (hr : recB ss k = some (b, h)) : h ≤ genM ss 0 := by
  obtain ⟨p, hp, rfl⟩ := rec_gen hr
  rw [read_gen hp]
  exact (genM_at ss k).1
theorem reads_gen {ss : List (List UInt8)} {k g k' g' : Nat} {r : List (List UInt8)} (h : Reads ss k g r k' g') : g ≤ genM ss 0 → g' ≤ genM ss 0 := by
  induction h with
  | nil k g => exact id
  | cons hb hg hr ih => exact fun _ => ih (rec_genM hb)
/-- The writes of pieces, performed. -/
theorem set_get (ss : List (List UInt8)) (k i : Nat) (s : List UInt8) (hk : k < ss.length) : (ss.set k s).getD i [] = if i = k then s else ss.getD i [] := by
  rw [List.getD_eq_getElem?_getD, List.getD_eq_getElem?_getD, List.getElem?_set]
  by_cases h : k = i
  · subst h
    simp [hk]
  · rw [if_neg h, if_neg (by omega)]
theorem perf_writes (g : Nat) : ∀ (ps : List (Bool × Bool × List UInt8)) (k : Nat) (ss : List (List UInt8)), k + ps.length ≤ ss.length →
    Holds (perf ss (writesP k g ps)) k g ps ∧ ∀ i, i < k ∨ k + ps.length ≤ i → (perf ss (writesP k g ps)).getD i [] = ss.getD i []
  | [], k, ss, _ => ⟨fun i h => absurd h (Nat.not_lt_zero _), fun i _ => rfl⟩
  | p :: ps, k, ss, h => by
    rw [List.length_cons] at h
    obtain ⟨h1, h2⟩ := perf_writes g ps (k + 1) (ss.set k (secB p.1 p.2.1 p.2.2 k g)) (by rw [List.length_set]; omega)
    have e : perf ss (writesP k g (p :: ps)) = perf (ss.set k (secB p.1 p.2.1 p.2.2 k g)) (writesP (k + 1) g ps) := rfl
    rw [e]
    refine ⟨fun i hi => ?_, fun i hi => ?_⟩
    · cases i with
      | zero =>
        show (perf (ss.set k (secB p.1 p.2.1 p.2.2 k g)) (writesP (k + 1) g ps)).getD k [] = secB p.1 p.2.1 p.2.2 k g
        rw [h2 k (.inl (by omega)), set_get _ _ _ _ (by omega), if_pos rfl]
      | succ i =>
        have := h1 i (by rw [List.length_cons] at hi; omega)
        rw [show k + (i + 1) = k + 1 + i by omega]
        exact this
    · rw [List.length_cons] at hi
      rw [h2 i (by omega), set_get _ _ _ _ (by omega), if_neg (by omega)]
theorem writesP_take (g : Nat) : ∀ (n : Nat) (ps : List (Bool × Bool × List UInt8)) (k : Nat), (writesP k g ps).take n = writesP k g (ps.take n)
  | 0, _, _ => by rw [List.take_zero, List.take_zero]; rfl
  | n + 1, [], _ => rfl
  | n + 1, p :: ps, k => by
    show _ :: (writesP (k + 1) g ps).take n = _
    rw [writesP_take g n ps (k + 1)]
    rfl
theorem writesP_get (g : Nat) : ∀ (ps : List (Bool × Bool × List UInt8)) (k n : Nat) (h : n < ps.length), (writesP k g ps).getD n (0, []) = (((k + n : Nat) : Int), secB (ps[n]).1 (ps[n]).2.1 (ps[n]).2.2 (k + n) g)
  | [], _, _, h => by cases h
  | p :: ps, k, 0, _ => rfl
  | p :: ps, k, n + 1, h => by
    have := writesP_get g ps (k + 1) n (by rw [List.length_cons] at h; omega)
    show (writesP (k + 1) g ps).getD n (0, []) = _
    rw [this, show k + 1 + n = k + (n + 1) by omega]
    rfl
theorem pieces_short {b : List UInt8} {p : Bool × Bool × List UInt8} (h : p ∈ piecesB b) : p.2.2.length ≤ 112 := by
  obtain ⟨i, hi, rfl⟩ := List.getElem_of_mem h
  rw [pieces_get b hi, List.length_take]
  omega
theorem flat_short {r : List (List UInt8)} {p : Bool × Bool × List UInt8} (h : p ∈ r.flatMap piecesB) : p.2.2.length ≤ 112 := by
  obtain ⟨b, _, hb⟩ := List.mem_flatMap.1 h
  exact pieces_short hb
theorem flat_used (r : List (List UInt8)) : (r.flatMap piecesB).length = usedB r := by
  have := flat_len r r.length (Nat.le_refl _)
  rwa [List.take_length] at this
theorem all_getD {tt : List (List UInt8)} (h : ∀ i, i < tt.length → (tt.getD i []).length = 128) : ∀ s ∈ tt, s.length = 128 := fun s hs => by
  obtain ⟨i, hi, rfl⟩ := List.getElem_of_mem hs
  have := h i hi
  rwa [List.getD_eq_getElem?_getD, List.getElem?_eq_getElem hi] at this
theorem getD_all {ss : List (List UInt8)} (hL : ∀ s ∈ ss, s.length = 128) {i : Nat} (h : i < ss.length) : (ss.getD i []).length = 128 := by
  rw [List.getD_eq_getElem?_getD, List.getElem?_eq_getElem h]
  exact hL _ (List.getElem_mem h)
/-- A sector that was torn is read as nothing. -/
theorem torn_read {s t : List UInt8} {k g : Nat} (hs : s.length = 128) (ht : t.length = 128) (hg : genA s = g) (hz : genZ t < g) : readB (s.take 64 ++ t.drop 64) k = none := by
  have hl : (s.take 64 ++ t.drop 64).length = 128 := by rw [List.length_append, List.length_take, List.length_drop]; omega
  have ha : genA (s.take 64 ++ t.drop 64) = g := by
    rw [← hg]
    have : ∀ i, i < 64 → (s.take 64 ++ t.drop 64).getD i 0 = s.getD i 0 := fun i hi => by
      rw [List.getD_eq_getElem?_getD, List.getD_eq_getElem?_getD, List.getElem?_append_left (by rw [List.length_take]; omega), List.getElem?_take, if_pos hi]
    unfold genA
    rw [this 0 (by omega), this 1 (by omega), this 2 (by omega), this 3 (by omega)]
  have hz2 : genZ (s.take 64 ++ t.drop 64) = genZ t := by
    have : ∀ i, 64 ≤ i → (s.take 64 ++ t.drop 64).getD i 0 = t.getD i 0 := fun i hi => by
      rw [List.getD_eq_getElem?_getD, List.getD_eq_getElem?_getD, List.getElem?_append_right (by rw [List.length_take]; omega), List.length_take, List.getElem?_drop]
      congr 2
      omega
    unfold genZ
    rw [this 124 (by omega), this 125 (by omega), this 126 (by omega), this 127 (by omega)]
  cases h : readB (s.take 64 ++ t.drop 64) k with
  | none => rfl
  | some p =>
    have := read_genZ h hl
    omega
theorem torn_gens {s t : List UInt8} {g : Nat} (hs : s.length = 128) (hg : genA s = g) (hz : genZ t ≤ g) : genA (s.take 64 ++ t.drop 64) ≤ g ∧ genZ (s.take 64 ++ t.drop 64) ≤ g := by
  have : ∀ i, i < 64 → (s.take 64 ++ t.drop 64).getD i 0 = s.getD i 0 := fun i hi => by
    rw [List.getD_eq_getElem?_getD, List.getD_eq_getElem?_getD, List.getElem?_append_left (by rw [List.length_take]; omega), List.getElem?_take, if_pos hi]
  have h2 : ∀ i, 64 ≤ i → (s.take 64 ++ t.drop 64).getD i 0 = t.getD i 0 := fun i hi => by
    rw [List.getD_eq_getElem?_getD, List.getD_eq_getElem?_getD, List.getElem?_append_right (by rw [List.length_take]; omega), List.length_take, List.getElem?_drop]
    congr 2
    omega
  refine ⟨?_, ?_⟩
  · rw [← hg]
    unfold genA
    rw [this 0 (by omega), this 1 (by omega), this 2 (by omega), this 3 (by omega)]
    exact Nat.le_refl _
  · unfold genZ at hz ⊢
    rw [h2 124 (by omega), h2 125 (by omega), h2 126 (by omega), h2 127 (by omega)]
    exact hz
/-- What a disk has become by a Sync of new records. -/
structure Became (ss : List (List UInt8)) (r : List (List UInt8)) (tt : List (List UInt8)) : Prop where
  len : tt.length = ss.length
  all : ∀ s ∈ tt, s.length = 128
  recs : recordsB tt = r
  gen : genM tt 0 ≤ genM ss 0 + 1
section
variable {ss new : List (List UInt8)}
theorem sync_became (hn : new ≠ []) (hL : ∀ s ∈ ss, s.length = 128) (hg : genM ss 0 < 4294967295) (hroom : usedB (recordsB ss) + usedB new ≤ ss.length) :
    Became ss (recordsB ss ++ new) (perf ss (writesP (usedB (recordsB ss)) (genM ss 0 + 1) (new.flatMap piecesB))) := by
  obtain ⟨g0, h1, h2⟩ := recordsB_reads hL
  generalize hu : usedB (recordsB ss) = u at *
  generalize hG : genM ss 0 = G at *
  obtain ⟨h3, h4⟩ := perf_writes (G + 1) (new.flatMap piecesB) u ss (by rw [flat_used]; omega)
  rw [flat_used] at h4
  have hlen : (perf ss (writesP u (G + 1) (new.flatMap piecesB))).length = ss.length := perf_len _ _
  generalize perf ss (writesP u (G + 1) (new.flatMap piecesB)) = tt at *
  have hall : ∀ s ∈ tt, s.length = 128 := all_getD fun i hi => by
    by_cases hc : i < u ∨ u + usedB new ≤ i
    · rw [h4 i hc]; exact getD_all hL (by omega)
    · have := h3 (i - u) (by rw [flat_used]; omega)
      rw [show u + (i - u) = i by omega] at this
      rw [this]
      exact secB_len (flat_short (List.getElem_mem _))
  have hgen : ∀ i, i < tt.length → genA (tt.getD i []) ≤ G + 1 ∧ genZ (tt.getD i []) ≤ G + 1 := fun i hi => by
    by_cases hc : i < u ∨ u + usedB new ≤ i
    · rw [h4 i hc]
      have := genM_at ss i
      omega
    · have := h3 (i - u) (by rw [flat_used]; omega)
      rw [show u + (i - u) = i by omega] at this
      rw [this, genA_sec (by omega), genZ_sec (flat_short (List.getElem_mem _)) (by omega)]
      omega
  have hr0 : g0 ≤ G := by
    have := reads_gen h1 (Nat.zero_le _)
    omega
  obtain ⟨g1, h5, h6, h7, h8⟩ := reads_written (tt := tt) (g := G + 1) (by omega) (by omega) new u g0 h3 (by omega) (by omega)
  have h9 := (h1.agree hL hlen (fun i _ hi => h4 i (.inl hi))).app h5
  refine ⟨hlen, hall, reads_recordsB hall h9 ?_, by rw [hG]; exact genM_getD hgen⟩
  intro b h hb
  obtain ⟨p, hp, rfl⟩ := rec_gen hb
  rw [h6 hn, read_gen hp, h4 _ (.inr (Nat.le_refl _))]
  have := (genM_at ss (u + usedB new)).1
  omega
/-- Where a writing was broken off. -/
theorem cut_at : ∀ (r : List (List UInt8)) (n : Nat), n < usedB r → ∃ m b c t, r = r.take m ++ b :: c ∧ m ≤ r.length ∧ n = usedB (r.take m) + t ∧ t < secN b.length
  | [], n, h => by rw [show usedB [] = 0 from usedB_nil] at h; omega
  | b :: r, n, h => by
    have hu : usedB (b :: r) = secN b.length + usedB r := by rw [show b :: r = [b] ++ r from rfl, usedB_app, usedB_one]
    by_cases hc : n < secN b.length
    · exact ⟨0, b, r, n, rfl, Nat.zero_le _, by rw [List.take_zero, show usedB [] = 0 from usedB_nil]; omega, hc⟩
    · obtain ⟨m, b2, c, t, h1, h2, h3, h4⟩ := cut_at r (n - secN b.length) (by omega)
      refine ⟨m + 1, b2, c, t, ?_, by rw [List.length_cons]; omega, ?_, h4⟩
      · rw [List.take_succ_cons, List.cons_append, ← h1]
      · rw [List.take_succ_cons, show b :: r.take m = [b] ++ r.take m from rfl, usedB_app, usedB_one]
        omega
theorem torn_became (hL : ∀ s ∈ ss, s.length = 128) (hg : genM ss 0 < 4294967295) (hroom : usedB (recordsB ss) + usedB new ≤ ss.length) {n : Nat} (hn : n < usedB new) :
    ∃ m, m ≤ new.length ∧ Became ss (recordsB ss ++ new.take m) (tornS (perf ss ((writesP (usedB (recordsB ss)) (genM ss 0 + 1) (new.flatMap piecesB)).take n)) ((writesP (usedB (recordsB ss)) (genM ss 0 + 1) (new.flatMap piecesB)).getD n (0, []))) := by
  obtain ⟨m, b, c, t, hcut, hm, hnt, ht⟩ := cut_at new n hn
  refine ⟨m, hm, ?_⟩
  obtain ⟨g0, h1, h2⟩ := recordsB_reads hL
  generalize hu : usedB (recordsB ss) = u at *
  generalize hG : genM ss 0 = G at *
  have hps : (new.flatMap piecesB).length = usedB new := flat_used new
  have hA : ((new.take m).flatMap piecesB).length = usedB (new.take m) := flat_used _
  have htk : (new.flatMap piecesB).take n = (new.take m).flatMap piecesB ++ (piecesB b).take t := by
    conv => lhs; rw [hcut]
    rw [List.flatMap_append, List.flatMap_cons, hnt, ← hA, List.take_length_add_append, List.take_append_of_le_length (by rw [piecesB_len]; omega)]
  rw [writesP_take, writesP_get _ _ _ _ (by omega)]
  have hsl : ((new.flatMap piecesB)[n]'(by omega)).2.2.length ≤ 112 := flat_short (List.getElem_mem _)
  generalize (new.flatMap piecesB)[n]'(by omega) = pc at *
  obtain ⟨h3, h4⟩ := perf_writes (G + 1) ((new.flatMap piecesB).take n) u ss (by rw [List.length_take]; omega)
  have hln : ((new.flatMap piecesB).take n).length = n := by rw [List.length_take]; omega
  rw [hln] at h4
  have hlen0 : (perf ss (writesP u (G + 1) ((new.flatMap piecesB).take n))).length = ss.length := perf_len _ _
  generalize perf ss (writesP u (G + 1) ((new.flatMap piecesB).take n)) = q at *
  unfold tornS
  simp only [Int.toNat_natCast]
  rw [h4 (u + n) (.inr (Nat.le_refl _))]
  have hs128 : (secB pc.1 pc.2.1 pc.2.2 (u + n) (G + 1)).length = 128 := secB_len hsl
  have hsA : genA (secB pc.1 pc.2.1 pc.2.2 (u + n) (G + 1)) = G + 1 := genA_sec (by omega)
  generalize secB pc.1 pc.2.1 pc.2.2 (u + n) (G + 1) = S at *
  have hget : ∀ i, (q.set (u + n) (S.take 64 ++ (ss.getD (u + n) []).drop 64)).getD i [] = if i = u + n then S.take 64 ++ (ss.getD (u + n) []).drop 64 else q.getD i [] := fun i => set_get _ _ _ _ (by omega)
  have hlen : (q.set (u + n) (S.take 64 ++ (ss.getD (u + n) []).drop 64)).length = ss.length := by rw [List.length_set, hlen0]
  generalize q.set (u + n) (S.take 64 ++ (ss.getD (u + n) []).drop 64) = tt at *
  have hold : (ss.getD (u + n) []).length = 128 := getD_all hL (by omega)
  have hzo := (genM_at ss (u + n)).2
  have hcase : ∀ i, i < ss.length → (i < u + n ∧ u ≤ i ∧ ∃ hx : i - u < ((new.flatMap piecesB).take n).length, tt.getD i [] = secB (((new.flatMap piecesB).take n)[i - u]).1 (((new.flatMap piecesB).take n)[i - u]).2.1 (((new.flatMap piecesB).take n)[i - u]).2.2 i (G + 1)) ∨ i = u + n ∨ ((i < u ∨ u + n < i) ∧ tt.getD i [] = ss.getD i []) := fun i hi => by
    by_cases hc : i = u + n
    · exact .inr (.inl hc)
    · by_cases hd : i < u ∨ u + n < i
      · refine .inr (.inr ⟨hd, ?_⟩)
        rw [hget, if_neg hc, h4 i (by omega)]
      · refine .inl ⟨by omega, by omega, by omega, ?_⟩
        have := h3 (i - u) (by omega)
        rw [show u + (i - u) = i by omega] at this
        rw [hget, if_neg hc, this]
  have hH : Holds tt u (G + 1) ((new.take m).flatMap piecesB ++ (piecesB b).take t) := by
    rw [← htk]
    intro i hi
    rw [hget, if_neg (by omega)]
    exact h3 i hi
  have hall : ∀ s ∈ tt, s.length = 128 := all_getD fun i hi => by
    rcases hcase i (by omega) with ⟨_, _, hx, he⟩ | rfl | ⟨_, he⟩
    · rw [he]
      exact secB_len (flat_short (List.mem_of_mem_take (List.getElem_mem hx)))
    · rw [hget, if_pos rfl, List.length_append, List.length_take, List.length_drop]
      omega
    · rw [he]; exact getD_all hL (by omega)
  have hgen : ∀ i, i < tt.length → genA (tt.getD i []) ≤ G + 1 ∧ genZ (tt.getD i []) ≤ G + 1 := fun i hi => by
    rcases hcase i (by omega) with ⟨_, _, hx, he⟩ | rfl | ⟨_, he⟩
    · rw [he, genA_sec (by omega), genZ_sec (flat_short (List.mem_of_mem_take (List.getElem_mem hx))) (by omega)]
      omega
    · rw [hget, if_pos rfl]
      exact torn_gens hs128 hsA (by omega)
    · rw [he]
      have := genM_at ss i
      omega
  have hr0 : g0 ≤ G := by
    have := reads_gen h1 (Nat.zero_le _)
    omega
  have hfit : usedB (new.take m) + t = n := hnt.symm
  obtain ⟨g1, h5, h6, h7, h8⟩ := reads_written (tt := tt) (g := G + 1) (by omega) (by omega) (new.take m) u g0 hH.left (by omega) (by omega)
  have h9 := (h1.agree hL hlen (fun i _ hi => by
    rcases hcase i (by omega) with ⟨_, hx, _⟩ | rfl | ⟨_, he⟩
    · omega
    · omega
    · exact he)).app h5
  refine ⟨hlen, hall, reads_recordsB hall h9 ?_, by rw [hG]; exact genM_getD hgen⟩
  have hright := hH.right
  rw [hA] at hright
  have hno : recB tt (u + usedB (new.take m)) = none := by
    refine rec_broken (b := b) (g := G + 1) (t := t) (fun i hi hi2 => ?_) ht (by omega) (by omega) ?_
    · have := hright i (by rw [List.length_take]; omega)
      rw [List.getElem_take] at this
      exact this
    · rw [show u + usedB (new.take m) + t = u + n by omega, hget, if_pos rfl]
      exact torn_read hs128 hold hsA (by omega)
  intro b2 h hb
  rw [hno] at hb
  cases hb
end
end Go.Proofs.Ytgigccgklahddaa

/- add of JournalSteps: each record that fits is appended. -/
namespace Go.Proofs.Ytgigccgklahddaa
open Go.RowKit
variable {n0 : Nat}

def Jk.try (j : Jk) (b : List UInt8) : Jk := if (j.append b).2 = 0 then (j.append b).1 else j
def Jk.addAll (j : Jk) (l : List (List UInt8)) : Jk := l.foldl Jk.try j
/-- The boxes of the call. -/
structure AD (n0 : Nat) (w : World) (j : Jr) (W : World) : Prop where
  box : Blk W w.heap.size 29 j.cs
  res : Blk W (w.heap.size + 1) 29 [.slice none 0 0, .int .i64 0, .int .i64 0]
  bel : Below w.heap.size w W
  jin : j.In n0 W
theorem AD.below {w W W' : World} {j : Jr} (h : AD n0 w j W) (hb : Below W.heap.size W W') : AD n0 w j W' := ⟨h.box.below hb h.box.lt, h.res.below hb h.res.lt, below_one h.bel hb, h.jin.below hb⟩
theorem AD.new {w : World} {j : Jr} (h : j.In n0 w) : AD n0 w j ((w.alloc (.cells j.cs.toArray 29)).alloc (.cells #[.slice none 0 0, .int .i64 0, .int .i64 0] 29)) := by
  refine ⟨(Blk.new w 29 j.cs).alloc _, ?_, (below_new w _).alloc (by simp) _, h.below ((below_new w _).alloc (by simp) _)⟩
  have := Blk.new (w.alloc (.cells j.cs.toArray 29)) 29 [.slice none 0 0, .int .i64 0, .int .i64 0]
  rwa [World.size_alloc] at this
theorem AD.put {w W : World} {j j' : Jr} (h : AD n0 w j W) (hn : n0 ≤ w.heap.size) (hj : j'.In n0 W) : AD n0 w j' (W.setRow w.heap.size j'.cs.toArray) :=
  ⟨h.box.row _, h.res.far (by omega) _, below_setRow h.bel (Nat.le_refl _) _, hj.keepT h.box (by decide) hn (only_setRow (only_refl _ _) (.inl rfl) _)⟩

set_option maxRecDepth 100000 in
set_option maxHeartbeats 6400000 in
theorem jadd_any (j : Jr) (A : Option Addr) (rs : List Sec) (cap : Nat) (w : World) (hn : n0 ≤ w.heap.size) (hj : j.In n0 w) (hr : SecsIn n0 A rs cap w) (hl : ∀ s ∈ rs, s.l.length ≤ 140737488355328) :
    Calls Try.prog 30 #[j.v, .slice A rs.length cap] w fun e w' => ∃ x : Jr, e = .returned x.v ∧ x.k = j.k.addAll (secD rs) ∧ x.In n0 w' ∧ Below w.heap.size w w' := by
  have HR := hide hr
  have HL := hide hl
  have HN := hide hn
  have HK := hide (show j.k = j.k.addAll ((secD rs).take 0) from rfl)
  obtain ⟨jA, jrs, jcap, jm, js⟩ := j
  have HA : Hid (AD n0 w ⟨jA, jrs, jcap, jm, js⟩ ((w.alloc (.cells #[.slice jA jrs.length jcap, .int .i64 jm, .int .i64 js] 29)).alloc (.cells #[.slice none 0 0, .int .i64 0, .int .i64 0] 29))) := hide (AD.new hj)
  have hsz := hr.le
  have htp := hr.top
  clear hr hl hj hn
  go_enter Try.func30, Try.ntmps30
  go_wp2_with fail
  go_loopw [11] (fun i wr => ∃ (k : Nat) (x : Jr), k ≤ rs.length ∧ i = .int .i64 k ∧ Hid (AD n0 w x wr) ∧ Hid (x.k = (Jr.mk jA jrs jcap jm js).k.addAll ((secD rs).take k))) (fun i _ => rs.length - (intOf i).toNat)
  case atStart => exact ⟨0, _, Nat.zero_le _, rfl, HA, HK⟩
  case round =>
    obtain ⟨k, ⟨xA, xrs, xcap, xm, xs⟩, hk, rfl, hx, hq⟩ := hrel
    by_cases hlt : k < rs.length
    · have hi0 : (k : Int) < rs.length := by omega
      obtain ⟨b, o, hsa, _, c0⟩ := (HR.out.below hx.out.bel).at hlt
      have HSI := hide ((HR.out.below hx.out.bel).each _ (List.getElem_mem hlt))
      have HSL := hide (HL.out _ (List.getElem_mem hlt))
      have HNX := hide (show (Jr.mk jA jrs jcap jm js).k.addAll ((secD rs).take (k + 1)) = ((Jr.mk jA jrs jcap jm js).k.addAll ((secD rs).take k)).try (rs[k]).l by
        have e : (secD rs).take (k + 1) = (secD rs).take k ++ [(rs[k]).l] := by
          rw [List.take_succ_eq_append_getElem (by rw [secD_len]; exact hlt), secD_get]
        unfold Jk.addAll
        rw [e, List.foldl_append]
        rfl)
      subst hsa
      generalize rs[k] = s at *
      obtain ⟨q0, q1, q2⟩ := hx.out.box.c3
      have HAP := hide (jappend_any ⟨xA, xrs, xcap, xm, xs⟩ s wr hx.out.jin HSI.out HSL.out)
      rw [hq.out] at HAP
      generalize hX : (((Jr.mk jA jrs jcap jm js).k.addAll ((secD rs).take k)).append s.l) = y at HAP
      go_wp2_with fail
      refine HAP.out.mono ?_
      rintro e w1 ⟨⟨yA, ys, ycap, ym, yn⟩, rfl, hyk, hyi, hb⟩
      have HB := hide (hx.out.below hb)
      have HYK := hide hyk
      have HYI := hide hyi
      have HBX := hide hb
      clear hyk hyi hb q0 q1 q2 c0 HAP
      by_cases h0 : y.2 = 0
      · have h0' : ((y.2 : Int) == 0) = true := by simp [h0]
        have HBA := hide (HB.out.below (below_new w1 (.cells #[.slice yA ys.length ycap, .int .i64 ym, .int .i64 yn] 29)))
        have HYA := hide (HYI.out.below (below_new w1 (.cells #[.slice yA ys.length ycap, .int .i64 ym, .int .i64 yn] 29)))
        have HNQ := hide (show (Jr.mk yA ys ycap ym yn).k = (Jr.mk jA jrs jcap jm js).k.addAll ((secD rs).take (k + 1)) by
          rw [HNX.out, HYK.out]
          unfold Jk.try
          rw [hX, if_pos h0])
        clear hX HNX h0
        go_wp2_with (refine wpList_store_row rfl 29 (.tmp 2) (.tmp 23) rfl w.heap.size #[.slice yA ys.length ycap, .int .i64 ym, .int .i64 yn] rfl rfl 29 _ HBA.out.box Try.size29 rfl (one29 _ _ _ _ _) ?_)
        go_roundw
        case rel => exact ⟨k + 1, ⟨yA, ys, ycap, ym, yn⟩, by omega, by go_num, hide (HBA.out.put HN.out HYA.out), HNQ⟩
        case measure => simp [intOf]; omega
      · have h0' : ((y.2 : Int) == 0) = false := by simp [h0]
        have HBA := hide (HB.out.below (below_new w1 (.cells #[.slice yA ys.length ycap, .int .i64 ym, .int .i64 yn] 29)))
        have HNQ := hide (show (Jr.mk xA xrs xcap xm xs).k = (Jr.mk jA jrs jcap jm js).k.addAll ((secD rs).take (k + 1)) by
          rw [HNX.out, hq.out]
          unfold Jk.try
          rw [hX, if_neg h0])
        clear hX HNX h0
        go_wp2_with fail
        go_roundw
        case rel => exact ⟨k + 1, ⟨xA, xrs, xcap, xm, xs⟩, by omega, by go_num, HBA, HNQ⟩
        case measure => simp [intOf]; omega
    · obtain rfl : k = rs.length := by omega
      have hi0 : ¬ (rs.length : Int) < rs.length := by omega
      obtain ⟨q0, q1, q2⟩ := hx.out.box.c3
      have HFIN := hide (show (Jr.mk xA xrs xcap xm xs).k = (Jr.mk jA jrs jcap jm js).k.addAll (secD rs) by rw [hq.out, List.take_of_length_le (by rw [secD_len]; exact Nat.le_refl _)])
      clear hq HK
      go_wp2_with (refine wpList_store_row rfl 29 (.tmp 4) (.tmp 25) rfl (w.heap.size + 1) #[.slice xA xrs.length xcap, .int .i64 xm, .int .i64 xs] rfl rfl 29 _ hx.out.res Try.size29 rfl (one29 _ _ _ _ _) ?_)
      exact bodyPost_ret (v := .agg #[.slice xA xrs.length xcap, .int .i64 xm, .int .i64 xs]) (results_cell_row rfl _ _ (w.heap.size + 1) 29 #[.slice xA xrs.length xcap, .int .i64 xm, .int .i64 xs] (0, 0) _ rfl (setRow_heap _ _ _ _ _ _ hx.out.res) Try.underlying29 rfl Try.size29) rfl ⟨⟨xA, xrs, xcap, xm, xs⟩, rfl, HFIN.out, hx.out.jin.keepT hx.out.res (by decide) (Nat.le_succ_of_le HN.out) (only_setRow (only_refl _ _) (.inl rfl) _), below_setRow hx.out.bel (by omega) _⟩
end Go.Proofs.Ytgigccgklahddaa

/- What JournalSteps asks (pure). -/
namespace Go.Proofs.Ytgigccgklahddaa
open Go.RowKit

theorem try_cases (j : Jk) (b : List UInt8) : (j.try b = j) ∨ (j.ok = true ∧ (usedB j.recs : Int) + secN b.length ≤ j.many ∧ j.try b = ⟨j.recs ++ [b], j.many, j.synced⟩) := by
  unfold Jk.try Jk.append
  by_cases h : j.ok = true
  · rw [if_pos h]
    by_cases h2 : j.many - usedB j.recs < secN b.length
    · rw [if_pos h2]; exact .inl (if_neg (by decide))
    · rw [if_neg h2]; exact .inr ⟨h, by omega, if_pos rfl⟩
  · rw [if_neg h]; exact .inl (if_neg (by decide))
/-- A journal and a disk that fit. -/
structure Fine (G : Nat) (j : Jk) (d : Dk) : Prop where
  ok : j.ok = true
  many : j.many = d.sec.length
  recs : recordsB d.sec = j.recs.take j.synced.toNat
  cdk : cdk d = 0
  all : ∀ s ∈ d.sec, s.length = 128
  gen : genM d.sec 0 ≤ G
theorem Fine.try {G : Nat} {j : Jk} {d : Dk} (h : Fine G j d) (b : List UInt8) : Fine G (j.try b) d := by
  rcases try_cases j b with e | ⟨_, h2, e⟩
  · rw [e]; exact h
  · rw [e]
    obtain ⟨q1, q2, q3, q4, q5⟩ := ok_iff.1 h.ok
    refine ⟨ok_iff.2 ⟨q1, q2, q3, ?_, ?_⟩, h.many, ?_, h.cdk, h.all, h.gen⟩
    · show j.synced ≤ ((j.recs ++ [b]).length : Nat)
      rw [List.length_append]; omega
    · show ((usedB (j.recs ++ [b]) : Nat) : Int) ≤ j.many
      rw [usedB_app, usedB_one]; omega
    · show _ = (j.recs ++ [b]).take j.synced.toNat
      rw [List.take_append_of_le_length (by omega)]
      exact h.recs
theorem Fine.all' {G : Nat} {d : Dk} (l : List (List UInt8)) : ∀ {j : Jk}, Fine G j d → Fine G (j.addAll l) d := by
  induction l with
  | nil => exact fun h => h
  | cons b l ih => exact fun h => ih (h.try b)
theorem try_keeps (j : Jk) (b : List UInt8) : (j.try b).many = j.many ∧ (j.try b).synced = j.synced := by
  rcases try_cases j b with e | ⟨_, _, e⟩ <;> rw [e] <;> exact ⟨rfl, rfl⟩
theorem addAll_keeps (l : List (List UInt8)) : ∀ (j : Jk), (j.addAll l).many = j.many ∧ (j.addAll l).synced = j.synced := by
  induction l with
  | nil => exact fun j => ⟨rfl, rfl⟩
  | cons b l ih => exact fun j => ⟨(ih (j.try b)).1.trans (try_keeps j b).1, (ih (j.try b)).2.trans (try_keeps j b).2⟩
theorem try_ok {j : Jk} (h : j.ok = true) (b : List UInt8) : (j.try b).ok = true := by
  rcases try_cases j b with e | ⟨_, h2, e⟩
  · rw [e]; exact h
  · rw [e]
    obtain ⟨q1, q2, q3, q4, q5⟩ := ok_iff.1 h
    refine ok_iff.2 ⟨q1, q2, q3, ?_, ?_⟩
    · show j.synced ≤ ((j.recs ++ [b]).length : Nat)
      rw [List.length_append]; omega
    · show ((usedB (j.recs ++ [b]) : Nat) : Int) ≤ j.many
      rw [usedB_app, usedB_one]; omega
theorem try_eq {j : Jk} (h : j.ok = true) (b : List UInt8) : j.try b = if j.many - usedB j.recs < secN b.length then j else ⟨j.recs ++ [b], j.many, j.synced⟩ := by
  unfold Jk.try Jk.append
  rw [if_pos h]
  by_cases h2 : j.many - usedB j.recs < secN b.length
  · rw [if_pos h2, if_pos h2]; exact if_neg (by decide)
  · rw [if_neg h2, if_neg h2]; exact if_pos rfl
theorem try_recs {j k : Jk} (hj : j.ok = true) (hk : k.ok = true) (hr : j.recs = k.recs) (hm : j.many = k.many) (b : List UInt8) : (j.try b).recs = (k.try b).recs := by
  rw [try_eq hj, try_eq hk, hr, hm]
  split
  · exact hr
  · rfl
theorem addAll_recs (l : List (List UInt8)) : ∀ {j k : Jk}, j.ok = true → k.ok = true → j.recs = k.recs → j.many = k.many → (j.addAll l).recs = (k.addAll l).recs := by
  induction l with
  | nil => exact fun _ _ h _ => h
  | cons b l ih => exact fun hj hk hr hm => ih (try_ok hj b) (try_ok hk b) (try_recs hj hk hr hm b) ((try_keeps _ b).1.trans (hm.trans (try_keeps _ b).1.symm))
/-- A journal that fits is synced. -/
theorem cdk_parts {d : Dk} (h : cdk d = 0) : d.valid = true ∧ d.stp = false ∧ d.pen = [] := by
  by_cases h1 : d.valid = true
  · by_cases h2 : d.stp = false
    · by_cases h3 : d.pen = []
      · exact ⟨h1, h2, h3⟩
      · rw [cdk_pen h1 h2 h3] at h; cases h
    · rw [cdk_stp h1 (by simpa using h2)] at h; cases h
  · rw [cdk_no (by simpa using h1)] at h; cases h
def Jk.full (j : Jk) : Jk := ⟨j.recs, j.many, j.recs.length⟩
theorem full_ok {j : Jk} (h : j.ok = true) : j.full.ok = true := by
  obtain ⟨q1, q2, q3, q4, q5⟩ := ok_iff.1 h
  exact ok_iff.2 ⟨q1, q2, Int.natCast_nonneg _, Int.le_refl _, q5⟩
theorem full_take (j : Jk) : j.full.recs.take j.full.synced.toNat = j.recs := by
  show j.recs.take ((j.recs.length : Int)).toNat = j.recs
  rw [Int.toNat_natCast, List.take_length]
theorem Fine.written {G : Nat} {j : Jk} {d : Dk} (h : Fine G j d) (hG : G < 4000000000) (hs : j.synced ≠ j.recs.length) :
    usedB (recordsB d.sec) + usedB (j.recs.drop j.synced.toNat) ≤ d.sec.length ∧ j.recs.drop j.synced.toNat ≠ [] ∧ recordsB d.sec ++ j.recs.drop j.synced.toNat = j.recs ∧ genM d.sec 0 < 4294967295 ∧
    jsyncB j d = (let y := (⟨d.sec, writesP (usedB (recordsB d.sec)) (genM d.sec 0 + 1) ((j.recs.drop j.synced.toNat).flatMap piecesB), d.left, d.stp⟩ : Dk).sync
      if y.2 = 0 then (j.full, y.1, 0) else (Jk.zero, y.1, y.2)) := by
  obtain ⟨q1, q2, q3, q4, q5⟩ := ok_iff.1 h.ok
  have hg := h.gen
  have hm := h.many
  have hu : usedB j.recs = usedB (recordsB d.sec) + usedB (j.recs.drop j.synced.toNat) := by
    rw [h.recs, ← usedB_app, List.take_append_drop]
  refine ⟨by omega, fun e => ?_, by rw [h.recs, List.take_append_drop], by omega, ?_⟩
  · have := congrArg List.length e
    rw [List.length_drop, List.length_nil] at this
    omega
  · unfold jsyncB
    rw [if_pos (jchk_yes h.ok), if_pos h.cdk, if_pos h.many, if_pos ⟨h.recs, by omega⟩, if_neg hs, h.recs]
    rfl
theorem flat_writes_runs {d : Dk} (h : cdk d = 0) {u g : Nat} {ps : List (Bool × Bool × List UInt8)} (hp : ∀ p ∈ ps, p.2.2.length ≤ 112) (hfit : u + ps.length ≤ d.sec.length) : (⟨d.sec, writesP u g ps, d.left, d.stp⟩ : Dk).runs = true := by
  obtain ⟨h1, h2, h3⟩ := cdk_parts h
  have hr : d.runs = true := by unfold Dk.runs; rw [h1, h2]; rfl
  obtain ⟨r1, ⟨r2, r3⟩, r4, r5⟩ := runs_iff.1 hr
  refine runs_iff.2 ⟨r1, ⟨r2, r3⟩, ⟨by rw [writesP_len]; omega, fun i hi => ?_⟩, r5⟩
  have hi2 : i < ps.length := by
    have e : (writesP u g ps).length = ps.length := writesP_len g ps u
    have : i < (writesP u g ps).length := hi
    omega
  have hg := writesP_get g ps u i hi2
  rw [List.getD_eq_getElem?_getD, List.getElem?_eq_getElem hi, Option.getD_some] at hg
  simp only
  rw [hg]
  exact ⟨by show (0 : Int) ≤ ((u + i : Nat) : Int); omega, by show ((u + i : Nat) : Int) < (d.sec.length : Nat); omega, secB_len (hp _ (List.getElem_mem _))⟩
theorem became_cdk {d : Dk} {r tt : List (List UInt8)} (h : cdk d = 0) (hb : Became d.sec r tt) {left : Int} (hl : -1 ≤ left ∧ left ≤ 65536) : cdk ⟨tt, [], left, false⟩ = 0 := by
  obtain ⟨h1, h2, h3⟩ := cdk_parts h
  have hr : d.runs = true := by unfold Dk.runs; rw [h1, h2]; rfl
  obtain ⟨r1, ⟨r2, r3⟩, r4, r5⟩ := runs_iff.1 hr
  have hv : (⟨tt, [], left, false⟩ : Dk).runs = true := runs_iff.2 ⟨rfl, ⟨by rw [hb.len]; exact r2, fun i hi => hb.all _ (List.getElem_mem hi)⟩, ⟨Nat.zero_le _, fun i hi => (by cases hi)⟩, hl⟩
  unfold Dk.runs at hv
  exact cdk_ok (by simpa using hv) rfl rfl
/-- Without a stop all is synced. -/
theorem Fine.sync {G : Nat} {j : Jk} {d : Dk} (h : Fine G j d) (hG : G < 4000000000) (hl : d.left = -1) : ∃ d', jsyncB j d = (j.full, d', 0) ∧ Fine (G + 1) j.full d' ∧ d'.left = -1 ∧ d'.sec.length = d.sec.length := by
  by_cases hs : j.synced = j.recs.length
  · refine ⟨d, ?_, ⟨full_ok h.ok, h.many, ?_, h.cdk, h.all, Nat.le_succ_of_le h.gen⟩, hl, rfl⟩
    · have hg := h.gen
      unfold jsyncB
      rw [if_pos (jchk_yes h.ok), if_pos h.cdk, if_pos h.many, if_pos ⟨h.recs, by omega⟩, if_pos hs]
      unfold Jk.full
      rw [← hs]
    · rw [full_take, h.recs, hs, Int.toNat_natCast, List.take_length]
  · obtain ⟨h1, h2, h3, h4, h5⟩ := h.written hG hs
    have hb := sync_became h2 h.all h4 h1
    rw [h3] at hb
    have hr := flat_writes_runs (u := usedB (recordsB d.sec)) (g := genM d.sec 0 + 1) (ps := (j.recs.drop j.synced.toNat).flatMap piecesB) h.cdk (fun p hp => flat_short hp) (by rw [flat_used]; exact h1)
    have hy := sync_all hr (.inl hl)
    rw [if_pos (show (⟨d.sec, writesP (usedB (recordsB d.sec)) (genM d.sec 0 + 1) ((j.recs.drop j.synced.toNat).flatMap piecesB), d.left, d.stp⟩ : Dk).left = -1 from hl)] at hy
    refine ⟨⟨perf d.sec (writesP (usedB (recordsB d.sec)) (genM d.sec 0 + 1) ((j.recs.drop j.synced.toNat).flatMap piecesB)), [], -1, false⟩, ?_, ⟨full_ok h.ok, ?_, ?_, became_cdk h.cdk hb ⟨by decide, by decide⟩, hb.all, ?_⟩, rfl, hb.len⟩
    · rw [h5, hy]
      exact if_pos rfl
    · show j.many = _
      rw [h.many, hb.len]
    · rw [full_take]; exact hb.recs
    · have := hb.gen
      have := h.gen
      show genM (perf _ _) 0 ≤ G + 1
      omega
theorem Fine.open {G : Nat} {j : Jk} {d : Dk} (h : Fine G j.full d) : d.jopen = (j.full, 0) := by
  unfold Dk.jopen
  rw [if_pos h.cdk, h.recs, full_take]
  have := h.many
  unfold Jk.full at *
  rw [← this]
/-- The new disk of forty sectors. -/
def D40 : Dk := ⟨List.replicate 40 zeroS, [], -1, false⟩
def J40 : Jk := ⟨[], 40, 0⟩
theorem new_40 : newD 40 = (D40, 0) := by
  unfold newD
  rw [if_pos (by decide)]
  rfl
theorem zero_gens : genA zeroS = 0 ∧ genZ zeroS = 0 := by
  have hz : ∀ i, zeroS.getD i 0 = 0 := fun i => by
    unfold zeroS
    rw [List.getD_eq_getElem?_getD, List.getElem?_replicate]
    split <;> rfl
  unfold genA genZ
  simp only [hz]
  decide
/-- A disk of zeros. -/
theorem fine_zero (n : Nat) (h1 : 1 ≤ n) (h2 : n ≤ 4096) : Fine 0 ⟨[], n, 0⟩ ⟨List.replicate n zeroS, [], -1, false⟩ := by
  have hall : ∀ s ∈ List.replicate n zeroS, s.length = 128 := fun s hs => by rw [List.eq_of_mem_replicate hs]; exact zeroS_len
  have hv : (⟨List.replicate n zeroS, [], -1, false⟩ : Dk).runs = true := runs_iff.2 ⟨rfl, ⟨by simp; omega, fun i hi => hall _ (List.getElem_mem hi)⟩, ⟨Nat.zero_le _, fun i hi => (by cases hi)⟩, show (-1 : Int) ≤ -1 by decide, show (-1 : Int) ≤ 65536 by decide⟩
  refine ⟨ok_iff.2 ⟨by show (1 : Int) ≤ (n : Nat); omega, by show ((n : Nat) : Int) ≤ 4096; omega, Int.le_refl _, Int.le_refl _, ?_⟩, by simp, ?_, ?_, hall, ?_⟩
  · show ((usedB [] : Nat) : Int) ≤ (n : Nat)
    rw [usedB_nil]; omega
  · show recordsB (List.replicate n zeroS) = []
    refine reads_recordsB (k' := 0) (g' := 0) hall (.nil 0 0) fun b h hb => ?_
    obtain ⟨p, hp, -⟩ := rec_gen hb
    rw [List.getD_eq_getElem?_getD, List.getElem?_eq_getElem (by simp; omega), Option.getD_some, List.getElem_replicate, read_zero] at hp
    cases hp
  · unfold Dk.runs at hv
    exact cdk_ok (by simpa using hv) rfl rfl
  · exact genM_le _ _ (Nat.le_refl _) fun s hs => by
      rw [List.eq_of_mem_replicate hs, zero_gens.1, zero_gens.2]
      exact ⟨Nat.le_refl _, Nat.le_refl _⟩
/-- What JournalSteps asks. -/
theorem steps_pure (a b : List (List UInt8)) : ∃ (V O : Jk) (c x y : Dk), D40.jopen = (J40, 0) ∧ jsyncB ((J40.addAll a).addAll b) D40 = (V, c, 0) ∧ jsyncB (J40.addAll a) D40 = (O, x, 0) ∧ jsyncB (O.addAll b) x = (V, y, 0) ∧ jsyncB V y = (V, y, 0) ∧ c.jopen = (V, 0) ∧ y.jopen = (V, 0) := by
  have h0 : Fine 0 J40 D40 := fine_zero 40 (by decide) (by decide)
  have h1 := h0.all' a
  obtain ⟨c, e1, f1, _, _⟩ := (h1.all' b).sync (by decide) rfl
  obtain ⟨x, e2, f2, hl2, _⟩ := h1.sync (by decide) rfl
  have f3 := f2.all' b
  obtain ⟨y, e3, f4, hl3, _⟩ := f3.sync (by decide) hl2
  have hV : ((J40.addAll a).full.addAll b).full = ((J40.addAll a).addAll b).full := by
    have hr := addAll_recs b (full_ok h1.ok) h1.ok rfl rfl
    have hm : ((J40.addAll a).full.addAll b).many = ((J40.addAll a).addAll b).many := by rw [(addAll_keeps b _).1, (addAll_keeps b _).1]; rfl
    unfold Jk.full at *
    rw [hr, hm]
  rw [hV] at e3 f4
  refine ⟨_, _, c, x, y, ?_, e1, e2, e3, ?_, f1.open, f4.open⟩
  · have : J40.full = J40 := rfl
    have := (show Fine 0 J40.full D40 from h0).open
    exact this
  · have hok := f4.ok
    have hg := f4.gen
    unfold jsyncB
    rw [if_pos (jchk_yes hok), if_pos f4.cdk, if_pos f4.many, if_pos ⟨f4.recs, by omega⟩]
    exact if_pos rfl
end Go.Proofs.Ytgigccgklahddaa
