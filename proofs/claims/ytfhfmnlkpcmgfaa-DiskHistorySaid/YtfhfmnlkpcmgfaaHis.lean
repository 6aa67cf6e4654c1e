/- DiskHistory: the halves of sectors, as plain lists. -/
import Derived.Test.YtfhfmnlkpcmgfaaTog
namespace Go.Proofs.Ytfhfmnlkpcmgfaa
open Go.RowKit

/-- A sector whose halves begin with two bytes. -/
def half (a b : UInt8) : List UInt8 := (zeroS.set 0 a).set 64 b
theorem half_same (c : UInt8) : half c c = dblS c := rfl
theorem half_zero : half 0 0 = zeroS := by
  unfold half zeroS
  apply List.ext_getElem
  · simp
  · intro i h1 h2
    simp only [List.getElem_set, List.getElem_replicate]
    split
    · rfl
    · split <;> rfl
theorem half_len (a b : UInt8) : (half a b).length = 128 := by simp [half, zeroS_len]
theorem half_get (a b : UInt8) (i : Nat) (h : i < 128) : (half a b)[i]? = some (if i = 64 then b else if i = 0 then a else 0) := by
  rw [List.getElem?_eq_getElem (by rw [half_len]; exact h)]
  unfold half zeroS
  simp only [List.getElem_set, List.getElem_replicate]
  congr 1
  by_cases h1 : i = 64
  · subst h1; simp
  · rw [if_neg (fun e => h1 e.symm), if_neg h1]
    by_cases h2 : i = 0
    · subst h2; simp
    · rw [if_neg (fun e => h2 e.symm), if_neg h2]
theorem half_torn (a b c d : UInt8) : (half a b).take 64 ++ (half c d).drop 64 = half a d := by
  apply List.ext_getElem?
  intro i
  by_cases h : i < 128
  · rw [half_get _ _ _ h, List.getElem?_append]
    by_cases h1 : i < 64
    · rw [if_pos (by rw [List.length_take, half_len]; omega), List.getElem?_take_of_lt h1, half_get _ _ _ h, if_neg (show ¬ i = 64 by omega), if_neg (show ¬ i = 64 by omega)]
    · rw [if_neg (by rw [List.length_take, half_len]; omega), List.getElem?_drop, List.length_take, half_len]
      have e : 64 + (i - min 64 128) = i := by omega
      rw [e, half_get _ _ _ h]
      congr 1
      by_cases h2 : i = 64
      · rw [if_pos h2, if_pos h2]
      · rw [if_neg h2, if_neg h2, if_neg (show ¬ i = 0 by omega), if_neg (show ¬ i = 0 by omega)]
  · rw [List.getElem?_eq_none (by rw [List.length_append, List.length_take, List.length_drop, half_len, half_len]; omega), List.getElem?_eq_none (by rw [half_len]; omega)]
/-- Sectors whose halves begin with the bytes of two lists. -/
def hs (F S : List UInt8) : List (List UInt8) := List.zipWith half F S
theorem hs_len {F S : List UInt8} (h : F.length = S.length) : (hs F S).length = F.length := by simp [hs, h]
theorem hs_get {F S : List UInt8} {i : Nat} (h : i < (hs F S).length) : ∃ (h1 : i < F.length) (h2 : i < S.length), (hs F S)[i] = half F[i] S[i] := by
  have : i < F.length ∧ i < S.length := by simp [hs] at h; omega
  exact ⟨this.1, this.2, by simp [hs]⟩
/-- A write of an act. -/
def aw (a : Ac) : Int × List UInt8 := (((a.pos.toNat % 4 : Nat) : Int), dblS a.byte)
/-- The bytes that acts leave. -/
def ups (F : List UInt8) (l : List Ac) : List UInt8 := l.foldl (fun F a => F.set (a.pos.toNat % 4) a.byte) F
theorem ups_len (F : List UInt8) (l : List Ac) : (ups F l).length = F.length := by
  unfold ups
  induction l generalizing F with
  | nil => rfl
  | cons a l ih => rw [List.foldl_cons, ih, List.length_set]
theorem ups_snoc (F : List UInt8) (l : List Ac) (a : Ac) : ups F (l ++ [a]) = (ups F l).set (a.pos.toNat % 4) a.byte := by simp [ups]
theorem ups_take (F : List UInt8) (l : List Ac) {k : Nat} (h : k < l.length) : ups F (l.take (k + 1)) = (ups F (l.take k)).set (l[k].pos.toNat % 4) l[k].byte := by
  rw [List.take_succ_eq_append_getElem h, ups_snoc]
theorem hs_set {F S : List UInt8} (h : F.length = S.length) (p : Nat) (a b : UInt8) : (hs F S).set p (half a b) = hs (F.set p a) (S.set p b) := by
  apply List.ext_getElem
  · rw [List.length_set, hs_len h, hs_len (by simpa using h), List.length_set]
  · intro i h1 h2
    simp only [hs, List.getElem_set, List.getElem_zipWith]
    split <;> rfl
theorem perf_hs (l : List Ac) : ∀ (F S : List UInt8), F.length = S.length → perf (hs F S) (l.map aw) = hs (ups F l) (ups S l) := by
  induction l with
  | nil => intro F S _; rfl
  | cons a l ih =>
    intro F S h
    have e : perf (hs F S) (List.map aw (a :: l)) = perf ((hs F S).set (a.pos.toNat % 4) (half a.byte a.byte)) (l.map aw) := rfl
    rw [e, hs_set h, ih _ _ (by simpa using h)]
    rfl
theorem torn_hs {F S : List UInt8} (h : F.length = S.length) (a : Ac) (hp : a.pos.toNat % 4 < F.length) : tornS (hs F S) (aw a) = hs (F.set (a.pos.toNat % 4) a.byte) S := by
  have hq : a.pos.toNat % 4 < (hs F S).length := by rw [hs_len h]; exact hp
  have e : tornS (hs F S) (aw a) = (hs F S).set (a.pos.toNat % 4) ((half a.byte a.byte).take 64 ++ ((hs F S).getD (a.pos.toNat % 4) []).drop 64) := rfl
  obtain ⟨h1, h2, h3⟩ := hs_get hq
  rw [e, List.getD_eq_getElem?_getD, List.getElem?_eq_getElem hq, Option.getD_some, h3, half_torn, hs_set h]
  congr 1
  exact List.set_getElem_self _
theorem aws_len (l : List Ac) : (l.map aw).length = l.length := by simp

/-- The disk of a history. -/
def hd (F S : List UInt8) (l : List Ac) (left : Int) : Dk := ⟨hs F S, l.map aw, left, false⟩
section
variable {F S : List UInt8} {l : List Ac} {left : Int}
theorem hd_runs (h1 : F.length = 4) (h2 : S.length = 4) (hl : l.length ≤ 4096) (h3 : -1 ≤ left ∧ left ≤ 65536) : (hd F S l left).runs = true := by
  have hn : (hs F S).length = 4 := by rw [hs_len (by omega), h1]
  refine runs_iff.2 ⟨rfl, ⟨by show 1 ≤ (hs F S).length ∧ (hs F S).length ≤ 4096; omega, fun i hi => ?_⟩, ⟨by show (l.map aw).length ≤ 4096; rw [aws_len]; exact hl, fun i hi => ?_⟩, h3⟩
  · obtain ⟨_, _, h⟩ := hs_get hi
    show ((hs F S)[i]).length = 128
    rw [h, half_len]
  · have hi' : i < l.length := by have := hi; rwa [show (hd F S l left).pen.length = l.length from aws_len l] at this
    have e : (hd F S l left).pen[i] = aw l[i] := by simp [hd]
    rw [e]
    show 0 ≤ ((l[i].pos.toNat % 4 : Nat) : Int) ∧ ((l[i].pos.toNat % 4 : Nat) : Int) < ((hs F S).length : Int) ∧ (dblS l[i].byte).length = 128
    have := Nat.mod_lt l[i].pos.toNat (show 0 < 4 by omega)
    exact ⟨by omega, by omega, half_len _ _⟩
theorem hd_has (h1 : F.length = 4) (h2 : S.length = 4) (i : Int) (h : 0 ≤ i ∧ i < 4) : (hd F S l left).has i = true := dhas_iff.2 (by
  show 0 ≤ i ∧ i < ((hs F S).length : Int)
  rw [hs_len (by omega), h1]
  exact h)
/-- What is read. -/
theorem hd_read (h1 : F.length = 4) (h2 : S.length = 4) (hl : l.length ≤ 4096) (h3 : -1 ≤ left ∧ left ≤ 65536) (k : Nat) (hk : k < 4) :
    (hd F S l left).read (k : Int) = (half ((ups F l).getD k 0) ((ups S l).getD k 0), 0) := by
  rw [read_ok' (hd_runs h1 h2 hl h3) (hd_has h1 h2 k (by omega)), Int.toNat_natCast]
  have hn : (hs F S).length = 4 := by rw [hs_len (by omega), h1]
  have hp := perf_get (p := l.map aw) (s := hs F S) k (fun x hx => by
    obtain ⟨a, -, rfl⟩ := List.mem_map.1 hx
    show 0 ≤ ((a.pos.toNat % 4 : Nat) : Int)
    omega) (by omega)
  show (lastW (k : Int) ((hs F S).getD k []) (l.map aw), (0 : Int)) = _
  rw [show lastW (k : Int) ((hs F S).getD k []) (l.map aw) = lastW k ((hs F S).getD k []) (l.map aw) from rfl, ← hp, perf_hs _ _ _ (by omega)]
  have hq : k < (hs (ups F l) (ups S l)).length := by rw [hs_len (by rw [ups_len, ups_len]; omega), ups_len]; omega
  obtain ⟨g1, g2, g3⟩ := hs_get hq
  rw [List.getD_eq_getElem?_getD, List.getElem?_eq_getElem hq, Option.getD_some, g3, List.getD_eq_getElem?_getD, List.getElem?_eq_getElem g1, List.getD_eq_getElem?_getD, List.getElem?_eq_getElem g2]
  rfl
theorem hd_write (h1 : F.length = 4) (h2 : S.length = 4) (hl : l.length < 4096) (h3 : -1 ≤ left ∧ left ≤ 65536) (a : Ac) : (hd F S l left).write ((a.pos.toNat % 4 : Nat) : Int) (dblS a.byte) = (hd F S (l ++ [a]) left, 0) := by
  have := Nat.mod_lt a.pos.toNat (show 0 < 4 by omega)
  have hb : (dblS a.byte).length = 128 := half_len _ _
  rw [write_ok (hd_runs h1 h2 (by omega) h3) (hd_has h1 h2 _ (by omega)) (by omega) (by show (l.map aw).length ≠ 4096; rw [aws_len]; omega)]
  congr 1
  show Dk.mk (hs F S) (l.map aw ++ [(((a.pos.toNat % 4 : Nat) : Int), padS (dblS a.byte))]) left false = ⟨hs F S, (l ++ [a]).map aw, left, false⟩
  rw [padS_full hb, List.map_append]
  rfl
/-- A sync that does not stop. -/
theorem hd_sync (h1 : F.length = 4) (h2 : S.length = 4) (hl : l.length ≤ 4096) (h3 : 0 ≤ left ∧ left ≤ 65536) (h : (l.length : Int) ≤ left) : (hd F S l left).sync = (hd (ups F l) (ups S l) [] (left - l.length), 0) := by
  rw [sync_all (hd_runs h1 h2 hl (by omega)) (.inr (by show ((l.map aw).length : Int) ≤ left; rw [aws_len]; exact h))]
  show ((⟨perf (hs F S) (l.map aw), [], if left = -1 then -1 else left - ((l.map aw).length : Int), false⟩ : Dk), (0 : Int)) = _
  rw [perf_hs _ _ _ (by omega), if_neg (by omega), aws_len]
  rfl
/-- A sync that stops. -/
theorem hd_stop (h1 : F.length = 4) (h2 : S.length = 4) (hl : l.length ≤ 4096) {r : Nat} (h3 : r ≤ 65536) (h : r < l.length) : (hd F S l r).sync = (⟨hs (ups F (l.take (r + 1))) (ups S (l.take r)), [], 0, true⟩, 40) := by
  rw [sync_not (hd_runs h1 h2 hl (by omega)) (by show (r : Int) ≠ -1 ∧ (r : Int) < ((l.map aw).length : Int); rw [aws_len]; omega)]
  show ((⟨tornS (perf (hs F S) ((l.map aw).take ((r : Int).toNat))) ((l.map aw).getD ((r : Int).toNat) (0, [])), [], 0, true⟩ : Dk), (40 : Int)) = _
  have e : (l.map aw).getD r (0, []) = aw l[r] := by
    rw [List.getD_eq_getElem?_getD, List.getElem?_eq_getElem (by rw [aws_len]; exact h), List.getElem_map]
    rfl
  have hm := Nat.mod_lt l[r].pos.toNat (show 0 < 4 by omega)
  rw [Int.toNat_natCast, e, ← List.map_take, perf_hs _ _ _ (by omega), torn_hs (by rw [ups_len, ups_len]; omega) _ (by rw [ups_len]; omega), ← ups_take _ _ h]
theorem hd_restart : (hd F S l left).restart = hd F S [] (-1) := rfl
theorem new_hd : newD 4 = (hd [0, 0, 0, 0] [0, 0, 0, 0] [] (-1), 0) := by
  unfold newD hd hs
  rw [if_pos (by decide)]
  simp only [List.zipWith, half_zero]
  rfl
end
end Go.Proofs.Ytfhfmnlkpcmgfaa
