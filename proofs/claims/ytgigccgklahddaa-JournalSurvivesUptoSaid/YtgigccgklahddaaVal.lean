/- What a sector of the journal is read as. -/
import Derived.Test.YtgigccgklahddaaJsz
namespace Go.Proofs.Ytgigccgklahddaa
open Go.RowKit

theorem secB_cons (bg en : Bool) (l : List UInt8) (k g : Nat) : ∃ c0 c1 c2 c3 : UInt8, secB bg en l k g = UInt8.ofNat (g / 16777216) :: UInt8.ofNat (g / 65536) :: UInt8.ofNat (g / 256) :: UInt8.ofNat g :: c0 :: c1 :: c2 :: c3 :: UInt8.ofNat (k / 256) :: UInt8.ofNat k :: UInt8.ofNat (kindB bg en) :: UInt8.ofNat l.length :: (l ++ (List.replicate (112 - l.length) 0 ++ b4 g)) := by
  obtain ⟨c0, c1, c2, c3, hc⟩ := b4_vals (crc (bodyB bg en l k)).toNat
  refine ⟨c0, c1, c2, c3, ?_⟩
  unfold secB
  rw [hc]
  simp [bodyB, b4]
theorem bit1_kind (bg en : Bool) : bit1 (UInt8.ofNat (kindB bg en)) = bg := by cases bg <;> cases en <;> decide
theorem bit2_kind (bg en : Bool) : bit2 (UInt8.ofNat (kindB bg en)) = en := by cases bg <;> cases en <;> decide
/-- A sector is read as what it was made of. -/
theorem read_sec {bg en : Bool} {l : List UInt8} {k g : Nat} (hl : l.length ≤ 112) (hg : 0 < g) (hg2 : g < 4294967296) (h1 : en = true ∨ l.length = 112) (h2 : bg = true ∨ 0 < l.length) :
    readB (secB bg en l k g) k = some ⟨bg, en, l, g⟩ := by
  obtain ⟨c0, c1, c2, c3, hs⟩ := secB_cons bg en l k g
  have hll : (UInt8.ofNat l.length).toNat = l.length := by rw [u8_nat]; omega
  have e10 : (secB bg en l k g).getD 10 0 = UInt8.ofNat (kindB bg en) := by rw [hs]; rfl
  have e11 : (secB bg en l k g).getD 11 0 = UInt8.ofNat l.length := by rw [hs]; rfl
  have e0 : (secB bg en l k g).getD 0 0 = UInt8.ofNat (g / 16777216) := by rw [hs]; rfl
  have e1 : (secB bg en l k g).getD 1 0 = UInt8.ofNat (g / 65536) := by rw [hs]; rfl
  have e2 : (secB bg en l k g).getD 2 0 = UInt8.ofNat (g / 256) := by rw [hs]; rfl
  have e3 : (secB bg en l k g).getD 3 0 = UInt8.ofNat g := by rw [hs]; rfl
  have ed : ((secB bg en l k g).drop 12).take l.length = l := by
    rw [hs]
    show (l ++ (List.replicate (112 - l.length) 0 ++ b4 g)).take l.length = l
    rw [List.take_left]
  unfold readB
  simp only [e10, e11, e0, e1, e2, e3, bit1_kind, bit2_kind, hll, ed, n4_b4 hg2]
  rw [if_pos ⟨hl, by omega, h1, h2, trivial⟩]
/-- A sector of zeros is read as nothing. -/
theorem read_zero (k : Nat) : readB zeroS k = none := by
  have hz : ∀ i, zeroS.getD i 0 = 0 := fun i => by
    unfold zeroS
    rw [List.getD_eq_getElem?_getD, List.getElem?_replicate]
    split <;> rfl
  unfold readB
  simp only [hz]
  rw [if_neg]
  intro h
  exact h.2.1 (by decide)
/-- A record of one piece. -/
theorem rec_one {ss : List (List UInt8)} {k g : Nat} {l : List UInt8} (h : readB (ss.getD k []) k = some ⟨true, true, l, g⟩) : recB ss k = some (l, g) := by
  unfold recB
  rw [h]
  simp
theorem recs_zero : recordsB [zeroS] = [] := by
  unfold recordsB
  show recsFrom [zeroS] 1 0 0 = []
  unfold recsFrom
  rw [if_pos (by decide)]
  have : recB [zeroS] 0 = none := by
    unfold recB
    rw [show ([zeroS] : List (List UInt8)).getD 0 [] = zeroS from rfl, read_zero]
  rw [this]
theorem recs_one {l : List UInt8} {g : Nat} (hl : l.length ≤ 112) (hg : 0 < g) (hg2 : g < 4294967296) : recordsB [secB true true l 0 g] = [l] := by
  unfold recordsB
  show recsFrom [secB true true l 0 g] 1 0 0 = [l]
  unfold recsFrom
  rw [if_pos (by show 0 < 1; omega), rec_one (ss := [secB true true l 0 g]) (k := 0) (read_sec hl hg hg2 (.inl rfl) (.inl rfl))]
  simp only
  rw [if_neg (by omega)]
  rfl
/-- The disk of one sector, and what sane does with it. -/
def d0 : Dk := ⟨[zeroS], [], -1, false⟩
def ab : List UInt8 := [97, 98]
def d1 : Dk := ⟨[secB true true ab 0 1], [], -1, false⟩
theorem new_one : newD 1 = (d0, 0) := by
  unfold newD
  rw [if_pos (by decide)]
  rfl
theorem valid_one {s : List UInt8} (h : s.length = 128) : (⟨[s], [], -1, false⟩ : Dk).valid = true := by
  unfold Dk.valid validSec validPen
  simp [h]
theorem secN_small {n : Nat} (h : n ≤ 112) : secN n = 1 := by unfold secN; omega
theorem cdk_one {s : List UInt8} (h : s.length = 128) : cdk ⟨[s], [], -1, false⟩ = 0 := cdk_ok (valid_one h) rfl rfl
theorem open_d0 : d0.jopen = (⟨[], 1, 0⟩, 0) := by
  unfold Dk.jopen
  rw [if_pos (show cdk d0 = 0 from cdk_one zeroS_len)]
  show ((⟨recordsB [zeroS], 1, (recordsB [zeroS]).length⟩, 0) : Jk × Int) = _
  rw [recs_zero]
  rfl
theorem len_s1 : (secB true true ab 0 1).length = 128 := secB_len (by decide)
theorem open_d1 : d1.jopen = (⟨[ab], 1, 1⟩, 0) := by
  unfold Dk.jopen
  rw [if_pos (show cdk d1 = 0 from cdk_one len_s1)]
  show ((⟨recordsB [secB true true ab 0 1], 1, (recordsB [secB true true ab 0 1]).length⟩, 0) : Jk × Int) = _
  rw [recs_one (by decide) (by decide) (by decide)]
  rfl
theorem usedB_nil : usedB [] = 0 := by unfold usedB; rfl
theorem jok_ab (n : Int) (h1 : 0 ≤ n) (h2 : n ≤ 1) : (⟨[ab], 1, n⟩ : Jk).ok = true := by
  rw [ok_iff]
  refine ⟨Int.le_refl _, by show (1 : Int) ≤ 4096; decide, h1, h2, ?_⟩
  show ((usedB [ab] : Nat) : Int) ≤ 1
  rw [usedB_one, secN_small (by decide)]
  decide
theorem jok_0 : (⟨[], 1, 0⟩ : Jk).ok = true := by
  rw [ok_iff]
  refine ⟨by decide, by decide, by decide, by decide, ?_⟩
  rw [usedB_nil]
  decide
theorem jchk_zero_one : jchk Jk.zero = 1 := jchk_no rfl
theorem piece_ab : piecesB ab = [(true, true, ab)] := by
  unfold piecesB
  have h : secN ab.length = 1 := secN_small (by decide)
  rw [h]
  show [pieceB ab 0] = _
  unfold pieceB
  rw [h]
  rfl
theorem gen_zero : genM [zeroS] 0 = 0 := by
  have hz : ∀ i, zeroS.getD i 0 = 0 := fun i => by
    unfold zeroS
    rw [List.getD_eq_getElem?_getD, List.getElem?_replicate]
    split <;> rfl
  show max (max 0 (genA zeroS)) (genZ zeroS) = 0
  unfold genA genZ
  simp only [hz]
  decide
theorem append_ab : (⟨[], 1, 0⟩ : Jk).append ab = (⟨[ab], 1, 0⟩, 0) := by
  unfold Jk.append
  rw [if_pos jok_0]
  show (if (1 : Int) - (usedB [] : Nat) < (secN ab.length : Nat) then (Jk.zero, (2 : Int)) else (⟨[] ++ [ab], 1, 0⟩, 0)) = _
  rw [usedB_nil, secN_small (by decide), if_neg (by decide)]
  rfl
theorem append_113 {b : List UInt8} (h : b.length = 113) : (⟨[], 1, 0⟩ : Jk).append b = (Jk.zero, 2) := by
  unfold Jk.append
  rw [if_pos jok_0]
  show (if (1 : Int) - (usedB [] : Nat) < (secN b.length : Nat) then (Jk.zero, (2 : Int)) else (⟨[] ++ [b], 1, 0⟩, 0)) = _
  rw [usedB_nil, h, show secN 113 = 2 by unfold secN; rfl, if_pos (by decide)]
theorem runs_one {p : List (Int × List UInt8)} {s : List UInt8} (h : s.length = 128) (hp : validPen 1 p = true) : (⟨[s], p, -1, false⟩ : Dk).runs = true := by
  unfold Dk.runs Dk.valid validSec
  simp [h, hp]
theorem sync_ab : jsyncB ⟨[ab], 1, 0⟩ d0 = (⟨[ab], 1, 1⟩, d1, 0) := by
  unfold jsyncB
  have hy : (⟨[zeroS], [(0, secB true true ab 0 1)], -1, false⟩ : Dk).sync = (d1, 0) := by
    unfold Dk.sync
    rw [if_pos (runs_one zeroS_len (by simp [validPen, len_s1]))]
    rfl
  rw [if_pos (jchk_yes (jok_ab 0 (by decide) (by decide))), if_pos (show cdk d0 = 0 from cdk_one zeroS_len), if_pos (show (⟨[ab], 1, 0⟩ : Jk).many = ((d0.sec.length : Nat) : Int) from rfl), if_pos (show recordsB d0.sec = List.take (⟨[ab], 1, 0⟩ : Jk).synced.toNat (⟨[ab], 1, 0⟩ : Jk).recs ∧ genM d0.sec 0 < 4294967295 from ⟨recs_zero, by rw [show d0.sec = [zeroS] from rfl, gen_zero]; decide⟩), if_neg (show ¬ ((⟨[ab], 1, 0⟩ : Jk).synced = (((⟨[ab], 1, 0⟩ : Jk).recs.length : Nat) : Int)) by decide)]
  show (let y := (⟨[zeroS], writesP (usedB []) (genM [zeroS] 0 + 1) ([ab].flatMap piecesB), -1, false⟩ : Dk).sync; if y.2 = 0 then ((⟨[ab], 1, 1⟩ : Jk), y.1, (0 : Int)) else (Jk.zero, y.1, y.2)) = _
  rw [usedB_nil, gen_zero, show [ab].flatMap piecesB = [(true, true, ab)] by simp [piece_ab]]
  show (let y := (⟨[zeroS], [(0, secB true true ab 0 1)], -1, false⟩ : Dk).sync; if y.2 = 0 then ((⟨[ab], 1, 1⟩ : Jk), y.1, (0 : Int)) else (Jk.zero, y.1, y.2)) = _
  rw [hy]
  rfl
theorem sync_no : jsyncB ⟨[ab], 1, 0⟩ d1 = (Jk.zero, Dk.zero, 50) := by
  unfold jsyncB
  rw [if_pos (jchk_yes (jok_ab 0 (by decide) (by decide))), if_pos (show cdk d1 = 0 from cdk_one len_s1), if_pos (show (⟨[ab], 1, 0⟩ : Jk).many = ((d1.sec.length : Nat) : Int) from rfl), if_neg]
  rintro ⟨h, _⟩
  rw [show recordsB d1.sec = [ab] from recs_one (by decide) (by decide) (by decide)] at h
  exact absurd h (by decide)
end Go.Proofs.Ytgigccgklahddaa
