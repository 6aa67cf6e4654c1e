/- The readers of names and numbers. -/
import Derived.Test.YtemapfhiiefieaaDoorAdd
namespace Go.Proofs.YtemapfhiiefieaaDoor
open Go.RowKit

/-- What begins here: how many bytes, and the token, if they are one; or nothing that is right. -/
def stp : List UInt8 → Option (Nat × Option (Nat × List UInt8 × Nat))
  | [] => none
  | c :: r =>
    if cls c = 1 then some (1, none)
    else if cls c = 2 then (if (c :: r).take 2 = [47, 47] then some (((c :: r).takeWhile isLn).length, none) else some (1, some (3, [c], 0)))
    else if cls c = 3 then (match numB ((c :: r).takeWhile isDg) with | some n => some (((c :: r).takeWhile isDg).length, some (2, [], n)) | none => none)
    else if cls c = 4 then (if nameB ((c :: r).takeWhile isNm) = true then some (((c :: r).takeWhile isNm).length, some (1, (c :: r).takeWhile isNm, 0)) else none)
    else none

/-- What a reader does at a place. -/
def ReadPost (S : Nat) (l : List UInt8) (a : Nat) (ts : List Tk) (w : World) (e : Ending) (w' : World) : Prop :=
  match stp (l.drop a) with
  | none => e = wrong a ∧ Below S w w'
  | some (sz, none) => e = .returned (.tuple #[]) ∧ RP S l (a + sz) ts w w'
  | some (sz, some (k, t, n)) => e = .returned (.tuple #[]) ∧ RP S l (a + sz) (ts ++ [⟨k, t, n, a⟩]) w w'

theorem takeWhile_le {p : UInt8 → Bool} (l : List UInt8) : (l.takeWhile p).length ≤ l.length := (List.takeWhile_prefix p).length_le
theorem drop_head {l : List UInt8} {a : Nat} (ha : a < l.length) : l.drop a = l[a] :: l.drop (a + 1) := List.drop_eq_getElem_cons ha
theorem below_dn (S : Nat) (w : World) (n : Nat) : Below S w (w.drewN n) := ⟨rfl, rfl, rfl, Nat.le_refl _, fun _ _ => rfl⟩

set_option maxRecDepth 10000 in
set_option maxHeartbeats 1600000 in
theorem readName_any (S : Nat) (l : List UInt8) (a : Nat) (v : Value) (ts : List Tk) (w : World) (h : Sc S l a v ts w) (ha : a < l.length) (hl : l.length ≤ 1000000) (hts : ts.length ≤ 1000000) (hc : cls l[a] = 4) :
    Calls Tryd.prog 46 #[.pointer (some ⟨S, 0, none⟩)] w (ReadPost S l a ts w) := by
  have HSC := hide h
  have HST := hide (show stp (l.drop a) = if nameB ((l.drop a).takeWhile isNm) = true then some (((l.drop a).takeWhile isNm).length, some (1, (l.drop a).takeWhile isNm, 0)) else none by
    rw [drop_head ha]
    simp [stp, hc])
  have HR := hide (rest_any S l a v ts w h (by omega))
  have HTL := hide (show ((l.drop a).takeWhile isNm).length ≤ l.length - a by have := takeWhile_le (p := isNm) (l.drop a); rw [List.length_drop] at this; exact this)
  have HRL := hide (show (l.drop a).length ≤ 1000000 by rw [List.length_drop]; omega)
  clear h hc
  go_enter Tryd.func46, Tryd.ntmps46
  go_wp2_with fail
  refine HR.out.mono ?_
  rintro e w1 ⟨rfl, q, rfl⟩
  have HS1 := hide (HSC.out.drewN q)
  have HBG := hide (beg_name (l.drop a) (w.drewN q) HS1.out.tab (by have := HRL.out; omega))
  generalize (l.drop a).takeWhile isNm = t at *
  go_wp2_with fail
  refine HBG.out.mono ?_
  rintro e w2 ⟨rfl, rfl⟩
  go_wp2_with fail
  refine (name_any t (w.drewN q) HS1.out.tab (by have := HTL.out; omega)).mono ?_
  rintro e w3 ⟨rfl, rfl⟩
  cases hn : nameB t with
  | true =>
    have hts' := str_size t
    have HAD := hide (add_any S l a v ts 1 t 0 t.length (w.drewN q) HS1.out (by have := HTL.out; omega) hl hts)
    go_wp2_with fail
    refine HAD.out.mono ?_
    rintro e w4 ⟨rfl, hrp⟩
    have HRP := hide hrp
    clear hrp
    go_wp2_with fail
    go_end0
    unfold ReadPost
    rw [HST.out, if_pos hn]
    exact ⟨rfl, HRP.out.1, (below_dn S w q).trans HRP.out.2⟩
  | false =>
    have HRF := hide (refuse_any S l a v ts (w.drewN q) HS1.out)
    go_wp2_with fail
    refine HRF.out.mono ?_
    rintro e w4 ⟨rfl, rfl⟩
    go_wp2_with fail
    refine ⟨rfl, ?_⟩
    unfold ReadPost
    rw [HST.out, if_neg (by rw [hn]; simp)]
    exact ⟨rfl, below_dn S w q⟩

theorem takeWhile_all {p : UInt8 → Bool} : ∀ (l : List UInt8) (i : Nat) (h : i < (l.takeWhile p).length), p (l.takeWhile p)[i] = true
  | [], i, h => by simp at h
  | c :: l, i, h => by
    by_cases hc : p c = true
    · have e : (c :: l).takeWhile p = c :: l.takeWhile p := by simp [hc]
      cases i with
      | zero => simp [e, hc]
      | succ i =>
        have h2 : i < (l.takeWhile p).length := by rw [e] at h; simpa using h
        have := takeWhile_all l i h2
        simpa [e] using this
    · have e : (c :: l).takeWhile p = [] := by simp [hc]
      rw [e] at h
      simp at h

set_option maxRecDepth 10000 in
set_option maxHeartbeats 1600000 in
theorem readNumber_any (S : Nat) (l : List UInt8) (a : Nat) (v : Value) (ts : List Tk) (w : World) (h : Sc S l a v ts w) (ha : a < l.length) (hl : l.length ≤ 1000000) (hts : ts.length ≤ 1000000) (hc : cls l[a] = 3) :
    Calls Tryd.prog 45 #[.pointer (some ⟨S, 0, none⟩)] w (ReadPost S l a ts w) := by
  have HSC := hide h
  have HST := hide (show stp (l.drop a) = (match numB ((l.drop a).takeWhile isDg) with | some n => some (((l.drop a).takeWhile isDg).length, some (2, [], n)) | none => none) by
    rw [drop_head ha]
    simp [stp, hc])
  have HR := hide (rest_any S l a v ts w h (by omega))
  have HTL := hide (show ((l.drop a).takeWhile isDg).length ≤ l.length - a by have := takeWhile_le (p := isDg) (l.drop a); rw [List.length_drop] at this; exact this)
  have HT0 := hide (show 0 < ((l.drop a).takeWhile isDg).length by
    have hp : isDg l[a] = true := by simp [isDg, hc]
    rw [drop_head ha, List.takeWhile_cons, hp]
    simp only [if_true, List.length_cons]
    omega)
  have HTA := hide (takeWhile_all (p := isDg) (l.drop a))
  have HRL := hide (show (l.drop a).length ≤ 1000000 by rw [List.length_drop]; omega)
  clear h hc
  go_enter Tryd.func45, Tryd.ntmps45
  go_wp2_with fail
  refine HR.out.mono ?_
  rintro e w1 ⟨rfl, q, rfl⟩
  have HS1 := hide (HSC.out.drewN q)
  have HBG := hide (beg_digit (l.drop a) (w.drewN q) HS1.out.tab (by have := HRL.out; omega))
  generalize (l.drop a).takeWhile isDg = t at *
  go_wp2_with fail
  refine HBG.out.mono ?_
  rintro e w2 ⟨rfl, rfl⟩
  go_wp2_with fail
  refine (number_any t (w.drewN q) HTA.out HT0.out (by have := HTL.out; omega)).mono ?_
  rintro e w3 ⟨⟨n, hn, rfl⟩ | ⟨hn, rfl⟩, rfl⟩
  · have hts' := str_size t
    have HN := hide hn
    have HAD := hide (add_any S l a v ts 2 [] n t.length (w.drewN q) HS1.out (by have := HTL.out; omega) hl hts)
    rw [str_nil] at HAD
    clear hn
    go_wp2_with fail
    refine HAD.out.mono ?_
    rintro e w4 ⟨rfl, hrp⟩
    have HRP := hide hrp
    clear hrp
    go_wp2_with fail
    go_end0
    unfold ReadPost
    rw [HST.out, HN.out]
    exact ⟨rfl, HRP.out.1, (below_dn S w q).trans HRP.out.2⟩
  · have HN := hide hn
    have HRF := hide (refuse_any S l a v ts (w.drewN q) HS1.out)
    clear hn
    go_wp2_with fail
    refine HRF.out.mono ?_
    rintro e w4 ⟨rfl, rfl⟩
    go_wp2_with fail
    refine ⟨rfl, ?_⟩
    unfold ReadPost
    rw [HST.out, HN.out]
    exact ⟨rfl, below_dn S w q⟩

theorem str_eq {l m : List UInt8} (h : str l = str m) : l = m := by
  have := congrArg (fun s => s.data.toList) h
  simpa using this
theorem str_take (l : List UInt8) (k : Nat) : (str l).extract 0 k = str (l.take k) := str_slice l k

set_option maxRecDepth 10000 in
set_option maxHeartbeats 1600000 in
theorem slashes_any (r : List UInt8) (w : World) (hl : r.length ≤ 1000000) : Calls Tryd.prog 62 #[.string (str r), .string (str [47, 47])] w fun e w' => e = .returned (.bool (r.take 2 == [47, 47])) ∧ w = w' := by
  have hs := str_size r
  have hs2 : (str [47, 47]).size = 2 := rfl
  by_cases h2 : 2 ≤ r.length
  · have h2d : decide ((2 : Int) ≤ (r.length : Int)) = true := by simp; omega
    have i2 : (2 : Int) ≤ (r.length : Int) := by omega
    have hsl := str_take r 2
    clear h2
    go_enter Tryd.func62, Tryd.ntmps62
    go_wp2_with fail
    go_ret
    exact ⟨rfl, rfl⟩
  · have h2d : decide ((2 : Int) ≤ (r.length : Int)) = false := by simp; omega
    have HF := hide (show (r.take 2 == [47, 47]) = false by
      rw [beq_eq_false_iff_ne]
      intro e
      have := congrArg List.length e
      simp at this
      omega)
    clear h2
    go_enter Tryd.func62, Tryd.ntmps62
    go_wp2_with fail
    go_ret
    rw [HF.out]
    exact ⟨rfl, rfl⟩

set_option maxRecDepth 10000 in
set_option maxHeartbeats 1600000 in
theorem prefix_any (r : List UInt8) (w : World) (hl : r.length ≤ 1000000) : Calls Tryd.prog 55 #[.string (str r), .string ⟨#[47, 47]⟩] w fun e w' => e = .returned (.bool (r.take 2 == [47, 47])) ∧ w = w' := by
  have HS := hide (slashes_any r w hl)
  go_enter Tryd.func55, Tryd.ntmps55
  go_wp2_with fail
  refine HS.out.mono ?_
  rintro e w' ⟨rfl, rfl⟩
  go_wp2_with fail
  go_ret
  exact ⟨rfl, rfl⟩
end Go.Proofs.YtemapfhiiefieaaDoor
