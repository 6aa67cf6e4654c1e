/- A text of tokens, read again. -/
import Derived.Test.YtemapfhiiefieaaDoorPur
import Derived.Test.YtemapfhiiefieaaDoorRfew
import Derived.Lib.ItoaLen
namespace Go.Proofs.YtemapfhiiefieaaDoor
open Go.RowKit

theorem dec_small {u : Nat} (h : u < 10) : Lib.decDigits u = [UInt8.ofNat (48 + u)] := by rw [Lib.decDigits, dif_pos h]
theorem dec_big {u : Nat} (h : ¬ u < 10) : Lib.decDigits u = Lib.decDigits (u / 10) ++ [UInt8.ofNat (48 + u % 10)] := by rw [Lib.decDigits, dif_neg h]
theorem digit_toNat {u : Nat} (h : u < 10) : (UInt8.ofNat (48 + u)).toNat = 48 + u := by simp; omega
theorem isDg_digit {u : Nat} (h : u < 10) : isDg (UInt8.ofNat (48 + u)) = true := by
  rw [isDg_dec, digit_toNat h]
  simp; omega
theorem dec_isDg : ∀ u : Nat, ∀ c ∈ Lib.decDigits u, isDg c = true := by
  intro u
  induction u using Nat.strongRecOn with
  | _ u ih =>
    intro c hc
    by_cases h : u < 10
    · rw [dec_small h] at hc
      obtain rfl := List.mem_singleton.1 hc
      exact isDg_digit h
    · rw [dec_big h, List.mem_append] at hc
      rcases hc with hc | hc
      · exact ih (u / 10) (by omega) c hc
      · obtain rfl := List.mem_singleton.1 hc
        exact isDg_digit (Nat.mod_lt _ (by decide))
theorem dval_snoc (l : List UInt8) (c : UInt8) : dval (l ++ [c]) = 10 * dval l + (c.toNat - 48) := by
  unfold dval; rw [List.foldl_append]; rfl
theorem dec_dval : ∀ u : Nat, dval (Lib.decDigits u) = u := by
  intro u
  induction u using Nat.strongRecOn with
  | _ u ih =>
    by_cases h : u < 10
    · rw [dec_small h]
      unfold dval
      simp only [List.foldl_cons, List.foldl_nil, digit_toNat h]
      omega
    · rw [dec_big h, dval_snoc, ih (u / 10) (by omega), digit_toNat (Nat.mod_lt _ (by decide))]
      omega
theorem dec_ne (u : Nat) : Lib.decDigits u ≠ [] := by
  by_cases h : u < 10
  · rw [dec_small h]; simp
  · rw [dec_big h]; simp
theorem dec_head : ∀ u : Nat, 0 < u → (Lib.decDigits u).head? ≠ some 48 := by
  intro u
  induction u using Nat.strongRecOn with
  | _ u ih =>
    intro h0
    by_cases h : u < 10
    · rw [dec_small h]
      intro e
      simp only [List.head?_cons, Option.some.injEq] at e
      have := congrArg UInt8.toNat e
      rw [digit_toNat h] at this
      simp at this
      omega
    · have h1 := ih (u / 10) (by omega) (by omega)
      obtain ⟨c, q, e⟩ := List.exists_cons_of_ne_nil (dec_ne (u / 10))
      rw [e] at h1
      rw [dec_big h, e]
      simpa using h1
theorem dec_len : ∀ (k u : Nat), u < 10 ^ (k + 1) → (Lib.decDigits u).length ≤ k + 1
  | 0, u, h => by rw [dec_small (by simpa using h)]; simp
  | k + 1, u, h => by
    by_cases h1 : u < 10
    · rw [dec_small h1]; simp
    · rw [dec_big h1, List.length_append]
      have := dec_len k (u / 10) (by rw [Nat.pow_succ] at h; omega)
      simp; omega
theorem numB_dec {u : Nat} (h : u ≤ 1099511627776) : numB (Lib.decDigits u) = some u := by
  unfold numB
  rw [if_neg, dec_dval, if_pos h]
  rintro ⟨h1, h2⟩
  by_cases h0 : u = 0
  · subst h0; rw [dec_small (by decide)] at h1; simp at h1
  · exact dec_head u (by omega) h2

theorem takeWhile_past {p : UInt8 → Bool} {l r : List UInt8} (h : ∀ c ∈ l, p c = true) (hr : r.takeWhile p = []) : (l ++ r).takeWhile p = l := by
  rw [List.takeWhile_append_of_pos h, hr, List.append_nil]
/-- Nothing follows, or a space. -/
def Past (r : List UInt8) : Prop := r = [] ∨ ∃ r', r = 32 :: r'
theorem Past.stop {r : List UInt8} (h : Past r) {p : UInt8 → Bool} (hp : p 32 = false) : r.takeWhile p = [] := by
  rcases h with rfl | ⟨r', rfl⟩
  · rfl
  · simp [hp]
/-- A token that is valid, as one that Lex answers. -/
def Tok.tk (t : Tok) (a : Nat) : Tk := ⟨t.kind.toNat, t.text.data.toList, t.n.toNat, a⟩
/-- The text of a token that is valid is read as this token, whatever follows a space. -/
theorem stp_text (t : Tok) (hv : validT t = true) {r : List UInt8} (hr : Past r) :
    stp ((textT t).data.toList ++ r) = some ((textT t).data.toList.length, some (t.kind.toNat, t.text.data.toList, t.n.toNat)) := by
  obtain ⟨k, s, n, p⟩ := t
  unfold validT at hv
  simp only at hv
  split at hv
  · rename_i hk
    subst hk
    simp only [Bool.and_eq_true, beq_iff_eq] at hv
    obtain ⟨rfl, hn⟩ := hv
    have hx : textT ⟨1, s, 0, p⟩ = s := by simp [textT]
    rw [hx]
    generalize s.data.toList = l at *
    match l, hn with
    | x :: q, hn =>
      have hn' := hn
      simp only [nameB, List.length_cons, Nat.zero_lt_succ, dif_pos, Bool.and_eq_true, beq_iff_eq, List.getElem_cons_zero] at hn'
      have hc : cls x = 4 := by have := hn'.1.2; simpa [isLt] using this
      have hw : (x :: q).takeWhile isNm = x :: q := (List.takeWhile_prefix isNm).eq_of_length (by rw [hn'.2]; rfl)
      have hall : ∀ c ∈ x :: q, isNm c = true := by
        intro c hc
        rw [← hw] at hc
        exact (List.all_eq_true.1 (List.all_takeWhile (p := isNm) (l := x :: q))) c hc
      have h2 := takeWhile_past hall (hr.stop (p := isNm) (by decide))
      simp only [List.cons_append] at h2 ⊢
      simp only [stp, h2]
      simp [hc, hn]
  · split at hv
    · rename_i hk
      subst hk
      simp only [Bool.and_eq_true, decide_eq_true_eq] at hv
      obtain ⟨hs, h0, hle⟩ := hv
      rw [ByteArray.toList_eq] at hs
      obtain ⟨u, rfl⟩ : ∃ u : Nat, n = u := ⟨n.toNat, by omega⟩
      have hx : (textT ⟨2, s, u, p⟩).data.toList = Lib.decDigits u := by simp [textT, Lib.itoa_nonneg]
      have hnb := numB_dec (u := u) (by omega)
      rw [hx, hs]
      simp only [Int.toNat_natCast]
      have hall := dec_isDg u
      have hne := dec_ne u
      generalize Lib.decDigits u = l at *
      match l, hne with
      | x :: q, _ =>
        have hd := hall x (by simp)
        have hc : cls x = 3 := by simpa [isDg] using hd
        have h2 := takeWhile_past hall (hr.stop (p := isDg) (by decide))
        simp only [List.cons_append] at h2 ⊢
        simp only [stp, h2, hnb]
        simp [hc]
    · split at hv
      · rename_i hk
        subst hk
        simp only [Bool.and_eq_true, beq_iff_eq] at hv
        obtain ⟨rfl, hn⟩ := hv
        have hx : textT ⟨3, s, 0, p⟩ = s := by simp [textT]
        rw [hx]
        generalize s.data.toList = l at *
        match l, hn with
        | [x], hn =>
          have hc : cls x = 2 := by simpa [signB, isSg] using hn
          have h2 : ¬ (x :: r).take 2 = [47, 47] := by
            rcases hr with rfl | ⟨r', rfl⟩ <;> simp
          simp only [List.cons_append, List.nil_append]
          simp only [stp, if_neg h2]
          simp [hc]
        | [], hn => simp [signB] at hn
        | _ :: _ :: _, hn => simp [signB] at hn
      · cases hv
theorem sameT_self (t : Tok) (a : Nat) (hv : validT t = true) : sameT t (t.tk a).tok = true := by
  obtain ⟨k, s, n, p⟩ := t
  have h : 0 ≤ k ∧ 0 ≤ n := by
    unfold validT at hv
    simp only at hv
    split at hv
    · simp only [Bool.and_eq_true, beq_iff_eq] at hv; omega
    · split at hv
      · simp only [Bool.and_eq_true, decide_eq_true_eq] at hv; omega
      · split at hv
        · simp only [Bool.and_eq_true, beq_iff_eq] at hv; omega
        · cases hv
  have hk : ((k.toNat : Nat) : Int) = k := by omega
  have hn : ((n.toNat : Nat) : Int) = n := by omega
  simp [sameT, Tok.tk, hk, hn, str_data]

theorem textT_len (t : Tok) (hv : validT t = true) : (textT t).size ≤ t.text.size + 13 := by
  obtain ⟨k, s, n, p⟩ := t
  unfold textT
  simp only
  split
  · rename_i hk
    subst hk
    have hv2 : 0 ≤ n ∧ n ≤ 1099511627776 := by
      unfold validT at hv
      simp at hv
      exact hv.2
    obtain ⟨u, rfl⟩ : ∃ u : Nat, n = u := ⟨n.toNat, by omega⟩
    have h := dec_len 12 u (by have := hv2.2; omega)
    rw [Lib.itoa_nonneg]
    have e : (str (Lib.decDigits u)).size = _ := str_size _
    rw [e]
    omega
  · omega
theorem textT_any (t : Tok) (hf : -9223372036854775808 ≤ t.n ∧ t.n ≤ 9223372036854775807) : (textT t).size ≤ t.text.size + 21 := by
  unfold textT
  split
  · have := Lib.itoa_length_le t.n hf.1 hf.2
    have e : (str (Lib.itoa t.n)).size = _ := str_size _
    rw [e]
    omega
  · omega
theorem joinT_nil : joinT [] = [] := rfl
theorem joinT_one (t : Tok) : joinT [t] = (textT t).data.toList := by simp [joinT, Lib.join_one]
theorem joinT_cons (t u : Tok) (l : List Tok) : joinT (t :: u :: l) = (textT t).data.toList ++ 32 :: joinT (u :: l) := by
  simp only [joinT, List.map_cons, Lib.join_cons, Lib.joinTail, List.flatten_cons]
  simp
theorem joinT_len (B : Nat) : ∀ (l : List Tok), (∀ t ∈ l, (textT t).size ≤ t.text.size + B) → (joinT l).length ≤ sumT l + l.length * (B + 1)
  | [], _ => by simp [joinT_nil]
  | [t], h => by
    have := h t (by simp)
    rw [joinT_one]
    have e : sumT [t] = t.text.size + 0 := rfl
    rw [e]
    simp only [List.length_singleton, ByteArray.size, Array.length_toList] at this ⊢
    omega
  | t :: u :: l, h => by
    have h1 := h t (by simp)
    have h2 := joinT_len B (u :: l) (fun v hv => h v (by simp [List.mem_cons.1 hv]))
    have e : sumT (t :: u :: l) = t.text.size + sumT (u :: l) := rfl
    rw [joinT_cons, e]
    simp only [ByteArray.size, List.length_append, List.length_cons, Array.length_toList, Nat.succ_mul] at h1 h2 ⊢
    omega
/-- A text is read as its tokens. -/
theorem lex_join : ∀ (l : List Tok) (a : Nat), l.all validT = true → ∃ ts, lexR (joinT l) a = .ok ts ∧ samesT l (toks ts) = true ∧ ts.length = l.length
  | [], a, _ => ⟨[], by rw [joinT_nil, lexR_nil], rfl, rfl⟩
  | [t], a, h => by
    have hv : validT t = true := by simpa using h
    have hs := stp_text t hv (r := []) (.inl rfl)
    rw [List.append_nil] at hs
    refine ⟨[t.tk a], ?_, ?_, rfl⟩
    · rw [joinT_one, lexR_tok hs, List.drop_length, lexR_nil]; rfl
    · simp only [toks, List.map_cons, List.map_nil, samesT, sameT_self t a hv]; rfl
  | t :: u :: l, a, h => by
    rw [List.all_cons, Bool.and_eq_true] at h
    obtain ⟨hv, hl⟩ := h
    have hs := stp_text t hv (r := 32 :: joinT (u :: l)) (.inr ⟨_, rfl⟩)
    obtain ⟨ts, h1, h2, h3⟩ := lex_join (u :: l) (a + (textT t).data.toList.length + 1) hl
    refine ⟨t.tk a :: ts, ?_, ?_, by simp [h3]⟩
    · rw [joinT_cons, lexR_tok hs, List.drop_left]
      have hsp : stp (32 :: joinT (u :: l)) = some (1, none) := by simp [stp, cls32]
      rw [lexR_skip hsp, List.drop_succ_cons, List.drop_zero, h1]
      rfl
    · simp only [toks, List.map_cons, samesT, Bool.and_eq_true]
      exact ⟨sameT_self t a hv, h2⟩
theorem toks_valid {ts : List Tk} (h : ∀ t ∈ ts, t.ok) : (toks ts).all validT = true := by
  rw [List.all_eq_true]
  intro t ht
  obtain ⟨u, hu, rfl⟩ := List.mem_map.1 ht
  exact h u hu
theorem sumT_toks : ∀ ts : List Tk, sumT (toks ts) = (ts.map (fun t => t.text.length)).sum
  | [] => rfl
  | t :: ts => by
    have := sumT_toks ts
    have e : sumT (toks (t :: ts)) = (str t.text).size + sumT (toks ts) := rfl
    rw [e, this, str_size]
    rfl
end Go.Proofs.YtemapfhiiefieaaDoor
