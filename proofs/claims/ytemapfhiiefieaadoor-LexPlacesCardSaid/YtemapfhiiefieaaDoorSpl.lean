/- spelled; and what stands between the tokens. -/
import Derived.Test.YtemapfhiiefieaaDoorRtxt
import Derived.Test.YtemapfhiiefieaaDoorGap
namespace Go.Proofs.YtemapfhiiefieaaDoor
open Go.RowKit

set_option maxRecDepth 10000 in
set_option maxHeartbeats 1600000 in
theorem spelled_num (u : Nat) (s : ByteArray) (p : Int) (w : World) (hu : u ≤ 1099511627776) :
    Calls Tryd.prog 23 #[(⟨2, s, u, p⟩ : Tok).val] w fun e w' => e = .returned (.string (str (Lib.decDigits u))) ∧ Below w.heap.size w w' := by
  have HB := hide (below_new w (.cells #[.int .i64 2, .string s, .int .i64 (u : Nat), .int .i64 p] 35))
  go_enter Tryd.func23, Tryd.ntmps23
  go_wp2_with fail
  go_loopw [3, 4] (fun y x wr => ∃ (v : Nat) (d : List UInt8), x = .int .i64 v ∧ y = .string (str d) ∧ v ≤ u ∧ Hid (Lib.decDigits u = Lib.decDigits v ++ d) ∧ Hid (Below w.heap.size w wr)) (fun _ x _ => (intOf x).toNat)
  case atStart => exact ⟨u, [], rfl, rfl, Nat.le_refl _, hide (by simp), HB⟩
  case round =>
    clear HB
    obtain ⟨v, d, rfl, rfl, hvu, hp, hb⟩ := hrel
    have hdl : d.length ≤ 13 := by
      have h1 := dec_len 12 u (by omega)
      rw [hp.out, List.length_append] at h1
      omega
    have hds := str_size d
    have hcv := conv_dig wr v
    have HB := hide (hb.out.alloc hb.out.size (.cells #[.int .u8 (48 + (v : Int) % 10)] 5))
    by_cases h10 : v < 10
    · have hd : decide ((v : Int) < 10) = true := by simp; omega
      go_wp2_with fail
      go_ret
      refine ⟨?_, HB.out⟩
      rw [hp.out, dec_dgt h10, ← str_app]
      rfl
    · have hd : decide ((v : Int) < 10) = false := by simp; omega
      go_wp2_with fail
      refine ⟨⟨v / 10, dgt v :: d, by simp, by rw [str_app]; rfl, by omega, hide ?_, HB⟩, ?_⟩
      · rw [hp.out, dec_more h10, List.append_assoc]; rfl
      · simp [intOf]; omega
set_option maxRecDepth 10000 in
theorem spelled_other (k : Int) (s : ByteArray) (n p : Int) (w : World) (hk : k ≠ 2) :
    Calls Tryd.prog 23 #[(⟨k, s, n, p⟩ : Tok).val] w fun e w' => e = .returned (.string s) ∧ Below w.heap.size w w' := by
  have HB := hide (below_new w (.cells #[.int .i64 k, .string s, .int .i64 n, .int .i64 p] 35))
  have hd : (k != 2) = true := by simpa using hk
  go_enter Tryd.func23, Tryd.ntmps23
  go_wp2_with fail
  go_ret
  exact ⟨rfl, HB.out⟩
theorem spelled_any (t : Tk) (w : World) (hv : t.ok) : Calls Tryd.prog 23 #[t.tok.val] w fun e w' => e = .returned (.string (textT t.tok)) ∧ Below w.heap.size w w' := by
  obtain ⟨k, s, n, p⟩ := t
  by_cases hk : k = 2
  · subst hk
    have hn : (n : Int) ≤ 1099511627776 := (valid_num hv).2
    have hx : textT (Tk.tok ⟨2, s, n, p⟩) = str (Lib.decDigits n) := by simp [textT, Lib.itoa_nonneg]
    rw [hx]
    exact spelled_num n (str s) p w (by omega)
  · have hx : textT (Tk.tok ⟨k, s, n, p⟩) = str s := by
      unfold textT
      rw [if_neg (by simp only; omega)]
    rw [hx]
    exact spelled_other k (str s) n p w (by omega)

/-- A figure without a zero ahead is the numeral of its value. -/
theorem dec_of_dval : ∀ (n : Nat) (l : List UInt8), l.length = n → l ≠ [] → (∀ c ∈ l, isDg c = true) → (1 < l.length → l.head? ≠ some 48) → Lib.decDigits (dval l) = l := by
  intro n
  induction n with
  | zero => intro l h h0; exact absurd (List.length_eq_zero_iff.1 h) h0
  | succ n ih =>
    intro l hl h0 hall hz
    obtain ⟨q, c, rfl⟩ : ∃ q c, l = q ++ [c] := ⟨l.dropLast, l.getLast h0, (List.dropLast_concat_getLast h0).symm⟩
    obtain ⟨r1, r2⟩ := isDg_range (hall c (by simp))
    have hc : UInt8.ofNat (48 + (c.toNat - 48)) = c := by
      apply UInt8.toNat_inj.1
      simp
      omega
    rw [dval_snoc]
    by_cases hq : q = []
    · subst hq
      have h1 : dval ([] : List UInt8) = 0 := rfl
      rw [h1, dec_small (by omega)]
      rw [show 10 * 0 + (c.toNat - 48) = c.toNat - 48 by omega, hc]
      rfl
    · have hqh : q.head? ≠ some 48 := by
        have := hz (by have := List.length_pos_iff.2 hq; simp; omega)
        rwa [List.head?_append, (by obtain ⟨y, ys, rfl⟩ := List.exists_cons_of_ne_nil hq; simp : q.head?.or [c].head? = q.head?)] at this
      have h2 := ih q (by simp at hl; exact hl) hq (fun x hx => hall x (by simp [hx])) (fun _ => hqh)
      have h3 : 0 < dval q := by
        rcases Nat.eq_zero_or_pos (dval q) with h | h
        · rw [h, dec_small (by decide)] at h2
          rw [← h2] at hqh
          exact absurd rfl hqh
        · exact h
      rw [dec_big (by omega), show (10 * dval q + (c.toNat - 48)) / 10 = dval q by omega, h2, show (10 * dval q + (c.toNat - 48)) % 10 = c.toNat - 48 by omega, hc]

/-- What a law reads between tokens: white space and comments. -/
def scan : List UInt8 → Bool → Option Bool
  | [], b => some b
  | c :: g, b =>
    if c.toNat = 10 then scan g false
    else if b = true then scan g true
    else if c.toNat = 47 ∧ (g.head?.map (·.toNat)) = some 47 then scan g true
    else if isWh c = true then scan g false
    else none
theorem scan_step {g : List UInt8} {m : Nat} {b b0 : Bool} (hm : m < g.length) (h : scan (g.drop m) b = some b0) :
    (g[m].toNat = 10 ∧ scan (g.drop (m + 1)) false = some b0) ∨ (g[m].toNat ≠ 10 ∧ b = true ∧ scan (g.drop (m + 1)) true = some b0) ∨
      (g[m].toNat ≠ 10 ∧ b = false ∧ g[m].toNat = 47 ∧ (∃ h : m + 1 < g.length, g[m + 1].toNat = 47) ∧ scan (g.drop (m + 1)) true = some b0) ∨
      (g[m].toNat ≠ 10 ∧ b = false ∧ g[m].toNat ≠ 47 ∧ isWh g[m] = true ∧ scan (g.drop (m + 1)) false = some b0) := by
  rw [drop_head hm] at h
  simp only [scan] at h
  by_cases h1 : g[m].toNat = 10
  · rw [if_pos h1] at h; exact .inl ⟨h1, h⟩
  · rw [if_neg h1] at h
    cases b with
    | true => rw [if_pos rfl] at h; exact .inr (.inl ⟨h1, rfl, h⟩)
    | false =>
      rw [if_neg (by simp)] at h
      by_cases h2 : g[m].toNat = 47 ∧ ((g.drop (m + 1)).head?.map (·.toNat)) = some 47
      · rw [if_pos h2] at h
        refine .inr (.inr (.inl ⟨h1, rfl, h2.1, ?_, h⟩))
        by_cases h3 : m + 1 < g.length
        · refine ⟨h3, ?_⟩
          have := h2.2
          rw [drop_head h3, List.head?_cons, Option.map_some] at this
          exact Option.some.inj this
        · have := h2.2
          rw [List.drop_eq_nil_of_le (by omega)] at this
          simp at this
      · rw [if_neg h2] at h
        split at h
        · rename_i h4
          refine .inr (.inr (.inr ⟨h1, rfl, ?_, h4, h⟩))
          intro e
          have h5 : g[m] = 47 := UInt8.toNat_inj.1 e
          rw [h5] at h4
          exact absurd h4 (by decide)
        · cases h
theorem scan_line : ∀ (ws g : List UInt8), (∀ c ∈ ws, isLn c = true) → scan (ws ++ g) true = scan g true
  | [], g, _ => rfl
  | c :: ws, g, h => by
    have hc : c.toNat ≠ 10 := by
      have := h c (by simp)
      simpa [isLn] using this
    rw [List.cons_append, scan, if_neg hc, if_pos rfl]
    exact scan_line ws g (fun d hd => h d (by simp [hd]))

/-- A token's text. -/
def Tk.txt (t : Tk) : List UInt8 := (textT t.tok).data.toList
/-- The text of a token stands where it was read. -/
theorem stp_txt {r : List UInt8} {sz k n : Nat} {t : List UInt8} (h : stp r = some (sz, some (k, t, n))) (a : Nat) : (⟨k, t, n, a⟩ : Tk).txt = r.take sz := by
  match r, h with
  | x :: r, h =>
    have htk : ∀ p : UInt8 → Bool, (x :: r).takeWhile p = (x :: r).take ((x :: r).takeWhile p).length := fun p => (List.prefix_iff_eq_take.1 (List.takeWhile_prefix p))
    simp only [stp] at h
    split at h
    · simp at h
    · split at h
      · split at h
        · simp at h
        · simp at h
          obtain ⟨rfl, rfl, rfl, rfl⟩ := h
          simp [Tk.txt, textT]
      · split at h
        · rename_i h3
          cases hn : numB ((x :: r).takeWhile isDg) with
          | none => rw [hn] at h; simp at h
          | some m =>
            rw [hn] at h
            simp only [Option.some.injEq, Prod.mk.injEq] at h
            obtain ⟨rfl, rfl, rfl, rfl⟩ := h
            rw [← htk isDg]
            have hne : (x :: r).takeWhile isDg ≠ [] := by
              rw [List.takeWhile_cons, if_pos (by simp [isDg, h3])]; simp
            have hall : ∀ c ∈ (x :: r).takeWhile isDg, isDg c = true := fun c hc => List.all_eq_true.1 (List.all_takeWhile (p := isDg) (l := x :: r)) c hc
            generalize (x :: r).takeWhile isDg = q at *
            unfold numB at hn
            split at hn
            · cases hn
            · rename_i hz
              split at hn
              · cases hn
                have := dec_of_dval q.length q rfl hne hall (fun h1 h2 => hz ⟨h1, h2⟩)
                simp [Tk.txt, textT, Lib.itoa_nonneg, this]
              · cases hn
        · split at h
          · split at h
            · simp only [Option.some.injEq, Prod.mk.injEq] at h
              obtain ⟨rfl, rfl, rfl, rfl⟩ := h
              rw [← htk isNm]
              simp [Tk.txt, textT]
            · cases h
          · cases h
/-- Where the first token stands, and what is before it. -/
def Places (cm : Bool) (r : List UInt8) (a : Nat) : List Tk → Prop
  | [] => ∃ b, scan r cm = some b
  | t :: ts => ∃ g r', r = g ++ (t.txt ++ r') ∧ scan g cm = some false ∧ t.pos = a + g.length ∧ t.txt ≠ [] ∧ lexR r' (a + g.length + t.txt.length) = .ok ts
theorem places_of : ∀ (r : List UInt8) (a : Nat) (ts : List Tk) (cm : Bool), (cm = true → r = [] ∨ r.head? = some 10) → lexR r a = .ok ts → Places cm r a ts := by
  apply steps_ind (P := fun r => ∀ (a : Nat) (ts : List Tk) (cm : Bool), (cm = true → r = [] ∨ r.head? = some 10) → lexR r a = .ok ts → Places cm r a ts)
  · intro a ts cm _ h
    rw [lexR_nil] at h
    cases h
    exact ⟨cm, rfl⟩
  · intro r hr h a ts cm _ hp; rw [lexR_wrong hr h] at hp; cases hp
  · intro r sz o h ih a ts cm hcm hp
    obtain ⟨p1, p2⟩ := stp_size h
    have hr : r ≠ [] := by intro e; subst e; simp [stp] at h
    cases o with
    | some y =>
      obtain ⟨k, t, n⟩ := y
      have htx := stp_txt h a
      rw [lexR_tok h] at hp
      cases he : lexR (r.drop sz) (a + sz) with
      | error q => rw [he] at hp; cases hp
      | ok us =>
        rw [he] at hp
        cases hp
        have hf : cm = false := by
          cases cm with
          | false => rfl
          | true =>
            rcases hcm rfl with h0 | h0
            · exact absurd h0 hr
            · match r, h0 with
              | x :: r, h0 =>
                obtain rfl : x = 10 := by simpa using h0
                simp [stp, cls10] at h
        subst hf
        have hln : (⟨k, t, n, a⟩ : Tk).txt.length = sz := by rw [htx, List.length_take]; omega
        refine ⟨[], r.drop sz, ?_, rfl, rfl, ?_, ?_⟩
        · rw [htx, List.nil_append, List.take_append_drop]
        · intro e; rw [e] at hln; simp at hln; omega
        · rw [hln]; exact he
    | none =>
      rw [lexR_skip h] at hp
      -- what is passed over is read as the law reads it
      have key : ∃ cm', (cm' = true → r.drop sz = [] ∨ (r.drop sz).head? = some 10) ∧ ∀ g, scan (r.take sz ++ g) cm = scan g cm' := by
        match r, h with
        | x :: r, h =>
          simp only [stp] at h
          split at h
          · rename_i h1
            simp only [Option.some.injEq, Prod.mk.injEq] at h
            obtain ⟨rfl, _⟩ := h
            refine ⟨false, by simp, fun g => ?_⟩
            have hw : isWh x = true := by simp [isWh, h1]
            have h47 : ¬ x.toNat = 47 := fun e => by
              rw [show x = 47 from UInt8.toNat_inj.1 e] at h1
              exact absurd h1 (by decide)
            simp only [List.take_succ_cons, List.take_zero, List.cons_append, List.nil_append, scan]
            by_cases h10 : x.toNat = 10
            · rw [if_pos h10]
            · have hf : cm = false := by
                cases cm with
                | false => rfl
                | true =>
                  rcases hcm rfl with h0 | h0
                  · cases h0
                  · exact absurd (show x.toNat = 10 by have : x = 10 := by simpa using h0
                                                       rw [this]; rfl) h10
              rw [if_neg h10, hf, if_neg (by simp), if_neg (by rintro ⟨e, _⟩; exact h47 e), if_pos hw]
          · split at h
            · rename_i h2
              split at h
              · rename_i h5
                simp only [Option.some.injEq, Prod.mk.injEq] at h
                obtain ⟨rfl, _⟩ := h
                have hf : cm = false := by
                  cases cm with
                  | false => rfl
                  | true =>
                    rcases hcm rfl with h0 | h0
                    · cases h0
                    · have hx : x = 10 := by simpa using h0
                      rw [hx] at h2
                      exact absurd h2 (by decide)
                subst hf
                match r, h5 with
                | y :: r, h5 =>
                  simp at h5
                  obtain ⟨rfl, rfl⟩ := h5
                  have e47 : isLn 47 = true := by decide
                  have htw : (47 :: 47 :: r).takeWhile isLn = 47 :: 47 :: r.takeWhile isLn := by simp [e47]
                  have htk := List.prefix_iff_eq_take.1 (List.takeWhile_prefix isLn (l := 47 :: 47 :: r))
                  refine ⟨true, fun _ => ?_, fun g => ?_⟩
                  · rw [htw]
                    simp only [List.length_cons, List.drop_succ_cons]
                    have hd : r.drop (r.takeWhile isLn).length = r.dropWhile isLn := by
                      have := List.takeWhile_append_dropWhile (p := isLn) (l := r)
                      conv => lhs; rw [← this]
                      rw [show (r.takeWhile isLn ++ r.dropWhile isLn).takeWhile isLn = r.takeWhile isLn by rw [this]]
                      exact List.drop_left
                    rw [hd]
                    cases hdw : r.dropWhile isLn with
                    | nil => exact .inl rfl
                    | cons z zs =>
                      right
                      have hz := List.head_dropWhile_not isLn (l := r) (by rw [hdw]; simp)
                      simp only [hdw, List.head_cons] at hz
                      have : z.toNat = 10 := by simpa [isLn] using hz
                      rw [show z = 10 from UInt8.toNat_inj.1 this]
                      rfl
                  · rw [← htk, htw]
                    have hsl := scan_line (47 :: r.takeWhile isLn) g (fun c hc => by
                      rcases List.mem_cons.1 hc with rfl | hc
                      · exact e47
                      · exact List.all_eq_true.1 (List.all_takeWhile (p := isLn) (l := r)) c hc)
                    rw [← hsl]
                    simp [scan]
              · simp at h
            · split at h
              · split at h <;> simp at h
              · split at h
                · split at h <;> simp at h
                · cases h
      obtain ⟨cm', k1, k2⟩ := key
      have hpl := ih _ _ cm' k1 hp
      have hsz : (r.take sz).length = sz := by rw [List.length_take]; omega
      match ts, hpl with
      | [], ⟨b, hb⟩ =>
        refine ⟨b, ?_⟩
        have := k2 (r.drop sz)
        rw [List.take_append_drop] at this
        rw [this, hb]
      | t :: ts, ⟨g, r', q1, q2, q3, q4, q5⟩ =>
        refine ⟨r.take sz ++ g, r', ?_, ?_, ?_, q4, ?_⟩
        · rw [List.append_assoc, ← q1, List.take_append_drop]
        · rw [k2, q2]
        · rw [q3, List.length_append, hsz]; omega
        · rw [List.length_append, hsz, ← Nat.add_assoc]; exact q5
end Go.Proofs.YtemapfhiiefieaaDoor
