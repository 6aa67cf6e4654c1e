/- The reader's value and list: they read the value that begins what remains, or panic if there is none. -/
import Derived.Test.YtccdencaidopnaaBlk
import Derived.Laws.BytesArg
namespace Go.Proofs.Ytccdencaidopnaa
open Go.RowKit

def sgn (u : Nat) : Int := if u % 2 = 1 then -((u / 2 : Nat) : Int) - 1 else ((u / 2 : Nat) : Int)
theorem uns_sgn (u : Nat) : uns (sgn u) = u := by unfold sgn uns; split <;> split <;> omega
theorem sgn_range {u : Nat} (h : u < 18446744073709551616) : -9223372036854775808 ≤ sgn u ∧ sgn u ≤ 9223372036854775807 := by unfold sgn; split <;> omega

set_option maxHeartbeats 400000 in
theorem signedForm_any (u : Nat) (w : World) (hu : u < 18446744073709551616) : Calls Try.prog 50 #[.int .u64 u] w fun e w' => e = .returned (.int .i64 (sgn u)) ∧ w = w' := by
  by_cases h : u % 2 = 1
  · have HS := hide (show sgn u = -((u / 2 : Nat) : Int) - 1 by simp [sgn, h])
    have hb : ((u : Int) % 2 == 1) = true := by simp; omega
    clear h
    go_enter Try.func50, Try.ntmps50
    go_wp2_with fail
    go_ret
    exact ⟨by rw [HS.out]; refine ret_num ?_; omega, rfl⟩
  · have HS := hide (show sgn u = ((u / 2 : Nat) : Int) by simp [sgn, h])
    have hb : ((u : Int) % 2 == 1) = false := by simp; omega
    clear h
    go_enter Try.func50, Try.ntmps50
    go_wp2_with fail
    go_ret
    exact ⟨by rw [HS.out]; refine ret_num ?_; omega, rfl⟩

set_option maxHeartbeats 400000 in
theorem end_ok {Bb : Nat} (R : Nat) (a : Option Addr) (w : World) (hr : Rd Bb R a [] w) : Calls Try.prog 36 #[.pointer (some ⟨R, 0, none⟩)] w fun e w' => e = .returned (.tuple #[]) ∧ w = w' := by
  obtain ⟨c0, f0⟩ := hr.cell
  go_enter Try.func36, Try.ntmps36
  go_wp2_with fail
  go_end0
  exact ⟨rfl, rfl⟩

set_option maxHeartbeats 400000 in
theorem end_bad {Bb : Nat} (R : Nat) (a : Option Addr) (l : List UInt8) (w : World) (hr : Rd Bb R a l w) (hl : 0 < l.length) : Calls Try.prog 36 #[.pointer (some ⟨R, 0, none⟩)] w fun e w' => e = bad ∧ w = w' := by
  obtain ⟨c0, f0⟩ := hr.cell
  go_enter Try.func36, Try.ntmps36
  go_wp2_with fail
  exact ⟨rfl, rfl, rfl⟩

/-- What value does. -/
def ValuePost (Bb R d : Nat) (l : List UInt8) (w : World) (e : Ending) (w' : World) : Prop :=
  ((∃ (t : VT) (rest : List UInt8) (a : Option Addr), e = .returned t.val ∧ t.In w' ∧ t.wf = true ∧ t.dep ≤ d ∧ (∀ b ∈ t.blocks, w.heap.size ≤ b ∧ b < w'.heap.size) ∧ l = t.enc ++ rest ∧ Rd Bb R a rest w') ∨
    (e = bad ∧ ∀ (t : VT) (rest : List UInt8), t.wf = true → t.dep ≤ d → t.fits → l ≠ t.enc ++ rest)) ∧ w.grownBy w' (some R)

/-- What list does. -/
def ListPost (Bb R d : Nat) (l : List UInt8) (w : World) (e : Ending) (w' : World) : Prop :=
  ((∃ (t : VT) (rest : List UInt8) (a : Option Addr), e = .returned t.sl ∧ t.In w' ∧ t.kind = 3 ∧ t.num = 0 ∧ t.str = ⟨#[]⟩ ∧ t.wf = true ∧ t.dep ≤ d ∧ (∀ b ∈ t.blocks, w.heap.size ≤ b ∧ b < w'.heap.size) ∧ l = numeral t.els.length ++ VT.enc.encs t.els ++ rest ∧ Rd Bb R a rest w') ∨
    (e = bad ∧ ∀ (t : VT) (rest : List UInt8), t.kind = 3 → t.wf = true → t.dep ≤ d → t.fits → l ≠ numeral t.els.length ++ VT.enc.encs t.els ++ rest)) ∧ w.grownBy w' (some R)

def ValueAt (d : Nat) : Prop := ∀ (Bb R : Nat) (a : Option Addr) (l : List UInt8) (n : Int) (w : World), n = d → Rd Bb R a l w → l.length ≤ 1000000000 → Calls Try.prog 35 #[.pointer (some ⟨R, 0, none⟩), .int .i64 n] w (ValuePost Bb R d l w)
def ListAt (d : Nat) : Prop := ∀ (Bb R : Nat) (a : Option Addr) (l : List UInt8) (n : Int) (w : World), n = d → Rd Bb R a l w → l.length ≤ 1000000000 → Calls Try.prog 52 #[.pointer (some ⟨R, 0, none⟩), .int .i64 n] w (ListPost Bb R d l w)

theorem cons_enc {t : VT} {c : UInt8} {l rest : List UInt8} (hw : t.wf = true) (h : c :: l = t.enc ++ rest) : t.kind = (c.toNat : Nat) := by
  have he := VT.enc_eq t
  rcases VT.wf_kind hw with ⟨k, _⟩ | ⟨k, _⟩ | ⟨k, _⟩ <;> simp [k] at he <;> rw [he] at h <;> simp at h <;> rw [k, h.1] <;> rfl

theorem byte_eq {c : UInt8} {n : UInt8} (h : c.toNat = n.toNat) : c = n := UInt8.toNat_inj.1 h

theorem enc_ne (t : VT) : t.enc ≠ [] := by
  rw [VT.enc_eq]
  intro h
  by_cases h1 : t.kind = 1
  · simp [h1] at h
  · by_cases h2 : t.kind = 2
    · simp [h2] at h
    · simp [h1, h2] at h

/-- The block of a result of type Value. -/
def ResB (w : World) (X : Nat) : Prop := w.heap[X]? = some (.cells #[.int .i64 0, .int .i64 0, .string ⟨#[]⟩, .slice none 0 0] 24 (0, 0))
theorem ResB.cells {w : World} {X : Nat} (h : ResB w X) : (w.cell? ⟨X, 0, none⟩ = some (.int .i64 0) ∧ w.cell? ⟨X, 1, none⟩ = some (.int .i64 0) ∧ w.cell? ⟨X, 2, none⟩ = some (.string ⟨#[]⟩) ∧ w.cell? ⟨X, 3, none⟩ = some (.slice none 0 0)) ∧ ∀ i, w.frozen? ⟨X, i, none⟩ = false :=
  ⟨⟨by rw [cell_of_row w X 0 _ _ _ h]; rfl, by rw [cell_of_row w X 1 _ _ _ h]; rfl, by rw [cell_of_row w X 2 _ _ _ h]; rfl, by rw [cell_of_row w X 3 _ _ _ h]; rfl⟩, fun i => frozen_of_row w X i _ _ h⟩
theorem ResB.only {w w' : World} {X R : Nat} (h : ResB w X) (hg : w.grownBy w' (some R)) (hne : X ≠ R) : ResB w' X :=
  (hg.block X (Array.getElem?_eq_some_iff.1 h).1 (by intro e; injection e with e; exact hne e)).trans h

/-- The result of type Value is written. -/
abbrev put4 (w : World) (X : Nat) (v0 v1 v2 v3 : Value) : World := (((w.setCell ⟨X, 0, none⟩ v0).setCell ⟨X, 1, none⟩ v1).setCell ⟨X, 2, none⟩ v2).setCell ⟨X, 3, none⟩ v3
theorem put4_only {a w : World} {R X : Nat} (h : a.grownBy w (some R)) (hX : a.heap.size ≤ X) (v0 v1 v2 v3 : Value) : a.grownBy (put4 w X v0 v1 v2 v3) (some R) :=
  only_setCell (only_setCell (only_setCell (only_setCell h (.inr hX) _) (.inr hX) _) (.inr hX) _) (.inr hX) _
theorem put4_block (w : World) (X : Nat) (v0 v1 v2 v3 : Value) (b : Nat) (hb : b ≠ X) : (put4 w X v0 v1 v2 v3).heap[b]? = w.heap[b]? := by
  unfold put4
  rw [Below.heap_setCell _ _ _ _ (by simpa using hb), Below.heap_setCell _ _ _ _ (by simpa using hb), Below.heap_setCell _ _ _ _ (by simpa using hb), Below.heap_setCell _ _ _ _ (by simpa using hb)]
theorem put4_size (w : World) (X : Nat) (v0 v1 v2 v3 : Value) : (put4 w X v0 v1 v2 v3).heap.size = w.heap.size := by simp [put4, World.setCell]

theorem ResB.not_byte {w : World} {X : Nat} (h : ResB w X) (j : Nat) (x : Int) : w.cell? ⟨X, j, none⟩ ≠ some (.int .u8 x) := by
  rw [cell_of_row w X j _ _ _ h]
  match j with
  | 0 => simp
  | 1 => simp
  | 2 => simp
  | 3 => simp
  | j + 4 => simp

theorem Rd.put4 {Bb R X : Nat} {a : Option Addr} {l : List UInt8} {w : World} (h : Rd Bb R a l w) (hX : ResB w X) (hne : X ≠ R) (v0 v1 v2 v3 : Value) : Rd Bb R a l (put4 w X v0 v1 v2 v3) := by
  refine ⟨by rw [put4_block _ _ _ _ _ _ _ (Ne.symm hne)]; exact h.block, h.plain, fun i hi => ?_⟩
  obtain ⟨b, o, ha, hb, hlt, hc⟩ := h.bytes i hi
  have hbX : b ≠ X := by rintro rfl; exact hX.not_byte _ _ hc
  exact ⟨b, o, ha, hb, by rw [put4_size]; exact hlt, by rw [World.cell?_of_block (a := ⟨b, o + i, none⟩) (put4_block w X v0 v1 v2 v3 b hbX)]; exact hc⟩

set_option maxRecDepth 10000 in
set_option maxHeartbeats 1600000 in
theorem value_nil {Bb : Nat} (R d : Nat) (a : Option Addr) (n : Int) (w : World) (hr : Rd Bb R a [] w) : Calls Try.prog 35 #[.pointer (some ⟨R, 0, none⟩), .int .i64 n] w (ValuePost Bb R d [] w) := by
  have hr4 := hr.alloc (.cells #[.int .i64 0, .int .i64 0, .string ⟨#[]⟩, .slice none 0 0] 24)
  have HC := hide (take_0 R a _ hr4)
  go_enter Try.func35, Try.ntmps35
  go_wp2_with (go_at_call 49; refine HC.out.mono ?_; rintro e w' ⟨rfl, hg'⟩)
  exact ⟨rfl, .inr ⟨rfl, fun t rest _ _ _ h => enc_ne t (by cases he : t.enc with | nil => rfl | cons x y => rw [he] at h; simp at h)⟩, only_trans (only_alloc (only_refl _ _) _) hg'⟩

set_option maxRecDepth 10000 in
set_option maxHeartbeats 1600000 in
theorem value_other {Bb : Nat} (R d : Nat) (a : Option Addr) (c : UInt8) (l : List UInt8) (n : Int) (w : World) (hr : Rd Bb R a (c :: l) w) (hl : (c :: l).length ≤ 1000000000) (h1 : c.toNat ≠ 1) (h2 : c.toNat ≠ 2) (h3 : c.toNat ≠ 3) :
    Calls Try.prog 35 #[.pointer (some ⟨R, 0, none⟩), .int .i64 n] w (ValuePost Bb R d (c :: l) w) := by
  have hr4 := hr.alloc (.cells #[.int .i64 0, .int .i64 0, .string ⟨#[]⟩, .slice none 0 0] 24)
  have HC := hide (take_1 R a c l _ hr4 (by omega))
  have b1 : ((c.toNat : Int) == 1) = false := by simp; omega
  have b2 : ((c.toNat : Int) == 2) = false := by simp; omega
  have b3 : ((c.toNat : Int) == 3) = false := by simp; omega
  have HN := hide (And.intro h1 (And.intro h2 h3))
  clear h1 h2 h3
  go_enter Try.func35, Try.ntmps35
  go_wp2_with (go_at_call 49; refine HC.out.mono ?_; rintro e w' ⟨b, o, rfl, hcell, ⟨a2, hrd2⟩, hg'⟩)
  refine ⟨rfl, .inr ⟨rfl, fun t rest hw _ _ h => ?_⟩, only_trans (only_alloc (only_refl _ _) _) hg'⟩
  have hk := cons_enc hw h
  obtain ⟨h1, h2, h3⟩ := HN.out
  rcases VT.wf_kind hw with ⟨k, _⟩ | ⟨k, _⟩ | ⟨k, _⟩ <;> omega

set_option maxRecDepth 10000 in
set_option maxHeartbeats 1600000 in
theorem value_int {Bb : Nat} (R d : Nat) (a : Option Addr) (c : UInt8) (l : List UInt8) (n : Int) (w : World) (hr : Rd Bb R a (c :: l) w) (hl : (c :: l).length ≤ 1000000000) (h1 : c.toNat = 1) :
    Calls Try.prog 35 #[.pointer (some ⟨R, 0, none⟩), .int .i64 n] w (ValuePost Bb R d (c :: l) w) := by
  have hr4 := hr.alloc (.cells #[.int .i64 0, .int .i64 0, .string ⟨#[]⟩, .slice none 0 0] 24)
  have HC := hide (take_1 R a c l _ hr4 (by omega))
  have b1 : ((c.toNat : Int) == 1) = true := by simp; omega
  have HK := hide h1
  have hRX : w.heap.size ≠ R := by have := hr.lt; omega
  have HX := hide (show ResB (w.alloc (.cells #[.int .i64 0, .int .i64 0, .string ⟨#[]⟩, .slice none 0 0] 24)) w.heap.size from heap_alloc_new w _)
  clear h1
  go_enter Try.func35, Try.ntmps35
  go_wp2_with (first | (go_at_call 49; refine HC.out.mono ?_; rintro e w1 ⟨b, o, rfl, hcell, ⟨a2, hrd2⟩, hg1⟩) | (go_at_call 51; refine (numeral_any R _ l _ hrd2 (by simp at hl; omega)).mono ?_; rintro e w2 ⟨⟨u, rest, a3, rfl, hu, hlu, hrd3⟩ | ⟨rfl, hno⟩, hg2⟩) | (go_at_call 50; refine (signedForm_any _ _ hu).mono ?_; rintro e w3 ⟨rfl, rfl⟩; obtain ⟨⟨x0, x1, x2, x3⟩, xf⟩ := ((HX.out.only hg1 hRX).only hg2 hRX).cells))
  · refine bodyPost_ret (v := .agg #[.int .i64 1, .int .i64 (sgn u), .string ⟨#[]⟩, .slice none 0 0]) (by simp [results, Try.results35, go_sem, x0, x1, x2, x3]) rfl ?_
    have hsr := sgn_range hu
    refine ⟨.inl ⟨.mk 1 (sgn u) ⟨#[]⟩ none 0 [], rest, a3, rfl, ?_, ?_, ?_, ?_, ?_, ?_⟩, ?_⟩
    · exact VT.In.mk (by simp [VT.kind]) (by simpa [VT.num] using hsr) (by simp [VT.str, ByteArray.size]) (by simp [VT.els]) (by simp [VT.els]) (by intro i h; simp [VT.els] at h)
    · simp [VT.wf, Lib.toList_data]
    · simp [VT.dep]
    · intro b hb; simp [VT.blocks, VT.blocks.blockss] at hb
    · rw [hlu, byte_eq (n := 1) HK.out, VT.enc_eq]; simp [VT.kind, VT.num, uns_sgn]
    · exact hrd3.put4 ((HX.out.only hg1 hRX).only hg2 hRX) hRX _ _ _ _
    · exact put4_only (only_trans (only_trans (only_alloc (only_refl _ _) _) hg1) hg2) (Nat.le_refl _) _ _ _ _
  · refine ⟨rfl, .inr ⟨rfl, fun t rest hw _ hf h => ?_⟩, only_trans (only_trans (only_alloc (only_refl _ _) _) hg1) hg2⟩
    have hk := cons_enc hw h
    rw [HK.out] at hk
    have he : t.enc = 1 :: numeral (uns t.num) := by rw [VT.enc_eq, if_pos (by simpa using hk)]
    rw [he] at h
    simp at h
    rw [VT.fits_eq] at hf
    exact hno _ rest (uns_lt hf.1.1 hf.1.2) h.2
/-- 'string(b)' of bytes that were taken. -/
theorem conv_any {Bb R : Nat} {a : Option Addr} {l : List UInt8} {w w' : World} (h : Rd Bb R a l w) (hg : w.grownBy w' (some R)) (n : Nat) (hn : n ≤ l.length) :
    (convert 27 9 (.slice a n n)).run Try.prog w' = .ok (.string ⟨(l.take n).toArray⟩) w' := by
  cases a with
  | none =>
    have h0 : l = [] := by
      cases l with
      | nil => rfl
      | cons c l => obtain ⟨b, o, e, _⟩ := h.bytes 0 (by simp); cases e
    subst h0
    obtain rfl : n = 0 := by simpa using hn
    exact run_convert_bytes_nil w' 27 5 Try.underlying27 Try.underlying5 0 0 9 Try.underlying9
  | some p =>
    obtain ⟨b, o, s⟩ := p
    obtain rfl : s = none := (h.plain _ rfl).1
    have hm := h.move hg
    have hlen : ((l.take n).map fun c => (c.toNat : Int)).length = n := by simp; omega
    rw [run_convert_bytes_arg w' 27 5 Try.underlying27 Try.underlying5 b o n n ((l.take n).map fun c => (c.toNat : Int)) hlen (fun i hi => by
      obtain ⟨b1, o1, e, _, _, hc⟩ := hm i (by omega)
      simp only [Option.some.injEq, Addr.mk.injEq, and_true] at e
      obtain ⟨rfl, rfl⟩ := e
      rw [hc]
      simp only [List.getD_eq_getElem?_getD, List.getElem?_map, List.getElem?_take, if_pos hi, List.getElem?_eq_getElem (show i < l.length by omega), Option.map_some, Option.getD_some]) 9 Try.underlying9]
    congr 2
    have : (strOfNums ((l.take n).map fun c => (c.toNat : Int))).data.toList = l.take n := by
      rw [strOfNums_data, List.map_map]
      conv => rhs; rw [← List.map_id (l.take n)]
      refine List.map_congr_left fun c _ => ?_
      simp
    cases hS : strOfNums ((l.take n).map fun c => (c.toNat : Int)) with
    | mk data =>
      rw [hS] at this
      simp only at this
      rw [← this]

theorem text_enc {t : VT} (hk : t.kind = 2) : t.enc = 2 :: (numeral t.str.size ++ t.str.data.toList) := by rw [VT.enc_eq, if_neg (by omega), if_pos hk]

set_option maxRecDepth 10000 in
set_option maxHeartbeats 1600000 in
theorem value_text {Bb : Nat} (R d : Nat) (a : Option Addr) (c : UInt8) (l : List UInt8) (n : Int) (w : World) (hr : Rd Bb R a (c :: l) w) (hl : (c :: l).length ≤ 1000000000) (h1 : c.toNat = 2) :
    Calls Try.prog 35 #[.pointer (some ⟨R, 0, none⟩), .int .i64 n] w (ValuePost Bb R d (c :: l) w) := by
  have hr4 := hr.alloc (.cells #[.int .i64 0, .int .i64 0, .string ⟨#[]⟩, .slice none 0 0] 24)
  have HC := hide (take_1 R a c l _ hr4 (by omega))
  have b1 : ((c.toNat : Int) == 1) = false := by simp; omega
  have b2 : ((c.toNat : Int) == 2) = true := by simp; omega
  have HK := hide h1
  have hRX : w.heap.size ≠ R := by have := hr.lt; omega
  have HX := hide (show ResB (w.alloc (.cells #[.int .i64 0, .int .i64 0, .string ⟨#[]⟩, .slice none 0 0] 24)) w.heap.size from heap_alloc_new w _)
  have hl2 : l.length ≤ 1000000000 := by simp at hl; omega
  clear h1
  go_enter Try.func35, Try.ntmps35
  go_wp2_with fail
  refine HC.out.mono ?_
  rintro e w1 ⟨b, o, rfl, hcell, ⟨a2, hrd2⟩, hg1⟩
  go_wp2_with fail
  refine (numeral_any R _ l _ hrd2 (by omega)).mono ?_
  rintro e w2 ⟨⟨u, rest, a3, rfl, hu, hlu, hrd3⟩ | ⟨rfl, hno⟩, hg2⟩
  · have HLU := hide hlu
    have hrl : rest.length ≤ 1000000000 := by rw [hlu] at hl2; simp at hl2; omega
    clear hlu
    by_cases hur : u ≤ rest.length
    · have hut : u ≤ 1000000000 := by omega
      go_wp2_with fail
      refine (take_any R a3 rest u w2 hrd3 (by omega) hur).mono ?_
      rintro e w3 ⟨rfl, ⟨a4, hrd4⟩, hg3⟩
      have hcv := conv_any hrd3 hg3 u hur
      have hX3 := hide (((HX.out.only hg1 hRX).only hg2 hRX).only hg3 hRX)
      obtain ⟨⟨x0, x1, x2, x3⟩, xf⟩ := hX3.out.cells
      have hsz : (⟨(rest.take u).toArray⟩ : ByteArray).size = u := by simp [ByteArray.size]; omega
      have HSZ := hide hsz
      clear hsz
      generalize hS : (⟨(rest.take u).toArray⟩ : ByteArray) = S at *
      have HS := hide hS
      clear hS
      go_wp2_with fail
      refine bodyPost_ret (v := .agg #[.int .i64 2, .int .i64 0, .string S, .slice none 0 0]) (by simp [results, Try.results35, go_sem, x0, x1, x2, x3]) rfl ?_
      refine ⟨.inl ⟨.mk 2 0 S none 0 [], rest.drop u, a4, rfl, ?_, ?_, ?_, ?_, ?_, ?_⟩, ?_⟩
      · exact VT.In.mk (by simp [VT.kind]) (by simp [VT.num]) (by simp only [VT.str]; rw [HSZ.out]; omega) (by simp [VT.els]) (by simp [VT.els]) (by intro i h; simp [VT.els] at h)
      · simp [VT.wf]
      · simp [VT.dep]
      · intro b hb; simp [VT.blocks, VT.blocks.blockss] at hb
      · have hd : S.data.toList = rest.take u := by rw [← HS.out]
        rw [text_enc rfl]
        simp only [VT.str]
        rw [HSZ.out, hd, HLU.out, byte_eq (n := 2) HK.out]
        simp
      · exact hrd4.put4 hX3.out hRX _ _ _ _
      · exact put4_only (only_trans (only_trans (only_trans (only_alloc (only_refl _ _) _) hg1) hg2) hg3) (Nat.le_refl _) _ _ _ _
    · go_wp2_with fail
      refine (take_bad R a3 rest u w2 hrd3 (by omega) (by omega) hu).mono ?_
      rintro e w3 ⟨rfl, hg3⟩
      go_wp2_with fail
      refine ⟨rfl, .inr ⟨rfl, fun t r hw _ hf h => ?_⟩, only_trans (only_trans (only_trans (only_alloc (only_refl _ _) _) hg1) hg2) hg3⟩
      have hk := cons_enc hw h
      rw [HK.out] at hk
      rw [text_enc (by simpa using hk), HLU.out] at h
      simp at h
      rw [VT.fits_eq] at hf
      obtain ⟨h3, h4⟩ := numeral_prefix hu (by have := hf.2.1; omega) h.2
      rw [h4] at hur
      simp at hur
      have hs : t.str.data.toList.length = t.str.size := by rw [Array.length_toList]; rfl
      simp at hs
      omega
  · go_wp2_with fail
    refine ⟨rfl, .inr ⟨rfl, fun t r hw _ hf h => ?_⟩, only_trans (only_trans (only_alloc (only_refl _ _) _) hg1) hg2⟩
    have hk := cons_enc hw h
    rw [HK.out] at hk
    rw [text_enc (by simpa using hk)] at h
    simp at h
    rw [VT.fits_eq] at hf
    exact hno _ _ (by have := hf.2.1; omega) h.2
end Go.Proofs.Ytccdencaidopnaa
