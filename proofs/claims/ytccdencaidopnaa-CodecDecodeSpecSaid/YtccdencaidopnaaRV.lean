/- The reference's reader: Value: numbers. -/
import Derived.Test.YtccdencaidopnaaRRdN
import Derived.Test.YtccdencaidopnaaRdL
namespace Go.Proofs.Ytccdencaidopnaa
open Go.RowKit

theorem RR.other {R : Nat} {a : Option Addr} {l : List UInt8} {cap at' : Nat} {bd : Bool} {w w' : World} {row : Option Nat} (h : RR R a l cap at' bd w) (hg : w.grownBy w' row) (h1 : some R ≠ row) (h2 : ∀ b o, a = some ⟨b, o, none⟩ → some b ≠ row) : RR R a l cap at' bd w' := by
  refine ⟨(hg.block R h.lt h1).trans h.block, fun i hi => ?_⟩
  obtain ⟨b, o, ha, hb, hlt, hc⟩ := h.bytes i hi
  refine ⟨b, o, ha, hb, Nat.lt_of_lt_of_le hlt hg.size, ?_⟩
  rw [World.cell?_of_block (a := ⟨b, o + i, none⟩) (hg.block b hlt (h2 b o ha))]
  exact hc
theorem RR.put4 {R X : Nat} {a : Option Addr} {l : List UInt8} {cap at' : Nat} {bd : Bool} {w : World} (h : RR R a l cap at' bd w) (hX : ResB w X) (hne : X ≠ R) (v0 v1 v2 v3 : Value) : RR R a l cap at' bd (put4 w X v0 v1 v2 v3) := by
  refine ⟨by rw [put4_block _ _ _ _ _ _ _ (Ne.symm hne)]; exact h.block, fun i hi => ?_⟩
  obtain ⟨b, o, ha, hb, hlt, hc⟩ := h.bytes i hi
  have hbX : b ≠ X := by rintro rfl; exact hX.not_byte _ _ hc
  exact ⟨b, o, ha, hb, by rw [put4_size]; exact hlt, by rw [World.cell?_of_block (a := ⟨b, o + i, none⟩) (put4_block w X v0 v1 v2 v3 b hbX)]; exact hc⟩

/-- A value of four parts, whatever they are. -/
def Agg4 (v : Value) : Prop := ∃ (k m : Int) (s : ByteArray) (A : Option Addr) (N C : Nat), v = .agg #[.int .i64 k, .int .i64 m, .string s, .slice A N C]

/-- What Value does. -/
def RVPost (R d : Nat) (a : Option Addr) (l : List UInt8) (cap at' : Nat) (w : World) (e : Ending) (w' : World) : Prop :=
  ((∃ (t : VT) (n : Nat), e = .returned t.val ∧ t.In w' ∧ t.wf = true ∧ t.dep ≤ d ∧ (∀ b ∈ t.blocks, w.heap.size ≤ b ∧ b < w'.heap.size) ∧ l.drop at' = t.enc ++ l.drop n ∧ at' ≤ n ∧ n ≤ l.length ∧ RR R a l cap n false w') ∨
    ((∃ (v : Value) (n : Nat), e = .returned v ∧ Agg4 v ∧ n ≤ l.length ∧ RR R a l cap n true w') ∧ ∀ (t : VT) (rest : List UInt8), t.wf = true → t.dep ≤ d → t.fits → l.drop at' ≠ t.enc ++ rest)) ∧ w.grownBy w' (some R)

theorem drop_cons {l : List UInt8} {i : Nat} (h : i < l.length) : l.drop i = l[i] :: l.drop (i + 1) := List.drop_eq_getElem_cons h

abbrev Z24 : Obj := .cells #[.int .i64 0, .int .i64 0, .string ⟨#[]⟩, .slice none 0 0] 24

set_option maxRecDepth 10000 in
set_option maxHeartbeats 1600000 in
theorem rvalue_end (R d : Nat) (a : Option Addr) (l : List UInt8) (cap at' : Nat) (n : Int) (w : World) (hr : RR R a l cap at' false w) (hat : at' = l.length) :
    Calls Try.prog 37 #[.pointer (some ⟨R, 0, none⟩), .int .i64 n] w (RVPost R d a l cap at' w) := by
  have hr4 := hr.alloc Z24
  have HC := hide (next_end R a l cap at' false _ hr4 (by omega))
  have hRX : w.heap.size ≠ R := by have := hr.lt; omega
  have HX := hide (show ResB (w.alloc Z24) w.heap.size from heap_alloc_new w _)
  have HE := hide (show ∀ (t : VT) (rest : List UInt8), t.wf = true → t.dep ≤ d → t.fits → l.drop at' ≠ t.enc ++ rest from fun t rest _ _ _ h => by
    rw [List.drop_of_length_le (by omega)] at h
    exact enc_ne t (by cases he : t.enc with | nil => rfl | cons x y => rw [he] at h; simp at h))
  go_enter Try.func37, Try.ntmps37
  go_wp2_with fail
  refine HC.out.mono ?_
  rintro e w1 ⟨rfl, hr1, hg1⟩
  obtain ⟨y0, y1, y2, yf⟩ := hr1.cells
  have HM := hide hr1.mark
  obtain ⟨⟨x0, x1, x2, x3⟩, xf⟩ := ((HX.out.only hg1 hRX).only HM.out.2 hRX).cells
  go_wp2_with fail
  refine bodyPost_ret (v := .agg #[.int .i64 0, .int .i64 0, .string ⟨#[]⟩, .slice none 0 0]) (by simp [results, Try.results37, go_sem, x0, x1, x2, x3]) rfl ?_
  exact ⟨.inr ⟨⟨_, at', rfl, ⟨0, 0, ⟨#[]⟩, none, 0, 0, rfl⟩, by omega, HM.out.1.put4 ((HX.out.only hg1 hRX).only HM.out.2 hRX) hRX _ _ _ _⟩, HE.out⟩, put4_only (only_trans (only_trans (only_alloc (only_refl _ _) _) hg1) HM.out.2) (Nat.le_refl _) _ _ _ _⟩

set_option maxRecDepth 10000 in
set_option maxHeartbeats 1600000 in
theorem rvalue_other (R d : Nat) (a : Option Addr) (l : List UInt8) (cap at' : Nat) (n : Int) (w : World) (hr : RR R a l cap at' false w) (hl : l.length ≤ 1000000000) (hat : at' < l.length) (h1 : l[at'].toNat ≠ 1) (h2 : l[at'].toNat ≠ 2) (h3 : l[at'].toNat ≠ 3) :
    Calls Try.prog 37 #[.pointer (some ⟨R, 0, none⟩), .int .i64 n] w (RVPost R d a l cap at' w) := by
  have hr4 := hr.alloc Z24
  have HC := hide (next_ok R a l cap at' false _ hr4 hl hat)
  have HCN := hide (drop_cons hat)
  have hRX : w.heap.size ≠ R := by have := hr.lt; omega
  have HX := hide (show ResB (w.alloc Z24) w.heap.size from heap_alloc_new w _)
  generalize l[at'] = c at *
  have HE := hide (show ∀ (t : VT) (rest : List UInt8), t.wf = true → t.dep ≤ d → t.fits → l.drop at' ≠ t.enc ++ rest from fun t rest hw _ _ h => by
    rw [HCN.out] at h
    have hk := cons_enc hw h
    rcases VT.wf_kind hw with ⟨k, _⟩ | ⟨k, _⟩ | ⟨k, _⟩ <;> omega)
  have b1 : ((c.toNat : Int) == 1) = false := by simp; omega
  have b2 : ((c.toNat : Int) == 2) = false := by simp; omega
  have b3 : ((c.toNat : Int) == 3) = false := by simp; omega
  clear h1 h2 h3
  go_enter Try.func37, Try.ntmps37
  go_wp2_with fail
  refine HC.out.mono ?_
  rintro e w1 ⟨rfl, hr1, hg1⟩
  obtain ⟨y0, y1, y2, yf⟩ := hr1.cells
  have HM := hide hr1.mark
  obtain ⟨⟨x0, x1, x2, x3⟩, xf⟩ := ((HX.out.only hg1 hRX).only HM.out.2 hRX).cells
  go_wp2_with fail
  refine bodyPost_ret (v := .agg #[.int .i64 0, .int .i64 0, .string ⟨#[]⟩, .slice none 0 0]) (by simp [results, Try.results37, go_sem, x0, x1, x2, x3]) rfl ?_
  exact ⟨.inr ⟨⟨_, at' + 1, rfl, ⟨0, 0, ⟨#[]⟩, none, 0, 0, rfl⟩, by omega, HM.out.1.put4 ((HX.out.only hg1 hRX).only HM.out.2 hRX) hRX _ _ _ _⟩, HE.out⟩, put4_only (only_trans (only_trans (only_alloc (only_refl _ _) _) hg1) HM.out.2) (Nat.le_refl _) _ _ _ _⟩

set_option maxRecDepth 10000 in
set_option maxHeartbeats 1600000 in
theorem rvalue_int (R d : Nat) (a : Option Addr) (l : List UInt8) (cap at' : Nat) (n : Int) (w : World) (hr : RR R a l cap at' false w) (hl : l.length ≤ 1000000000) (hat : at' < l.length) (h1 : l[at'].toNat = 1) :
    Calls Try.prog 37 #[.pointer (some ⟨R, 0, none⟩), .int .i64 n] w (RVPost R d a l cap at' w) := by
  have hr4 := hr.alloc Z24
  have HC := hide (next_ok R a l cap at' false _ hr4 hl hat)
  have HCN := hide (drop_cons hat)
  have hRX : w.heap.size ≠ R := by have := hr.lt; omega
  have HX := hide (show ResB (w.alloc Z24) w.heap.size from heap_alloc_new w _)
  generalize l[at'] = c at *
  have HK := hide (show c = 1 from byte_eq (n := 1) h1)
  have b1 : ((c.toNat : Int) == 1) = true := by simp; omega
  have HAT := hide hat
  clear h1
  go_enter Try.func37, Try.ntmps37
  go_wp2_with fail
  refine HC.out.mono ?_
  rintro e w1 ⟨rfl, hr1, hg1⟩
  go_wp2_with fail
  refine (number_any R a l cap (at' + 1) w1 hr1 (by omega) hl).mono ?_
  rintro e w2 ⟨⟨u, m, rfl, hu, hlu, hm, hr2⟩ | ⟨⟨u0, m, rfl, hu0, hu1, hm, hr2⟩, hno⟩, hg2⟩
  · have HX2 := hide ((HX.out.only hg1 hRX).only hg2 hRX)
    obtain ⟨⟨x0, x1, x2, x3⟩, xf⟩ := HX2.out.cells
    have HG := hide (only_trans (only_trans (only_alloc (only_refl w (some R)) Z24) hg1) hg2)
    have HR2 := hide hr2
    have hmm : at' ≤ m := by
      have h1 := congrArg List.length hlu
      rw [List.length_append, List.length_drop, List.length_drop] at h1
      omega
    have HD := hide (show l.drop at' = 1 :: (numeral u ++ l.drop m) by rw [HCN.out, HK.out, hlu])
    have hsr := sgn_range hu
    clear hlu hg1 hg2 hr1 hr2
    have fin : ∀ W : World, W = put4 w2 w.heap.size (.int .i64 1) (.int .i64 (sgn u)) (.string ⟨#[]⟩) (.slice none 0 0) → RVPost R d a l cap at' w (.returned (.agg #[.int .i64 1, .int .i64 (sgn u), .string ⟨#[]⟩, .slice none 0 0])) W := by
      rintro W rfl
      refine ⟨.inl ⟨.mk 1 (sgn u) ⟨#[]⟩ none 0 [], m, rfl, ?_, ?_, ?_, ?_, ?_, hmm, hm, ?_⟩, ?_⟩
      · exact VT.In.mk (by simp [VT.kind]) (by simpa [VT.num] using hsr) (by simp [VT.str, ByteArray.size]) (by simp [VT.els]) (by simp [VT.els]) (by intro i h; simp [VT.els] at h)
      · simp [VT.wf, Lib.toList_data]
      · simp [VT.dep]
      · intro b hb; simp [VT.blocks, VT.blocks.blockss] at hb
      · rw [HD.out, VT.enc_eq]; simp [VT.kind, VT.num, uns_sgn]
      · exact HR2.out.put4 HX2.out hRX _ _ _ _
      · exact put4_only HG.out (Nat.le_refl _) _ _ _ _
    have HFI := hide fin
    clear fin
    by_cases h : u % 2 = 1
    · have HS := hide (show sgn u = -((u / 2 : Nat) : Int) - 1 by simp [sgn, h])
      have hb : ((u : Int) % 2 == 1) = true := by simp; omega
      clear h
      go_wp2_with fail
      refine bodyPost_ret (v := .agg #[.int .i64 1, .int .i64 (sgn u), .string ⟨#[]⟩, .slice none 0 0]) (by rw [HS.out]; simp [results, Try.results37, go_sem, x0, x1, x2, x3]) rfl ?_
      exact HFI.out _ (by rw [HS.out]; simp)
    · have HS := hide (show sgn u = ((u / 2 : Nat) : Int) by simp [sgn, h])
      have hb : ((u : Int) % 2 == 1) = false := by simp; omega
      clear h
      go_wp2_with fail
      refine bodyPost_ret (v := .agg #[.int .i64 1, .int .i64 (sgn u), .string ⟨#[]⟩, .slice none 0 0]) (by rw [HS.out]; simp [results, Try.results37, go_sem, x0, x1, x2, x3]) rfl ?_
      exact HFI.out _ (by rw [HS.out]; simp)
  · have HX2 := hide ((HX.out.only hg1 hRX).only hg2 hRX)
    obtain ⟨⟨x0, x1, x2, x3⟩, xf⟩ := HX2.out.cells
    have HG := hide (only_trans (only_trans (only_alloc (only_refl w (some R)) Z24) hg1) hg2)
    have HE := hide (show ∀ (t : VT) (rest : List UInt8), t.wf = true → t.dep ≤ d → t.fits → l.drop at' ≠ t.enc ++ rest from fun t rest hw _ hf h => by
      rw [HCN.out] at h
      have hk := cons_enc hw h
      rw [HK.out] at hk h
      have he : t.enc = 1 :: numeral (uns t.num) := by rw [VT.enc_eq, if_pos (by simpa using hk)]
      rw [he] at h
      simp at h
      rw [VT.fits_eq] at hf
      exact hno _ rest (uns_lt hf.1.1 hf.1.2) h)
    have HR2 := hide hr2
    clear hno hg1 hg2 hr1 hr2
    obtain ⟨u, rfl⟩ := Int.eq_ofNat_of_zero_le hu0
    by_cases h : u % 2 = 1
    · have hb : ((u : Int) % 2 == 1) = true := by simp; omega
      clear h
      go_wp2_with fail
      refine bodyPost_ret (v := .agg #[.int .i64 1, .int .i64 (-((u / 2 : Nat) : Int) - 1), .string ⟨#[]⟩, .slice none 0 0]) (by simp [results, Try.results37, go_sem, x0, x1, x2, x3]) rfl ?_
      exact ⟨.inr ⟨⟨_, m, rfl, ⟨_, _, _, _, _, _, rfl⟩, hm, HR2.out.put4 HX2.out hRX _ _ _ _⟩, HE.out⟩, put4_only HG.out (Nat.le_refl _) _ _ _ _⟩
    · have hb : ((u : Int) % 2 == 1) = false := by simp; omega
      clear h
      go_wp2_with fail
      refine bodyPost_ret (v := .agg #[.int .i64 1, .int .i64 ((u / 2 : Nat) : Int), .string ⟨#[]⟩, .slice none 0 0]) (by simp [results, Try.results37, go_sem, x0, x1, x2, x3]) rfl ?_
      exact ⟨.inr ⟨⟨_, m, rfl, ⟨_, _, _, _, _, _, rfl⟩, hm, HR2.out.put4 HX2.out hRX _ _ _ _⟩, HE.out⟩, put4_only HG.out (Nat.le_refl _) _ _ _ _⟩
end Go.Proofs.Ytccdencaidopnaa
