/- The reference's reader: a round of a list. -/
import Derived.Test.YtccdencaidopnaaRVT
namespace Go.Proofs.Ytccdencaidopnaa
open Go.RowKit

def RVAt (d : Nat) : Prop := ∀ (R : Nat) (a : Option Addr) (l : List UInt8) (cap at' : Nat) (n : Int) (w : World), n = 16 - (d : Int) → RR R a l cap at' false w → at' ≤ l.length → l.length ≤ 1000000000 → l.length ≤ cap → cap ≤ 9223372036854775807 → Calls Try.prog 37 #[.pointer (some ⟨R, 0, none⟩), .int .i64 n] w (RVPost R d a l cap at' w)

/-- What comes back, in one form. -/
def RVOne (R d : Nat) (a : Option Addr) (l : List UInt8) (cap at' : Nat) (w : World) (k m : Int) (s : ByteArray) (A : Option Addr) (N C n : Nat) (bd : Bool) (w' : World) : Prop :=
  n ≤ l.length ∧ RR R a l cap n bd w' ∧ w.grownBy w' (some R) ∧
    ((bd = false ∧ ∃ t : VT, cells4 t = [.int .i64 k, .int .i64 m, .string s, .slice A N C] ∧ t.In w' ∧ t.wf = true ∧ t.dep ≤ d ∧ (∀ b ∈ t.blocks, w.heap.size ≤ b ∧ b < w'.heap.size) ∧ l.drop at' = t.enc ++ l.drop n ∧ at' ≤ n) ∨
      (bd = true ∧ ∀ (t : VT) (rest : List UInt8), t.wf = true → t.dep ≤ d → t.fits → l.drop at' ≠ t.enc ++ rest))
theorem RVPost.one {R d : Nat} {a : Option Addr} {l : List UInt8} {cap at' : Nat} {w w' : World} {e : Ending} (h : RVPost R d a l cap at' w e w') : ∃ (k m : Int) (s : ByteArray) (A : Option Addr) (N C n : Nat) (bd : Bool), e = .returned (.agg #[.int .i64 k, .int .i64 m, .string s, .slice A N C]) ∧ RVOne R d a l cap at' w k m s A N C n bd w' := by
  obtain ⟨⟨t, n, rfl, hin, hw, hd, hb, hl, h1, h2, hr⟩ | ⟨⟨v, n, rfl, ⟨k, m, s, A, N, C, rfl⟩, hn, hr⟩, hno⟩, hg⟩ := h
  · exact ⟨t.kind, t.num, t.str, t.adr, t.els.length, t.cap, n, false, by rw [VT.val], h2, hr, hg, .inl ⟨rfl, t, rfl, hin, hw, hd, hb, hl, h1⟩⟩
  · exact ⟨k, m, s, A, N, C, n, true, rfl, hn, hr, hg, .inr ⟨rfl, hno⟩⟩

/-- The block of the list that is being read. -/
def B8 (w : World) (X : Nat) (x : Value) : Prop := w.heap[X]? = some (.cells #[.int .i64 3, .int .i64 0, .string ⟨#[]⟩, x] 24 (0, 0))
theorem B8.cells {w : World} {X : Nat} {x : Value} (h : B8 w X x) : (w.cell? ⟨X, 0, none⟩ = some (.int .i64 3) ∧ w.cell? ⟨X, 1, none⟩ = some (.int .i64 0) ∧ w.cell? ⟨X, 2, none⟩ = some (.string ⟨#[]⟩) ∧ w.cell? ⟨X, 3, none⟩ = some x) ∧ ∀ i, w.frozen? ⟨X, i, none⟩ = false :=
  ⟨⟨by rw [cell_of_row w X 0 _ _ _ h]; rfl, by rw [cell_of_row w X 1 _ _ _ h]; rfl, by rw [cell_of_row w X 2 _ _ _ h]; rfl, by rw [cell_of_row w X 3 _ _ _ h]; rfl⟩, fun i => frozen_of_row w X i _ _ h⟩
theorem B8.lt {w : World} {X : Nat} {x : Value} (h : B8 w X x) : X < w.heap.size := (Array.getElem?_eq_some_iff.1 h).1
theorem B8.set {w : World} {X : Nat} {x : Value} (h : B8 w X x) (y : Value) : B8 (w.setCell ⟨X, 3, none⟩ y) X y := by
  unfold B8
  rw [heap_setCell_same w X 3 _ _ _ h]; rfl
theorem ResB.put {w : World} {X : Nat} (h : ResB w X) (v0 v1 v2 v3 : Value) : (put4 w X v0 v1 v2 v3).heap[X]? = some (.cells #[v0, v1, v2, v3] 24 (0, 0)) := by
  have h0 := heap_setCell_same w X 0 _ _ v0 h
  have h1 := heap_setCell_same _ X 1 _ _ v1 h0
  have h2 := heap_setCell_same _ X 2 _ _ v2 h1
  have h3 := heap_setCell_same _ X 3 _ _ v3 h2
  exact h3

/-- What the rounds keep: elements that were read .. -/
structure LO (R : Nat) (a : Option Addr) (l : List UInt8) (cap m d B0 k : Nat) (x : Value) (els : List VT) (p : Nat) (wr : World) : Prop where
  len : els.length = k
  eq : l.drop m = VT.enc.encs els ++ l.drop p
  le : m ≤ p
  pl : p ≤ l.length
  wf : VT.wf.wfs els = true
  dep : ∀ i (h : i < els.length), (els[i]).dep ≤ d
  there : Els B0 x wr els
  own : wr.ownsRow B0 24 4 x k (cellsOf els)
  rr : RR R a l cap p false wr
/-- .. or that there is no list. -/
structure LB (R : Nat) (a : Option Addr) (l : List UInt8) (cap at' d : Nat) (x : Value) (wr : World) : Prop where
  form : ∃ A N C, x = .slice A N C
  rr : ∃ p, p ≤ l.length ∧ RR R a l cap p true wr
  no : ∀ (t : VT) (rest : List UInt8), t.wf = true → t.dep ≤ d → t.fits → l.drop at' ≠ t.enc ++ rest

theorem LO.round {R : Nat} {a : Option Addr} {l : List UInt8} {cap m d B0 k X8 u at' p q g cp : Nat} {x : Value} {els : List VT} {wd w3 w4 : World} {kk mm : Int} {ss : ByteArray} {A : Option Addr} {N C : Nat} {bd : Bool} {o : Obj}
    (h : LO R a l cap m d B0 k x els p wd) (h1 : RVOne R d a l cap p wd kk mm ss A N C q bd w3) (hRX : R < X8) (hXB : X8 < B0) (hB0 : B0 ≤ wd.heap.size) (hab : ∀ b o, a = some ⟨b, o, none⟩ → b < X8)
    (hown : w4.ownsRow B0 24 4 (.slice (some ⟨g, 0, none⟩) (k + 1) cp) (k + 1) (cellsOf els ++ [.int .i64 kk, .int .i64 mm, .string ss, .slice A N C])) (hg4 : (w3.alloc o).grownBy w4 x.ownBlock) (hat : x.ownBlock = some g ∨ g = w3.heap.size + 1)
    (hD : l.drop at' = 3 :: (numeral u ++ l.drop m)) (hu : u < 18446744073709551616) (hk : k < u) :
    (∃ els' p', LO R a l cap m d B0 (k + 1) (.slice (some ⟨g, 0, none⟩) (k + 1) cp) els' p' (w4.setCell ⟨X8, 3, none⟩ (.slice (some ⟨g, 0, none⟩) (k + 1) cp))) ∨
      LB R a l cap at' (d + 1) (.slice (some ⟨g, 0, none⟩) (k + 1) cp) (w4.setCell ⟨X8, 3, none⟩ (.slice (some ⟨g, 0, none⟩) (k + 1) cp)) := by
  obtain ⟨hq, hr, hg3, hcase⟩ := h1
  have hrow : ∀ k', x.ownBlock = some k' → B0 ≤ k' ∧ k' < wd.heap.size := fun k' e => h.own.lt k' e
  have hr4 : RR R a l cap q bd w4 := (hr.alloc o).other hg4 (by intro e; have := hrow R e.symm; omega) (fun b o' e e2 => by have := hrow b e2.symm; have := hab b o' e; omega)
  have hgs : w4.grownBy (w4.setCell ⟨X8, 3, none⟩ (.slice (some ⟨g, 0, none⟩) (k + 1) cp)) (some X8) := only_setCell (only_refl w4 _) (.inl rfl) _
  have hr5 : RR R a l cap q bd (w4.setCell ⟨X8, 3, none⟩ (.slice (some ⟨g, 0, none⟩) (k + 1) cp)) := hr4.other hgs (by intro e; injection e with e; omega) (fun b o' e e2 => by injection e2 with e2; have := hab b o' e; omega)
  rcases hcase with ⟨rfl, t, hc, hin, hw, hd, hb, hl, hle⟩ | ⟨rfl, hno⟩
  · left
    have hE := Els.step (n := k + 1) (c := cp) h.there (show R < B0 by omega) hrow hg3 hin hb hB0 hg4 hat
    refine ⟨els ++ [t], q, ⟨by rw [List.length_append, h.len]; rfl, ?_, Nat.le_trans h.le hle, hq, VT.wfs_iff.2 (get_snoc (P := fun t => t.wf = true) (VT.wfs_iff.1 h.wf) hw), get_snoc (P := fun t => t.dep ≤ d) h.dep hd, ?_, ?_, hr5⟩⟩
    · rw [h.eq, hl, VT.encs_snoc, List.append_assoc]
    · intro t' ht'
      obtain ⟨hi, hbl⟩ := hE t' ht'
      refine ⟨hi.move (fun b hbm => ?_), fun b hbm => ?_⟩
      · have := (hbl b hbm).1
        exact hgs.block b (hbl b hbm).2.1 (by intro e; injection e with e; omega)
      · obtain ⟨h1, h2, h3⟩ := hbl b hbm
        exact ⟨h1, Nat.lt_of_lt_of_le h2 hgs.size, h3⟩
    · rw [cellsOf_snoc, hc]
      exact World.ownsRow.kept hown hgs (.inr (by intro e; have := (hown.lt X8 e).1; omega))
  · right
    refine ⟨⟨_, _, _, rfl⟩, ⟨q, hq, hr5⟩, fun t r hw hdp hf hh => ?_⟩
    rw [hD] at hh
    have hkd := cons_enc hw hh
    have hk3 : t.kind = 3 := by simpa using hkd
    rw [list_enc hk3] at hh
    simp at hh
    have hf' := hf
    rw [VT.fits_eq] at hf'
    obtain ⟨hu2, hr2⟩ := numeral_prefix hu (by have := hf'.2.2.1; omega) hh
    rw [h.eq] at hr2
    have hwf : VT.wf.wfs t.els = true := by
      rcases VT.wf_kind hw with ⟨k, _⟩ | ⟨k, _⟩ | ⟨k, _, _, w0⟩
      · omega
      · omega
      · exact w0
    have hlt2 : els.length < t.els.length := by rw [h.len]; omega
    have hc := VT.encs_rest hlt2 h.wf hwf (VT.fitss_of fun i hi => VT.In.fits _ (Nat.le_refl _) (h.there _ (List.getElem_mem hi)).1) hf'.2.2.2 hr2
    have hdd : (t.els[els.length]).dep ≤ d := by
      have h1 := VT.deps_get hlt2
      rw [VT.dep_eq, if_pos hk3] at hdp
      omega
    exact hno _ _ (VT.wfs_iff.1 hwf _ hlt2) hdd (VT.fitss_iff.1 hf'.2.2.2 _ hlt2) hc
end Go.Proofs.Ytccdencaidopnaa
