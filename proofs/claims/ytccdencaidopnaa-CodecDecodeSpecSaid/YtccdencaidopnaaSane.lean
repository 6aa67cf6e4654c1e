/- sane of the statements: the chapter's examples hold. -/
import Derived.Test.YtccdencaidopnaaEnc
import Derived.Test.YtccdencaidopnaaDec
namespace Go.Proofs.Ytccdencaidopnaa
open Go.RowKit

set_option maxHeartbeats 400000 in
theorem int_any (n : Int) (w : World) : Calls Try.prog 23 #[.int .i64 n] w fun e w' => e = .returned (.agg #[.int .i64 1, .int .i64 n, .string ⟨#[]⟩, .slice none 0 0]) ∧ Below w.heap.size w w' := by
  go_enter Try.func23, Try.ntmps23
  go_wp2_with fail
  exact bodyPost_ret (v := .agg #[.int .i64 1, .int .i64 n, .string ⟨#[]⟩, .slice none 0 0]) (by simp [results, Try.results23, go_sem]) rfl ⟨rfl, below_new _ _⟩
set_option maxHeartbeats 400000 in
theorem text_any (s : ByteArray) (w : World) : Calls Try.prog 24 #[.string s] w fun e w' => e = .returned (.agg #[.int .i64 2, .int .i64 0, .string s, .slice none 0 0]) ∧ Below w.heap.size w w' := by
  go_enter Try.func24, Try.ntmps24
  go_wp2_with fail
  exact bodyPost_ret (v := .agg #[.int .i64 2, .int .i64 0, .string s, .slice none 0 0]) (by simp [results, Try.results24, go_sem]) rfl ⟨rfl, below_new _ _⟩
set_option maxHeartbeats 400000 in
theorem list_any (a : Option Addr) (n c : Nat) (w : World) : Calls Try.prog 22 #[.slice a n c] w fun e w' => e = .returned (.agg #[.int .i64 3, .int .i64 0, .string ⟨#[]⟩, .slice a n c]) ∧ Below w.heap.size w w' := by
  go_enter Try.func22, Try.ntmps22
  go_wp2_with fail
  exact bodyPost_ret (v := .agg #[.int .i64 3, .int .i64 0, .string ⟨#[]⟩, .slice a n c]) (by simp [results, Try.results22, go_sem]) rfl ⟨rfl, below_new _ _⟩

/-- A number, a text. -/
def intT (n : Int) : VT := .mk 1 n ⟨#[]⟩ none 0 []
def textT (s : ByteArray) : VT := .mk 2 0 s none 0 []

theorem intT_in (n : Int) (h : -9223372036854775808 ≤ n ∧ n ≤ 9223372036854775807) (w : World) : (intT n).In w :=
  VT.In.mk (by simp [intT, VT.kind]) (by simpa [intT, VT.num] using h) (by simp [intT, VT.str, ByteArray.size]) (by simp [intT, VT.els]) (by simp [intT, VT.els]) (by intro i h; simp [intT, VT.els] at h)
theorem textT_in (s : ByteArray) (h : s.size ≤ 140737488351232) (w : World) : (textT s).In w :=
  VT.In.mk (by simp [textT, VT.kind]) (by simp [textT, VT.num]) (by simpa [textT, VT.str] using h) (by simp [textT, VT.els]) (by simp [textT, VT.els]) (by intro i h; simp [textT, VT.els] at h)
theorem intT_chk (n : Int) : chk (intT n) = 0 := by simp [chk, intT, VT.wf, VT.dep, Lib.toList_data]
theorem textT_chk (s : ByteArray) : chk (textT s) = 0 := by simp [chk, textT, VT.wf, VT.dep]
theorem intT_sz (n : Int) : (intT n).sz = 1 := by simp [intT, VT.sz, VT.sz.szs]
theorem intT_enc (n : Int) : (intT n).enc = 1 :: numeral (uns n) := by simp [intT, VT.enc]

theorem only_of_below {a w : World} (h : Below a.heap.size a w) (row : Option Nat) : a.grownBy w row := ⟨h.os, h.tape, h.output, h.size, fun i hi _ => h.block i hi⟩

/-- A slice of bytes that a call made, later on. -/
def Own (base : Nat) (v : Value) (l : List UInt8) (w : World) : Prop := w.ownsRow base 5 1 v l.length (bs l)

theorem Own.later {base : Nat} {v : Value} {l : List UInt8} {w w' : World} (h : Own base v l w) (hb : Below w.heap.size w w') : Own base v l w' := by
  refine World.ownsRow.kept h (only_of_below hb none) ?_
  cases v.ownBlock with
  | none => exact .inl rfl
  | some x => exact .inr (by simp)

theorem Own.inb {base : Nat} {v : Value} {l : List UInt8} {w : World} (h : Own base v l w) : ∃ (a : Option Addr) (cap : Nat), v = .slice a l.length cap ∧ Inb w a l ∧ l.length ≤ cap ∧ cap ≤ 9223372036854775807 ∧ (a = none → cap = 0) := by
  rcases h.2 with ⟨rfl, h0⟩ | ⟨g, cap, cur, rfl, hb, hg, hn, hcap, hsz, htake⟩
  · have : l = [] := List.eq_nil_of_length_eq_zero h0
    subst this
    exact ⟨none, 0, rfl, ⟨(fun p h => by cases h), (fun i h => by simp at h)⟩, by simp, by omega, fun _ => rfl⟩
  · refine ⟨some ⟨g, 0, none⟩, cap, rfl, ⟨by rintro p ⟨⟩; rfl, fun i hi => ⟨g, 0, rfl, (Array.getElem?_eq_some_iff.1 hg).1, ?_⟩⟩, hn, by unfold maxLen at hcap; omega, by intro h; cases h⟩
    have := World.ownsRow.cellAt h i (by omega)
    rw [Nat.zero_add, this]
    simp [bs, hi]

theorem Own.conv {base : Nat} {v : Value} {l : List UInt8} {w : World} (h : Own base v l w) : (convert 27 9 v).run Try.prog w = .ok (.string ⟨l.toArray⟩) w := by
  obtain ⟨a, cap, rfl, hi, hn, _, h0⟩ := h.inb
  cases a with
  | none =>
    obtain rfl : cap = 0 := h0 rfl
    have : l = [] := List.eq_nil_of_length_eq_zero (by omega)
    subst this
    exact run_convert_bytes_nil w 27 5 Try.underlying27 Try.underlying5 0 0 9 Try.underlying9
  | some p =>
    obtain ⟨b, o, s⟩ := p
    obtain rfl : s = none := hi.plain _ rfl
    rw [run_convert_bytes_arg w 27 5 Try.underlying27 Try.underlying5 b o l.length cap (l.map fun c => (c.toNat : Int)) (by simp) (fun i hl => by
      obtain ⟨b1, o1, e, _, hc⟩ := hi.bytes i hl
      simp only [Option.some.injEq, Addr.mk.injEq, and_true] at e
      obtain ⟨rfl, rfl⟩ := e
      rw [hc]
      simp [hl]) 9 Try.underlying9]
    congr 2
    have : (strOfNums (l.map fun c => (c.toNat : Int))).data.toList = l := by
      rw [strOfNums_data, List.map_map]
      conv => rhs; rw [← List.map_id l]
      refine List.map_congr_left fun c _ => ?_
      simp
    cases hS : strOfNums (l.map fun c => (c.toNat : Int)) with
    | mk data =>
      rw [hS] at this
      simp only at this
      rw [← this]

/-- Encode of a value that can be encoded. -/
theorem encode_ok (t : VT) (w : World) (hin : t.In w) (hsz : t.sz ≤ 1000000) (hlen : t.enc.length ≤ 4294967296) (hc : chk t = 0) :
    Calls Try.prog 12 #[t.val] w fun e w' => ∃ v, e = .returned (.tuple #[v, .int .i64 0]) ∧ Below w.heap.size w w' ∧ Own w.heap.size v t.enc w' := by
  refine (encode_any t w hin hsz hlen).mono fun e w' ⟨v, he, hb, ho⟩ => ⟨v, by rw [he, hc]; rfl, hb, ?_⟩
  rw [if_pos hc] at ho
  exact ho
end Go.Proofs.Ytccdencaidopnaa
