/- Decode of bytes that came in: an empty slice may name any place. -/
import Derived.Test.YtccdencaidopnaaDec
import Derived.Test.YtccdencaidopnaaOpen
namespace Go.Proofs.Ytccdencaidopnaa
open Go.RowKit Go.WideShapes Go.ChangeShapes Go.Deep

/-- A reader with nothing to read. -/
def Rd0 (R : Nat) (a : Option Addr) (w : World) : Prop := w.heap[R]? = some (.cells #[.slice a 0 0] 57 (0, 0))

set_option maxRecDepth 10000 in
set_option maxHeartbeats 800000 in
theorem take_e (R : Nat) (a : Option Addr) (w : World) (hr : Rd0 R a w) : Calls Try.prog 49 #[.pointer (some ⟨R, 0, none⟩), .int .u64 1] w fun e w' => e = bad ∧ w.grownBy w' (some R) := by
  have c0 : w.cell? ⟨R, 0, none⟩ = some (.slice a 0 0) := by rw [cell_of_row w R 0 _ _ _ hr]; rfl
  have f0 : w.frozen? ⟨R, 0, none⟩ = false := frozen_of_row w R 0 _ _ hr
  go_enter Try.func49, Try.ntmps49
  go_wp2_with fail
  exact ⟨rfl, rfl, only_refl _ _⟩

set_option maxRecDepth 10000 in
set_option maxHeartbeats 1600000 in
theorem value_e (R : Nat) (a : Option Addr) (n : Int) (w : World) (hr : Rd0 R a w) : Calls Try.prog 35 #[.pointer (some ⟨R, 0, none⟩), .int .i64 n] w fun e w' => e = bad ∧ w.grownBy w' (some R) := by
  have hlt : R < w.heap.size := (Array.getElem?_eq_some_iff.1 hr).1
  have hr4 : Rd0 R a (w.alloc (.cells #[.int .i64 0, .int .i64 0, .string ⟨#[]⟩, .slice none 0 0] 24)) := (Below.heap_alloc _ _ _ hlt).trans hr
  have HC := hide (take_e R a _ hr4)
  go_enter Try.func35, Try.ntmps35
  go_wp2_with (go_at_call 49; refine HC.out.mono ?_; rintro e w' ⟨rfl, hg'⟩)
  exact ⟨rfl, rfl, only_trans (only_alloc (only_refl _ _) _) hg'⟩

theorem start_e {w : World} (a : Option Addr) : Rd0 (w.heap.size + 1 + 1) a (start w a 0) ∧ Res w.heap.size (start w a 0) ∧ Below w.heap.size w (start w a 0) ∧ (start w a 0).heap.size = w.heap.size + 3 := by
  have hbel : Below w.heap.size w (start w a 0) := ((below_new _ _).alloc (by simp) _).alloc (by simp; omega) _
  refine ⟨?_, ⟨⟨.int .i64 0, .int .i64 0, .string ⟨#[]⟩, .slice none 0 0, ?_⟩, .int .i64 0, ?_⟩, hbel, by simp⟩
  · simpa [Rd0] using heap_alloc_new ((w.alloc (.cells #[.int .i64 0, .int .i64 0, .string ⟨#[]⟩, .slice none 0 0] 24)).alloc (.cells #[.int .i64 0] 28)) (.cells #[.slice a 0 0] 57)
  · rw [Below.heap_alloc _ _ _ (by simp; omega), Below.heap_alloc _ _ _ (by simp)]
    exact heap_alloc_new _ _
  · rw [Below.heap_alloc _ _ _ (by simp)]
    simpa using heap_alloc_new (w.alloc (.cells #[.int .i64 0, .int .i64 0, .string ⟨#[]⟩, .slice none 0 0] 24)) (.cells #[.int .i64 0] 28)

set_option maxRecDepth 10000 in
set_option maxHeartbeats 1600000 in
theorem decode_e (p : Addr) (cap : Nat) (w : World) (_hcap : cap ≤ 9223372036854775807) : Calls Try.prog 18 #[.slice (some p) 0 cap] w (DecPost [] w) := by
  have hmf : ∀ (fn : Fn) (first cap : Array Value) (w : World), (Instr.makeFunc fn first cap).run Try.prog w = .ok (.func fn first cap) w := fun _ _ _ _ => rfl
  have HF := hide (start_e (w := w) (some p))
  have HB := hide (fun (w1 : World) (h : Below w.heap.size w w1) (hno : ∀ t : VT, t.wf = true → t.dep ≤ 16 → t.fits → [] ≠ t.enc) => bad_end h hno)
  go_enter_defers Try.func18, Try.ntmps18
  go_wp2_with fail
  have HV := hide (value_e (w.heap.size + 1 + 1) (some p) 16 (start w (some p) 0) HF.out.1)
  refine HV.out.mono ?_
  rintro e w1 ⟨rfl, hg2⟩
  generalize start w (some p) 0 = W0 at *
  go_wp2_with fail
  refine leaves_cons (f := 34) (args := #[.pointer (some ⟨w.heap.size, 0, none⟩), .pointer (some ⟨w.heap.size + 1, 0, none⟩)]) (by simp) (by simp [go_sem]) ?_
  have hres := HF.out.2.1.only hg2 (by omega) (by omega)
  refine (catch_panicking w.heap.size 28 _ [] w1 hres).mono ?_
  rintro e u' w'' ⟨rfl, rfl, rfl⟩
  have hbb := hide (HB.out w1 (below_only HF.out.2.2.1 hg2 (by omega)) (fun t _ _ _ h => enc_ne t h.symm))
  have k1 := (hres.put (.int .i64 0) (.int .i64 0) (.string ⟨#[]⟩) (.slice none 0 0)).last (.int .i64 10)
  have k2 := hres.read (.int .i64 0) (.int .i64 0) (.string ⟨#[]⟩) (.slice none 0 0)
  generalize (put4 w1 w.heap.size (.int .i64 0) (.int .i64 0) (.string ⟨#[]⟩) (.slice none 0 0)).setCell ⟨w.heap.size + 1, 0, none⟩ (.int .i64 10) = W9 at *
  obtain ⟨k0, k1⟩ := k1
  rw [← k1, ← k1, ← k1, ← k1] at k2
  obtain ⟨m0, m1, m2, m3⟩ := k2
  simp [Leaves, settle, results, Try.results18, go_sem, k0, m0, m1, m2, m3]
  exact hbb.out

/-- Bytes that came in. -/
structure Raw (w : World) (a : Option Addr) (l : List UInt8) (cap : Nat) : Prop where
  inb : l ≠ [] → Inb w a l
  le : l.length ≤ cap
  top : cap ≤ 9223372036854775807
  nil : a = none → cap = 0

theorem Raw.later {w w' : World} {a : Option Addr} {l : List UInt8} {cap : Nat} (h : Raw w a l cap) (hb : Below w.heap.size w w') : Raw w' a l cap := by
  refine ⟨fun hne => ⟨(h.inb hne).plain, fun i hi => ?_⟩, h.le, h.top, h.nil⟩
  obtain ⟨b, o, e, hlt, hc⟩ := (h.inb hne).bytes i hi
  exact ⟨b, o, e, Nat.lt_of_lt_of_le hlt hb.size, (hb.cell (p := ⟨b, o + i, none⟩) hlt).trans hc⟩

theorem decode_raw (a : Option Addr) (l : List UInt8) (cap : Nat) (w : World) (h : Raw w a l cap) (hl : l.length ≤ 1000000000) : Calls Try.prog 18 #[.slice a l.length cap] w (DecPost l w) := by
  by_cases h0 : l = []
  · subst h0
    cases a with
    | none =>
      obtain rfl := h.nil rfl
      exact decode_none w
    | some p => exact decode_e p cap w h.top
  · exact decode_any a l cap w (h.inb h0) hl h.le h.top h.nil

theorem cell_lt {w : World} {a : Addr} {v : Value} (h : w.cell? a = some v) : a.block < w.heap.size := by
  unfold World.cell? at h
  split at h
  · rename_i hb; exact (Array.getElem?_eq_some_iff.1 hb).1
  · cases h

theorem Try.cells5 : Try.prog.cellsOf 5 = 1 := by kernel_rfl

section
variable {H : Type} {enc : TypeId × Value → H} {w : World} {base : Nat}

/-- An argument of type []byte is bytes in memory. -/
theorem open_bytes {v : Value} {d : DataW H} {ps : List MemPlace} (hok : Value.okWide Try.prog w .any base 27 v)
    (h : DataW.Trod enc Try.prog w 0 (fun _ => true) true 27 v d ps) : ∃ (a : Option Addr) (l : List UInt8) (cap : Nat), v = .slice a l.length cap ∧ Raw w a l cap := by
  obtain ⟨a0, len0, cap0, rfl⟩ := okWide_slice Try.underlying27 hok
  obtain ⟨n, hn⟩ := h
  rcases DataW.trod_slice Try.underlying27 hn with ⟨e3, _⟩ | ⟨a, len, cap, elems, rest, n', _, e3, _, _, hl, hm, hlen, hel, _, _⟩
  · simp only [Value.cells, List.cons.injEq, Value.slice.injEq, and_true] at e3
    obtain ⟨rfl, rfl, rfl⟩ := e3
    exact ⟨none, [], 0, rfl, ⟨fun h => absurd rfl h, by simp, by omega, fun _ => rfl⟩⟩
  · simp only [Value.cells, List.cons.injEq, Value.slice.injEq, and_true] at e3
    obtain ⟨rfl, rfl, rfl⟩ := e3
    have cell : ∀ i, i < len0 → ∃ c : UInt8, w.cell? (a.add i) = some (.int .u8 (c.toNat : Nat)) := by
      intro i hi
      have h1 := hel i hi
      rw [Try.cells5, Nat.mul_one] at h1
      have hlt : i < elems.length := by omega
      rw [List.getElem?_eq_getElem hlt] at h1
      obtain ⟨cs', h2, h3⟩ := Option.bind_eq_some_iff.1 h1
      obtain ⟨k, e0, _, w0⟩ := DataW.trod_int Try.underlying5 h3
      obtain ⟨_, hcl, hat⟩ := World.cells?_some h2
      subst e0
      have h4 := hat 0 (by omega)
      simp only [List.getElem?_cons_zero] at h4
      have h5 : (a.add i).add 0 = a.add i := by simp [Addr.add]
      rw [h5] at h4
      have hw : 0 ≤ k ∧ k ≤ 255 := by
        simp only [Lit.wf, Bool.and_eq_true, decide_eq_true_eq] at w0
        exact w0
      refine ⟨UInt8.ofNat k.toNat, ?_⟩
      rw [h4]
      simp
      omega
    have each : ∀ i, i < len0 → ∃ c : UInt8, a.spot = none ∧ a.block < w.heap.size ∧ w.cell? ⟨a.block, a.off + i, none⟩ = some (.int .u8 (c.toNat : Nat)) := by
      intro i hi
      obtain ⟨_, h0⟩ := cell 0 (by omega)
      obtain ⟨c, hc⟩ := cell i hi
      have hsp : a.spot = none := by simpa [Addr.add] using World.cell?_spot h0
      have hadd : a.add i = ⟨a.block, a.off + i, none⟩ := by
        obtain ⟨b, o, sp⟩ := a
        simp only at hsp
        subst hsp
        unfold Addr.add
        split <;> simp_all
      rw [hadd] at hc
      exact ⟨c, hsp, cell_lt (a := ⟨a.block, a.off + i, none⟩) hc, hc⟩
    have all : ∀ m, m ≤ len0 → ∃ l : List UInt8, l.length = m ∧ ∀ i (h : i < l.length), a.spot = none ∧ a.block < w.heap.size ∧ w.cell? ⟨a.block, a.off + i, none⟩ = some (.int .u8 (l[i].toNat : Nat)) := by
      intro m
      induction m with
      | zero => exact fun _ => ⟨[], rfl, fun i h => by simp at h⟩
      | succ m ihm =>
        intro hm
        obtain ⟨l, hl1, hl2⟩ := ihm (by omega)
        obtain ⟨c, hc⟩ := each m (by omega)
        refine ⟨l ++ [c], by simp [hl1], fun i hi => ?_⟩
        by_cases he : i < l.length
        · rw [List.getElem_append_left he]; exact hl2 i he
        · obtain rfl : i = l.length := by simp at hi; omega
          simp only [List.getElem_append_right (Nat.le_refl _), Nat.sub_self, List.getElem_cons_zero]
          rw [hl1]; exact hc
    obtain ⟨l, hl1, hl2⟩ := all len0 (Nat.le_refl _)
    refine ⟨some a, l, cap0, by rw [hl1], ⟨fun hne => ⟨?_, fun i hi => ?_⟩, by omega, by unfold maxLen at hm; omega, by intro h; cases h⟩⟩
    · rintro p ⟨⟩
      exact (hl2 0 (List.length_pos_iff.2 hne)).1
    · obtain ⟨h1, h2, h3⟩ := hl2 i hi
      obtain ⟨b, o, sp⟩ := a
      simp only at h1
      subst h1
      exact ⟨b, o, rfl, h2, h3⟩
end
end Go.Proofs.Ytccdencaidopnaa
