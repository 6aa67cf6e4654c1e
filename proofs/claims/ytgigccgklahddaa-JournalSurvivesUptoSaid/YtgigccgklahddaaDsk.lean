
/- Disks: what each call answers, as plain functions; how a disk lies in memory. -/
import Derived.Test.YtgigccgklahddaaKee
namespace Go.Proofs.Ytgigccgklahddaa
open Go.RowKit
variable {n0 : Nat}

/-- A disk. -/
structure Dk where
  sec : List (List UInt8)
  pen : List (Int × List UInt8)
  left : Int
  stp : Bool
def Dk.zero : Dk := ⟨[], [], 0, false⟩
def validSec (l : List (List UInt8)) : Bool := decide (1 ≤ l.length ∧ l.length ≤ 4096) && l.all fun s => decide (s.length = 128)
def validPen (n : Nat) (p : List (Int × List UInt8)) : Bool := decide (p.length ≤ 4096) && p.all fun x => decide (0 ≤ x.1 ∧ x.1 < n ∧ x.2.length = 128)
def Dk.valid (d : Dk) : Bool := validSec d.sec && validPen d.sec.length d.pen && decide (-1 ≤ d.left ∧ d.left ≤ 65536)
def Dk.runs (d : Dk) : Bool := !d.stp && d.valid
def Dk.has (d : Dk) (i : Int) : Bool := decide (0 ≤ i ∧ i < d.sec.length)
/-- Bytes that fill a sector. -/
def padS (l : List UInt8) : List UInt8 := (l ++ List.replicate 128 0).take 128
def zeroS : List UInt8 := List.replicate 128 0
theorem padS_len (l : List UInt8) : (padS l).length = 128 := by simp [padS]
theorem padS_full {l : List UInt8} (h : l.length = 128) : padS l = l := by simp [padS, ← h]
theorem padS_nil : padS [] = zeroS := by simp [padS, zeroS]
theorem zeroS_len : zeroS.length = 128 := by simp [zeroS]
attribute [irreducible] zeroS padS
def newD (n : Int) : Dk × Int := if 1 ≤ n ∧ n ≤ 4096 then (⟨List.replicate n.toNat zeroS, [], -1, false⟩, 0) else (Dk.zero, 1)
/-- What was written last. -/
def lastW (i : Int) (s : List UInt8) (p : List (Int × List UInt8)) : List UInt8 := p.foldl (fun b x => if x.1 = i then x.2 else b) s
def Dk.read (d : Dk) (i : Int) : List UInt8 × Int := if d.runs && d.has i then (lastW i (d.sec.getD i.toNat []) d.pen, 0) else ([], 40)
def Dk.write (d : Dk) (i : Int) (b : List UInt8) : Dk × Int :=
  if d.runs && d.has i then (if 128 < b.length then (Dk.zero, 1) else if d.pen.length = 4096 then (Dk.zero, 2) else ({ d with pen := d.pen ++ [(i, padS b)] }, 0)) else (Dk.zero, 40)
/-- Writes that are performed. -/
def perf (s : List (List UInt8)) (p : List (Int × List UInt8)) : List (List UInt8) := p.foldl (fun s x => s.set x.1.toNat x.2) s
def tornS (s : List (List UInt8)) (x : Int × List UInt8) : List (List UInt8) := s.set x.1.toNat (x.2.take 64 ++ (s.getD x.1.toNat []).drop 64)
def Dk.sync (d : Dk) : Dk × Int :=
  if d.runs then
    (if d.left = -1 then (⟨perf d.sec d.pen, [], -1, false⟩, 0)
     else if (d.pen.length : Int) ≤ d.left then (⟨perf d.sec d.pen, [], d.left - d.pen.length, false⟩, 0)
     else (⟨tornS (perf d.sec (d.pen.take d.left.toNat)) (d.pen.getD d.left.toNat (0, [])), [], 0, true⟩, 40))
  else (Dk.zero, 40)
def Dk.stop (d : Dk) (n : Int) : Dk × Int := if d.runs then (if 0 ≤ n ∧ n ≤ 65536 then ({ d with left := n }, 0) else (Dk.zero, 1)) else (Dk.zero, 40)
def Dk.restart (d : Dk) : Dk := ⟨d.sec, [], -1, false⟩

/-- Bytes as values. -/
def bs (l : List UInt8) : List Value := l.map fun c => .int .u8 (c.toNat : Nat)
theorem bs_len (l : List UInt8) : (bs l).length = l.length := by simp [bs]
theorem bs_get (l : List UInt8) (i : Nat) (h : i < (bs l).length) : (bs l)[i] = .int .u8 ((l[i]'(by simpa [bs] using h)).toNat : Nat) := by simp [bs]
theorem bs_one (l : List UInt8) : ∀ u ∈ bs l, u.oneCell' = true := by
  intro u hu
  obtain ⟨c, _, rfl⟩ := List.mem_map.1 hu
  rfl
theorem bs_app (a b : List UInt8) : bs (a ++ b) = bs a ++ bs b := by simp [bs]

/-- A block that is old, or holds bytes, sectors or writes. -/
def Okb (n0 : Nat) (W : World) (b : Nat) : Prop := b < n0 ∨ ∃ T cs, Blk W b T cs ∧ (T = 5 ∨ T = 35 ∨ T = 77)
theorem Okb.below {W W' : World} {b : Nat} (h : Okb n0 W b) (hb : Below W.heap.size W W') : Okb n0 W' b :=
  h.imp_right fun ⟨T, cs, h1, h2⟩ => ⟨T, cs, h1.below hb h1.lt, h2⟩
theorem Blk.okb {W : World} {b T : Nat} {cs : List Value} (h : Blk W b T cs) (hT : T = 5 ∨ T = 35 ∨ T = 77) : Okb n0 W b := .inr ⟨T, cs, h, hT⟩
theorem Blk.ne {w : World} {g g' t t' : Nat} {cs cs' : List Value} (h : Blk w g t cs) (h' : Blk w g' t' cs') (hne : t ≠ t') : g ≠ g' := by
  rintro rfl
  unfold Blk at h h'
  rw [h] at h'
  injection h' with h'
  injection h' with _ ht
  exact hne ht
/-- Cells that a slice names. -/
def Cels (n0 : Nat) (W : World) (A : Option Addr) (vs : List Value) : Prop := vs ≠ [] → ∃ b o, A = some ⟨b, o, none⟩ ∧ b < W.heap.size ∧ Okb n0 W b ∧ ∀ i (h : i < vs.length), W.cell? ⟨b, o + i, none⟩ = some vs[i]
section
variable {W W' : World} {A : Option Addr} {vs : List Value}
theorem Cels.nil (W : World) (A : Option Addr) : Cels n0 W A [] := fun h => absurd rfl h
theorem Cels.below (h : Cels n0 W A vs) (hb : Below W.heap.size W W') : Cels n0 W' A vs := fun hne => by
  obtain ⟨b, o, e, hlt, hk, hc⟩ := h hne
  exact ⟨b, o, e, Nat.lt_of_lt_of_le hlt hb.size, hk.below hb, fun i hi => (World.cell?_of_block (a := ⟨b, o + i, none⟩) (hb.block b hlt)).trans (hc i hi)⟩
/-- A change of a block that holds something else, and is not old. -/
theorem Cels.keepT {X T0 : Nat} {cs : List Value} (h : Cels n0 W A vs) (hX : Blk W X T0 cs) (hT : T0 ≠ 5 ∧ T0 ≠ 35 ∧ T0 ≠ 77) (hn : n0 ≤ X) (hg : W.grownBy W' (some X)) : Cels n0 W' A vs := fun hne => by
  obtain ⟨b, o, e, hlt, hk, hc⟩ := h hne
  have hb : b ≠ X := by
    rcases hk with hk | ⟨T, ds, h1, h2⟩
    · omega
    · exact h1.ne hX (by omega)
  have he := hg.block b hlt (by intro e; injection e with e; exact hb e)
  refine ⟨b, o, e, Nat.lt_of_lt_of_le hlt hg.size, ?_, fun i hi => (World.cell?_of_block (a := ⟨b, o + i, none⟩) he).trans (hc i hi)⟩
  exact hk.imp_right fun ⟨T, ds, h1, h2⟩ => ⟨T, ds, he.trans h1, h2⟩
theorem Cels.keep {X : Nat} {cs : List Value} (h : Cels n0 W A vs) (hX : Blk W X 25 cs) (hn : n0 ≤ X) (hg : W.grownBy W' (some X)) : Cels n0 W' A vs := h.keepT hX (by decide) hn hg
theorem Cels.at (h : Cels n0 W A vs) {k : Nat} (hk : k < vs.length) : ∃ b o, A = some ⟨b, o, none⟩ ∧ b < W.heap.size ∧ ∀ i (h : i < vs.length), W.cell? ⟨b, o + i, none⟩ = some vs[i] := by
  obtain ⟨b, o, e, hlt, _, hc⟩ := h (by intro e; rw [e] at hk; simp at hk)
  exact ⟨b, o, e, hlt, hc⟩
end

/-- A slice of bytes. -/
structure Sec where
  A : Option Addr
  l : List UInt8
  cap : Nat
abbrev Sec.v (s : Sec) : Value := .slice s.A s.l.length s.cap
structure Sec.In n0 (s : Sec) (W : World) : Prop where
  cels : Cels n0 W s.A (bs s.l)
  le : s.l.length ≤ s.cap
  cap : s.cap ≤ 9223372036854775807
  nil : s.A = none → s.cap = 0
/-- A write. -/
structure Wr where
  pos : Int
  s : Sec
abbrev Wr.cs (p : Wr) : List Value := [.int .i64 p.pos, p.s.v]
abbrev Wr.v (p : Wr) : Value := .agg #[.int .i64 p.pos, p.s.v]
def secs (l : List Sec) : List Value := l.map Sec.v
def wrs (l : List Wr) : List Value := l.flatMap Wr.cs
def Wr.d (p : Wr) : Int × List UInt8 := (p.pos, p.s.l)
theorem secs_len (l : List Sec) : (secs l).length = l.length := by simp [secs]
theorem wrs_len : ∀ l : List Wr, (wrs l).length = l.length * 2
  | [] => rfl
  | p :: l => by
    show (p.cs ++ wrs l).length = _
    rw [List.length_append, wrs_len l]
    simp
    omega
theorem secs_get (l : List Sec) (i : Nat) (h : i < (secs l).length) : (secs l)[i] = (l[i]'(by simpa [secs] using h)).v := by simp [secs]
theorem wrs_get : ∀ (l : List Wr) (i : Nat) (h : i < l.length), (wrs l)[i * 2]? = some (.int .i64 l[i].pos) ∧ (wrs l)[i * 2 + 1]? = some l[i].s.v
  | p :: l, 0, _ => ⟨rfl, rfl⟩
  | p :: l, i + 1, h => by
    obtain ⟨h1, h2⟩ := wrs_get l i (by simpa using h)
    have e : wrs (p :: l) = Value.int .i64 p.pos :: p.s.v :: wrs l := rfl
    rw [e]
    have e1 : (i + 1) * 2 = i * 2 + 1 + 1 := by omega
    rw [e1]
    exact ⟨by simpa using h1, by simpa using h2⟩
theorem wrs_app (a b : List Wr) : wrs (a ++ b) = wrs a ++ wrs b := by simp [wrs]
theorem secs_app (a b : List Sec) : secs (a ++ b) = secs a ++ secs b := by simp [secs]
theorem secs_one (l : List Sec) : ∀ u ∈ secs l, u.oneCell' = true := by
  intro u hu
  obtain ⟨c, _, rfl⟩ := List.mem_map.1 hu
  rfl
theorem wrs_one (l : List Wr) : ∀ u ∈ wrs l, u.oneCell' = true := by
  intro u hu
  obtain ⟨c, _, h⟩ := List.mem_flatMap.1 hu
  simp [Wr.cs] at h
  rcases h with rfl | rfl <;> rfl

/-- A disk as a value. -/
structure Dsk where
  sa : Option Addr
  ss : List Sec
  sc : Nat
  pa : Option Addr
  ps : List Wr
  pc : Nat
  left : Int
  stp : Bool
abbrev Dsk.c0 (d : Dsk) : Value := .slice d.sa d.ss.length d.sc
abbrev Dsk.c1 (d : Dsk) : Value := .slice d.pa d.ps.length d.pc
abbrev Dsk.cs (d : Dsk) : List Value := [.slice d.sa d.ss.length d.sc, .slice d.pa d.ps.length d.pc, .int .i64 d.left, .bool d.stp]
abbrev Dsk.v (d : Dsk) : Value := .agg #[.slice d.sa d.ss.length d.sc, .slice d.pa d.ps.length d.pc, .int .i64 d.left, .bool d.stp]
def secD (l : List Sec) : List (List UInt8) := l.map Sec.l
def wrD (l : List Wr) : List (Int × List UInt8) := l.map Wr.d
def Dsk.d (d : Dsk) : Dk := ⟨secD d.ss, wrD d.ps, d.left, d.stp⟩
def Dsk.zero : Dsk := ⟨none, [], 0, none, [], 0, 0, false⟩
theorem secD_len (l : List Sec) : (secD l).length = l.length := by simp [secD]
theorem wrD_len (l : List Wr) : (wrD l).length = l.length := by simp [wrD]
theorem secD_get (l : List Sec) (i : Nat) (h : i < (secD l).length) : (secD l)[i] = (l[i]'(by simpa [secD] using h)).l := by simp [secD]
theorem wrD_get (l : List Wr) (i : Nat) (h : i < (wrD l).length) : (wrD l)[i] = (l[i]'(by simpa [wrD] using h)).d := by simp [wrD]
/-- A list of sectors in memory. -/
structure SecsIn (n0 : Nat) (A : Option Addr) (l : List Sec) (cap : Nat) (W : World) : Prop where
  cels : Cels n0 W A (secs l)
  each : ∀ s ∈ l, s.In n0 W
  le : l.length ≤ cap
  top : cap ≤ 9223372036854775807
  nil : A = none → cap = 0
/-- A list of writes in memory. -/
structure WrsIn (n0 : Nat) (A : Option Addr) (l : List Wr) (cap : Nat) (W : World) : Prop where
  cels : Cels n0 W A (wrs l)
  each : ∀ p ∈ l, p.s.In n0 W ∧ -9223372036854775808 ≤ p.pos ∧ p.pos ≤ 9223372036854775807
  le : l.length ≤ cap
  top : cap ≤ 9223372036854775807
  nil : A = none → cap = 0
structure Dsk.In n0 (d : Dsk) (W : World) : Prop where
  sec : SecsIn n0 d.sa d.ss d.sc W
  pen : WrsIn n0 d.pa d.ps d.pc W
  left : -9223372036854775808 ≤ d.left ∧ d.left ≤ 9223372036854775807
section
variable {W W' : World}
theorem Sec.In.below {s : Sec} (h : s.In n0 W) (hb : Below W.heap.size W W') : s.In n0 W' := ⟨h.cels.below hb, h.le, h.cap, h.nil⟩
theorem SecsIn.below {A : Option Addr} {l : List Sec} {cap : Nat} (h : SecsIn n0 A l cap W) (hb : Below W.heap.size W W') : SecsIn n0 A l cap W' := ⟨h.cels.below hb, fun s hs => (h.each s hs).below hb, h.le, h.top, h.nil⟩
theorem WrsIn.below {A : Option Addr} {l : List Wr} {cap : Nat} (h : WrsIn n0 A l cap W) (hb : Below W.heap.size W W') : WrsIn n0 A l cap W' := ⟨h.cels.below hb, fun s hs => ⟨(h.each s hs).1.below hb, (h.each s hs).2⟩, h.le, h.top, h.nil⟩
theorem Dsk.In.below {d : Dsk} (h : d.In n0 W) (hb : Below W.heap.size W W') : d.In n0 W' := ⟨h.sec.below hb, h.pen.below hb, h.left⟩
theorem Sec.In.keep {X : Nat} {cs : List Value} {s : Sec} (h : s.In n0 W) (hX : Blk W X 25 cs) (hn : n0 ≤ X) (hg : W.grownBy W' (some X)) : s.In n0 W' := ⟨h.cels.keep hX hn hg, h.le, h.cap, h.nil⟩
theorem Sec.In.keepT {X T0 : Nat} {cs : List Value} {s : Sec} (h : s.In n0 W) (hX : Blk W X T0 cs) (hT : T0 ≠ 5 ∧ T0 ≠ 35 ∧ T0 ≠ 77) (hn : n0 ≤ X) (hg : W.grownBy W' (some X)) : s.In n0 W' := ⟨h.cels.keepT hX hT hn hg, h.le, h.cap, h.nil⟩
theorem Dsk.In.keepT {X T0 : Nat} {cs : List Value} {d : Dsk} (h : d.In n0 W) (hX : Blk W X T0 cs) (hT : T0 ≠ 5 ∧ T0 ≠ 35 ∧ T0 ≠ 77) (hn : n0 ≤ X) (hg : W.grownBy W' (some X)) : d.In n0 W' :=
  ⟨⟨h.sec.cels.keepT hX hT hn hg, fun s hs => (h.sec.each s hs).keepT hX hT hn hg, h.sec.le, h.sec.top, h.sec.nil⟩, ⟨h.pen.cels.keepT hX hT hn hg, fun p hp => ⟨(h.pen.each p hp).1.keepT hX hT hn hg, (h.pen.each p hp).2⟩, h.pen.le, h.pen.top, h.pen.nil⟩, h.left⟩
theorem Dsk.In.keep {X : Nat} {cs : List Value} {d : Dsk} (h : d.In n0 W) (hX : Blk W X 25 cs) (hn : n0 ≤ X) (hg : W.grownBy W' (some X)) : d.In n0 W' :=
  ⟨⟨h.sec.cels.keep hX hn hg, fun s hs => (h.sec.each s hs).keep hX hn hg, h.sec.le, h.sec.top, h.sec.nil⟩, ⟨h.pen.cels.keep hX hn hg, fun p hp => ⟨(h.pen.each p hp).1.keep hX hn hg, (h.pen.each p hp).2⟩, h.pen.le, h.pen.top, h.pen.nil⟩, h.left⟩
theorem Dsk.zero_in (W : World) : Dsk.zero.In n0 W := ⟨⟨Cels.nil W _, (fun s h => by cases h), Nat.le_refl _, by decide, fun _ => rfl⟩, ⟨Cels.nil W _, (fun s h => by cases h), Nat.le_refl _, by decide, fun _ => rfl⟩, by decide⟩
theorem Dsk.zero_d : Dsk.zero.d = Dk.zero := rfl
/-- Sector k. -/
theorem SecsIn.at {A : Option Addr} {l : List Sec} {cap : Nat} (h : SecsIn n0 A l cap W) {k : Nat} (hk : k < l.length) : ∃ b o, A = some ⟨b, o, none⟩ ∧ b < W.heap.size ∧ W.cell? ⟨b, o + k, none⟩ = some l[k].v := by
  have hl : k < (secs l).length := by rw [secs_len]; exact hk
  obtain ⟨b, o, e, hb, hc⟩ := h.cels.at hl
  exact ⟨b, o, e, hb, by rw [hc k hl, secs_get]⟩
/-- Write k. -/
theorem WrsIn.at {A : Option Addr} {l : List Wr} {cap : Nat} (h : WrsIn n0 A l cap W) {k : Nat} (hk : k < l.length) : ∃ b o, A = some ⟨b, o, none⟩ ∧ b < W.heap.size ∧ W.cell? ⟨b, o + k * 2, none⟩ = some (.int .i64 l[k].pos) ∧ W.cell? ⟨b, o + k * 2 + 1, none⟩ = some l[k].s.v := by
  have hl : k * 2 + 1 < (wrs l).length := by rw [wrs_len]; omega
  obtain ⟨b, o, e, hb, hc⟩ := h.cels.at hl
  obtain ⟨h1, h2⟩ := wrs_get l k hk
  refine ⟨b, o, e, hb, ?_, ?_⟩
  · rw [hc (k * 2) (by omega), ← h1, List.getElem?_eq_getElem (by omega)]
  · rw [Nat.add_assoc, hc (k * 2 + 1) hl, ← h2, List.getElem?_eq_getElem hl]
end
end Go.Proofs.Ytgigccgklahddaa
