/- Links: what each call answers, as plain functions; how links lie in memory. -/
import Derived.Test.YthmaakiibgdigaaMem
namespace Go.Proofs.Ythmaakiibgdigaa
open Go.RowKit

def siteB (x : Int) : Bool := decide (0 ≤ x ∧ x < 24)
/-- A packet. -/
structure Pk where
  fr : Int
  to : Int
  s : List UInt8
deriving DecidableEq
def Pk.zero : Pk := ⟨0, 0, []⟩
def partB (a b : Int) : Bool := siteB a && siteB b && decide (a ≠ b)
def pkB (p : Pk) : Bool := partB p.fr p.to && decide (p.s.length ≤ 1048576)
def okPr (q : Int × Int) : Bool := partB q.1 q.2 && decide (q.1 ≤ q.2)
def ltPr (p q : Int × Int) : Bool := decide (p.1 < q.1 ∨ p.1 = q.1 ∧ p.2 < q.2)
def stepB (l : List (Int × Int)) (j : Nat) : Bool := okPr (l.getD j (0, 0)) && (decide (j = 0) || ltPr (l.getD (j - 1) (0, 0)) (l.getD j (0, 0)))
def apB (l : List (Int × Int)) : Bool := (List.range l.length).all (stepB l)
def quB (l : List Pk) : Bool := decide (l.length ≤ 4096) && l.all pkB
/-- Links. -/
structure Nt where
  q : List Pk
  a : List (Int × Int)
def Nt.zero : Nt := ⟨[], []⟩
def Nt.chk (n : Nt) : Bool := quB n.q && apB n.a
def Nt.chkI (n : Nt) : Int := if n.chk then 0 else 60
theorem chkI_ok {n : Nt} (h : n.chk = true) : n.chkI = 0 := by unfold Nt.chkI; rw [h]; rfl
theorem chkI_no {n : Nt} (h : n.chk = false) : n.chkI = 60 := by unfold Nt.chkI; rw [h]; rfl
def pairN (a b : Int) : Int × Int := (min a b, max a b)
def Nt.isCut (n : Nt) (a b : Int) : Bool := n.a.contains (pairN a b)
def Nt.put (n : Nt) (p : Pk) : Nt × Int := if n.q.length = 4096 then (Nt.zero, 2) else (⟨n.q ++ [p], n.a⟩, 0)
def Nt.send (n : Nt) (p : Pk) : Nt × Int := if n.chk && pkB p then n.put p else (Nt.zero, 60)
def Nt.hasI (n : Nt) (at' : Int) : Bool := decide (0 ≤ at' ∧ at' < n.q.length)
def Nt.asked (n : Nt) (at' : Int) : Int := if n.chk then (if n.hasI at' then 0 else 1) else 60
def Nt.drop (n : Nt) (i : Nat) : Nt := ⟨n.q.take i ++ n.q.drop (i + 1), n.a⟩
def Nt.get (n : Nt) (i : Nat) : Pk := n.q.getD i Pk.zero
def Nt.lose (n : Nt) (at' : Int) : Nt × Int := if n.asked at' = 0 then (n.drop at'.toNat, 0) else (Nt.zero, n.asked at')
def Nt.give (n : Nt) (at' : Int) : Pk × Nt × Int :=
  if n.asked at' = 0 then ((if n.isCut (n.get at'.toNat).fr (n.get at'.toNat).to then Pk.zero else n.get at'.toNat), n.drop at'.toNat, 0) else (Pk.zero, Nt.zero, n.asked at')
def Nt.again (n : Nt) (at' : Int) : Nt × Int := if n.asked at' = 0 then n.put (n.get at'.toNat) else (Nt.zero, n.asked at')
/-- All pairs of parties, in order. -/
def allPr : List (Int × Int) := (List.range 24).flatMap fun (x : Nat) => ((List.range 24).filter fun (y : Nat) => decide (x < y)).map fun (y : Nat) => ((x : Int), (y : Int))
def cutA (l : List (Int × Int)) (p : Int × Int) (on : Bool) : List (Int × Int) := allPr.filter fun q => if q = p then on else l.contains q
def Nt.cut (n : Nt) (a b : Int) (on : Bool) : Nt × Int := if n.chk then (if partB a b then (⟨n.q, cutA n.a (pairN a b) on⟩, 0) else (Nt.zero, 1)) else (Nt.zero, 60)

theorem quB_iff {l : List Pk} : quB l = true ↔ l.length ≤ 4096 ∧ ∀ i (h : i < l.length), pkB l[i] = true := by
  simp only [quB, Bool.and_eq_true, decide_eq_true_eq, List.all_eq_true]
  constructor
  · rintro ⟨h1, h2⟩; exact ⟨h1, fun i h => h2 _ (List.getElem_mem h)⟩
  · rintro ⟨h1, h2⟩
    refine ⟨h1, fun s hs => ?_⟩
    obtain ⟨i, h, rfl⟩ := List.getElem_of_mem hs
    exact h2 i h
theorem apB_iff {l : List (Int × Int)} : apB l = true ↔ ∀ j, j < l.length → stepB l j = true := by
  simp [apB, List.all_eq_true]
theorem bool_false {b : Bool} (h : b = true → False) : b = false := by cases b; rfl; exact absurd rfl h

/-- A packet in memory. -/
structure Pkt where
  fr : Int
  to : Int
  s : Sec
abbrev Pkt.cs (p : Pkt) : List Value := [.int .i64 p.fr, .int .i64 p.to, .slice p.s.A p.s.l.length p.s.cap]
abbrev Pkt.v (p : Pkt) : Value := .agg #[.int .i64 p.fr, .int .i64 p.to, .slice p.s.A p.s.l.length p.s.cap]
def Pkt.d (p : Pkt) : Pk := ⟨p.fr, p.to, p.s.l⟩
def Pkt.zero : Pkt := ⟨0, 0, Sl.none⟩
def I64 (x : Int) : Prop := -9223372036854775808 ≤ x ∧ x ≤ 9223372036854775807
structure Pkt.In (ok : Nat → Prop) (p : Pkt) (W : World) : Prop where
  s : p.s.In ok W
  fr : I64 p.fr
  to : I64 p.to
abbrev prC (q : Int × Int) : List Value := [.int .i64 q.1, .int .i64 q.2]
abbrev prV (q : Int × Int) : Value := .agg #[.int .i64 q.1, .int .i64 q.2]
structure Net where
  q : Sl Pkt
  a : Sl (Int × Int)
abbrev Net.cs (n : Net) : List Value := [.slice n.q.A n.q.l.length n.q.cap, .slice n.a.A n.a.l.length n.a.cap]
abbrev Net.v (n : Net) : Value := .agg #[.slice n.q.A n.q.l.length n.q.cap, .slice n.a.A n.a.l.length n.a.cap]
def Net.d (n : Net) : Nt := ⟨n.q.l.map Pkt.d, n.a.l⟩
def Net.zero : Net := ⟨Sl.none, Sl.none⟩
/-- A list of packets in memory. -/
structure PksIn (ok : Nat → Prop) (x : Sl Pkt) (W : World) : Prop where
  q : SlIn Pkt.cs ok x W
  p : ∀ p ∈ x.l, p.In ok W
structure PrsIn (ok : Nat → Prop) (x : Sl (Int × Int)) (W : World) : Prop where
  a : SlIn prC ok x W
  r : ∀ y ∈ x.l, I64 y.1 ∧ I64 y.2
structure Net.In (ok : Nat → Prop) (n : Net) (W : World) : Prop where
  q : PksIn ok n.q W
  a : PrsIn ok n.a W
section
variable {ok ok' : Nat → Prop} {W W' : World}
theorem Pkt.In.keep {p : Pkt} (h : p.In ok W) (k : Kept ok W W') : p.In ok W' := ⟨h.s.keep k, h.fr, h.to⟩
theorem Pkt.In.below {p : Pkt} (h : p.In ok W) (hb : Below W.heap.size W W') : p.In ok W' := h.keep (.below hb)
theorem Pkt.In.weak {p : Pkt} (h : p.In ok W) (hk : ∀ b, b < W.heap.size → ok b → ok' b) : p.In ok' W := ⟨h.s.weak hk, h.fr, h.to⟩
theorem PksIn.keep {q : Sl Pkt} (h : PksIn ok q W) (k : Kept ok W W') : PksIn ok q W' := ⟨h.q.keep k, fun p hp => (h.p p hp).keep k⟩
theorem PksIn.below {q : Sl Pkt} (h : PksIn ok q W) (hb : Below W.heap.size W W') : PksIn ok q W' := h.keep (.below hb)
theorem PksIn.weak {q : Sl Pkt} (h : PksIn ok q W) (hk : ∀ b, b < W.heap.size → ok b → ok' b) : PksIn ok' q W := ⟨h.q.weak hk, fun p hp => (h.p p hp).weak hk⟩
theorem PrsIn.keep {a : Sl (Int × Int)} (h : PrsIn ok a W) (k : Kept ok W W') : PrsIn ok a W' := ⟨h.a.keep k, h.r⟩
theorem PrsIn.below {a : Sl (Int × Int)} (h : PrsIn ok a W) (hb : Below W.heap.size W W') : PrsIn ok a W' := h.keep (.below hb)
theorem PrsIn.weak {a : Sl (Int × Int)} (h : PrsIn ok a W) (hk : ∀ b, b < W.heap.size → ok b → ok' b) : PrsIn ok' a W := ⟨h.a.weak hk, h.r⟩
theorem Net.In.keep {n : Net} (h : n.In ok W) (k : Kept ok W W') : n.In ok W' := ⟨h.q.keep k, h.a.keep k⟩
theorem Net.In.below {n : Net} (h : n.In ok W) (hb : Below W.heap.size W W') : n.In ok W' := h.keep (.below hb)
theorem Net.In.weak {n : Net} (h : n.In ok W) (hk : ∀ b, b < W.heap.size → ok b → ok' b) : n.In ok' W := ⟨h.q.weak hk, h.a.weak hk⟩
theorem PksIn.nil (W : World) : PksIn ok Sl.none W := ⟨SlIn.none W, fun p hp => by cases hp⟩
theorem PrsIn.nil (W : World) : PrsIn ok Sl.none W := ⟨SlIn.none W, fun p hp => by cases hp⟩
theorem Net.zero_in (W : World) : Net.zero.In ok W := ⟨PksIn.nil W, PrsIn.nil W⟩
theorem Pkt.zero_in (W : World) : Pkt.zero.In ok W := ⟨SlIn.none W, by unfold I64 Pkt.zero; decide, by unfold I64 Pkt.zero; decide⟩
theorem Net.zero_d : Net.zero.d = Nt.zero := rfl
theorem Pkt.zero_d : Pkt.zero.d = Pk.zero := rfl
/-- Packet k. -/
theorem PksIn.at {q : Sl Pkt} (h : PksIn ok q W) {k : Nat} (hk : k < q.l.length) : ∃ b o, q.A = some ⟨b, o, none⟩ ∧ b < W.heap.size ∧ W.cell? ⟨b, o + k * 3, none⟩ = some (.int .i64 q.l[k].fr) ∧ W.cell? ⟨b, o + k * 3 + 1, none⟩ = some (.int .i64 q.l[k].to) ∧ W.cell? ⟨b, o + k * 3 + 2, none⟩ = some q.l[k].s.v := by
  obtain ⟨b, o, e, hb, hc⟩ := h.q.at (m := 3) (fun _ => rfl) (by decide) hk
  exact ⟨b, o, e, hb, hc 0 _ rfl, hc 1 _ rfl, hc 2 _ rfl⟩
/-- Pair k. -/
theorem PrsIn.at {a : Sl (Int × Int)} (h : PrsIn ok a W) {k : Nat} (hk : k < a.l.length) : ∃ b o, a.A = some ⟨b, o, none⟩ ∧ b < W.heap.size ∧ W.cell? ⟨b, o + k * 2, none⟩ = some (.int .i64 a.l[k].1) ∧ W.cell? ⟨b, o + k * 2 + 1, none⟩ = some (.int .i64 a.l[k].2) := by
  obtain ⟨b, o, e, hb, hc⟩ := h.a.at (m := 2) (fun _ => rfl) (by decide) hk
  exact ⟨b, o, e, hb, hc 0 _ rfl, hc 1 _ rfl⟩
end
/-- What a call answers: links and a number. -/
def Ans (ok : Nat → Prop) (w : World) (x : Nt × Int) (e : Ending) (w' : World) : Prop := ∃ n : Net, e = .returned (.tuple #[n.v, .int .i64 x.2]) ∧ n.d = x.1 ∧ n.In ok w' ∧ Below w.heap.size w w'
def AnsP (ok : Nat → Prop) (w : World) (x : Pk × Nt × Int) (e : Ending) (w' : World) : Prop := ∃ (p : Pkt) (n : Net), e = .returned (.tuple #[p.v, n.v, .int .i64 x.2.2]) ∧ p.d = x.1 ∧ n.d = x.2.1 ∧ p.In ok w' ∧ n.In ok w' ∧ Below w.heap.size w w'
theorem Ans.zero {ok : Nat → Prop} {w w' : World} {x : Nt × Int} {n : Int} (hx : x = (Nt.zero, n)) (hb : Below w.heap.size w w') : Ans ok w x (.returned (.tuple #[Net.zero.v, .int .i64 n])) w' := by
  subst hx
  exact ⟨Net.zero, rfl, rfl, Net.zero_in _, hb⟩
end Go.Proofs.Ythmaakiibgdigaa
