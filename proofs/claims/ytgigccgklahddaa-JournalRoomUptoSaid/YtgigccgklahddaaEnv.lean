/- Disks and journals that lie in boxes, in a later world. -/
import Derived.Test.YtgigccgklahddaaVal
import Derived.Test.YtgigccgklahddaaSam
import Derived.Deep.CutRange
import Derived.Deep.CutBlock
import Derived.Deep.Cut
namespace Go.Proofs.Ytgigccgklahddaa
open Go.RowKit
variable {n0 : Nat}

/-- Disks and journals that lie in boxes, and bytes, in a later world. -/
structure Env (n0 : Nat) (w : World) (l : List (Nat × Dsk)) (q : List (Nat × Jr)) (m : List Sec) (W : World) : Prop where
  bel : Below w.heap.size w W
  box : ∀ p ∈ l, Blk W p.1 25 p.2.cs ∧ w.heap.size ≤ p.1 ∧ n0 ≤ p.1 ∧ p.2.In n0 W
  jou : ∀ p ∈ q, Blk W p.1 29 p.2.cs ∧ w.heap.size ≤ p.1 ∧ n0 ≤ p.1 ∧ p.2.In n0 W
  secs : ∀ s ∈ m, s.In n0 W
theorem Jr.In.keepT {X T0 : Nat} {cs : List Value} {j : Jr} {W W' : World} (h : j.In n0 W) (hX : Blk W X T0 cs) (hT : T0 ≠ 5 ∧ T0 ≠ 35 ∧ T0 ≠ 77) (hn : n0 ≤ X) (hg : W.grownBy W' (some X)) : j.In n0 W' :=
  ⟨⟨h.recs.cels.keepT hX hT hn hg, fun s hs => (h.recs.each s hs).keepT hX hT hn hg, h.recs.le, h.recs.top, h.recs.nil⟩, h.many, h.synced, h.short, h.few⟩
section
variable {w W W' : World} {l : List (Nat × Dsk)} {q : List (Nat × Jr)} {m : List Sec}
theorem Env.start (w : World) : Env n0 w [] [] [] w := ⟨Below.refl _ _, fun p hp => (by cases hp), fun p hp => (by cases hp), fun p hp => (by cases hp)⟩
theorem Env.below (h : Env n0 w l q m W) (hb : Below W.heap.size W W') : Env n0 w l q m W' :=
  ⟨below_one h.bel hb, fun p hp => ⟨(h.box p hp).1.below hb (h.box p hp).1.lt, (h.box p hp).2.1, (h.box p hp).2.2.1, (h.box p hp).2.2.2.below hb⟩, fun p hp => ⟨(h.jou p hp).1.below hb (h.jou p hp).1.lt, (h.jou p hp).2.1, (h.jou p hp).2.2.1, (h.jou p hp).2.2.2.below hb⟩, fun s hs => (h.secs s hs).below hb⟩
theorem Env.drew (h : Env n0 w l q m W) : Env n0 w l q m W.drew := h.below (Below.refl _ _).drew
theorem Env.alloc (h : Env n0 w l q m W) (o : Obj) : Env n0 w l q m (W.alloc o) := h.below (below_new _ _)
/-- A new box for a disk. -/
theorem Env.newd (h : Env n0 w l q m W) (hn : n0 ≤ w.heap.size) {d : Dsk} (hd : d.In n0 W) : Env n0 w ((W.heap.size, d) :: l) q m (W.alloc (.cells d.cs.toArray 25)) := by
  have h' := h.alloc (.cells d.cs.toArray 25)
  refine ⟨h'.bel, fun p hp => ?_, h'.jou, h'.secs⟩
  rcases List.mem_cons.1 hp with rfl | hp
  · exact ⟨Blk.new W 25 d.cs, h.bel.size, Nat.le_trans hn h.bel.size, hd.below (below_new _ _)⟩
  · exact h'.box p hp
/-- A new box for a journal. -/
theorem Env.newj (h : Env n0 w l q m W) (hn : n0 ≤ w.heap.size) {j : Jr} (hj : j.In n0 W) : Env n0 w l ((W.heap.size, j) :: q) m (W.alloc (.cells j.cs.toArray 29)) := by
  have h' := h.alloc (.cells j.cs.toArray 29)
  refine ⟨h'.bel, h'.box, fun p hp => ?_, h'.secs⟩
  rcases List.mem_cons.1 hp with rfl | hp
  · exact ⟨Blk.new W 29 j.cs, h.bel.size, Nat.le_trans hn h.bel.size, hj.below (below_new _ _)⟩
  · exact h'.jou p hp
theorem Env.add (h : Env n0 w l q m W) {s : Sec} (hs : s.In n0 W) : Env n0 w l q (s :: m) W :=
  ⟨h.bel, h.box, h.jou, fun t ht => by
    rcases List.mem_cons.1 ht with rfl | ht
    · exact hs
    · exact h.secs t ht⟩
/-- Another disk into a box. -/
theorem Env.putd (h : Env n0 w l q m W) {X : Nat} {d d' : Dsk} (hX : (X, d) ∈ l) (hd : d'.In n0 W) {l' : List (Nat × Dsk)} (hl : ∀ p ∈ l', p = (X, d') ∨ (p ∈ l ∧ p.1 ≠ X)) : Env n0 w l' q m (W.setRow X d'.cs.toArray) := by
  obtain ⟨hb, hw, hn, _⟩ := h.box _ hX
  have hg : W.grownBy (W.setRow X d'.cs.toArray) (some X) := only_setRow (only_refl _ _) (.inl rfl) _
  refine ⟨below_setRow h.bel hw _, fun p hp => ?_, fun p hp => ?_, fun s hs => (h.secs s hs).keep hb hn hg⟩
  · rcases hl p hp with rfl | ⟨hp, hne⟩
    · exact ⟨hb.row _, hw, hn, hd.keep hb hn hg⟩
    · exact ⟨(h.box p hp).1.far hne _, (h.box p hp).2.1, (h.box p hp).2.2.1, (h.box p hp).2.2.2.keep hb hn hg⟩
  · exact ⟨(h.jou p hp).1.far ((h.jou p hp).1.ne hb (by decide)) _, (h.jou p hp).2.1, (h.jou p hp).2.2.1, (h.jou p hp).2.2.2.keepT hb (by decide) hn hg⟩
/-- Another journal into a box. -/
theorem Env.putj (h : Env n0 w l q m W) {X : Nat} {d d' : Jr} (hX : (X, d) ∈ q) (hd : d'.In n0 W) {q' : List (Nat × Jr)} (hl : ∀ p ∈ q', p = (X, d') ∨ (p ∈ q ∧ p.1 ≠ X)) : Env n0 w l q' m (W.setRow X d'.cs.toArray) := by
  obtain ⟨hb, hw, hn, _⟩ := h.jou _ hX
  have hg : W.grownBy (W.setRow X d'.cs.toArray) (some X) := only_setRow (only_refl _ _) (.inl rfl) _
  refine ⟨below_setRow h.bel hw _, fun p hp => ?_, fun p hp => ?_, fun s hs => (h.secs s hs).keepT hb (by decide) hn hg⟩
  · exact ⟨(h.box p hp).1.far ((h.box p hp).1.ne hb (by decide)) _, (h.box p hp).2.1, (h.box p hp).2.2.1, (h.box p hp).2.2.2.keepT hb (by decide) hn hg⟩
  · rcases hl p hp with rfl | ⟨hp, hne⟩
    · exact ⟨hb.row _, hw, hn, hd.keepT hb (by decide) hn hg⟩
    · exact ⟨(h.jou p hp).1.far hne _, (h.jou p hp).2.1, (h.jou p hp).2.2.1, (h.jou p hp).2.2.2.keepT hb (by decide) hn hg⟩
theorem Env.sub (h : Env n0 w l q m W) {l' : List (Nat × Dsk)} {q' : List (Nat × Jr)} {m' : List Sec} (hl : ∀ p ∈ l', p ∈ l) (hq : ∀ p ∈ q', p ∈ q) (hm : ∀ p ∈ m', p ∈ m) : Env n0 w l' q' m' W := ⟨h.bel, fun p hp => h.box p (hl p hp), fun p hp => h.jou p (hq p hp), fun s hs => h.secs s (hm s hs)⟩
end
/-- A byte slice of the call's own. -/
theorem blk_in {W : World} {b : Nat} {l : List UInt8} {cap : Nat} (h : Blk W b 5 (bs l)) (hc : l.length ≤ cap) (hm : cap ≤ 9223372036854775807) : Sec.In n0 ⟨some ⟨b, 0, none⟩, l, cap⟩ W :=
  ⟨by have := Blk.cels (n0 := n0) (xs := bs l) (cs := []) (by rw [List.append_nil]; exact h) (by omega); exact this, hc, hm, fun e => by cases e⟩
theorem append_is {j : Jr} {b : Sec} {x y : Jk} {l : List UInt8} {n : Int} (w : World) (hd : j.k = x) (hbl : b.l = l) (h : x.append l = (y, n)) (hi : j.In n0 w) (hb : b.In n0 w) (hl : l.length ≤ 140737488355328) :
    Calls Try.prog 15 #[j.v, b.v] w fun e w' => ∃ j' : Jr, e = .returned (.tuple #[j'.v, .int .i64 n]) ∧ j'.k = y ∧ j'.In n0 w' ∧ Below w.heap.size w w' :=
  (jappend_any j b w hi hb (by rw [hbl]; exact hl)).mono fun e w' ⟨d', h1, h2, h3, h4⟩ => by
    rw [hd, hbl, h] at h1 h2
    exact ⟨d', h1, h2, h3, h4⟩
theorem open_is {d : Dsk} {x : Dk} {y : Jk} {n : Int} (w : World) (hd : d.d = x) (h : x.jopen = (y, n)) (hi : d.In n0 w) :
    Calls Try.prog 12 #[d.v] w fun e w' => ∃ j' : Jr, e = .returned (.tuple #[j'.v, .int .i64 n]) ∧ j'.k = y ∧ j'.In n0 w' ∧ Below w.heap.size w w' :=
  (open_any d w hi).mono fun e w' ⟨d', h1, h2, h3, h4⟩ => by
    rw [hd, h] at h1 h2
    exact ⟨d', h1, h2, h3, h4⟩
theorem jsync_is {j : Jr} {d : Dsk} {x y : Jk} {u v : Dk} {n : Int} (w : World) (hn0 : n0 ≤ w.heap.size) (hj : j.k = x) (hd : d.d = u) (h : jsyncB x u = (y, v, n)) (hi : j.In n0 w) (hi2 : d.In n0 w) :
    Calls Try.prog 21 #[j.v, d.v] w fun e w' => ∃ (j' : Jr) (d' : Dsk), e = .returned (.tuple #[j'.v, d'.v, .int .i64 n]) ∧ j'.k = y ∧ d'.d = v ∧ j'.In n0 w' ∧ d'.In n0 w' ∧ Below w.heap.size w w' :=
  (jsync_any j d w hn0 hi hi2).mono fun e w' ⟨j', d', h1, h2, h3, h4⟩ => by
    rw [hj, hd, h] at h1 h2 h3
    exact ⟨j', d', h1, h2, h3, h4⟩
end Go.Proofs.Ytgigccgklahddaa
