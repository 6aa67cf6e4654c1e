/- NetworkOnlySent: the walk. -/
import Derived.Test.YthmaakiibgdigaaOns
import Derived.Test.YthmaakiibgdigaaLst
import Derived.Deep.AppendLies
namespace Go.Proofs.Ythmaakiibgdigaa
open Go.RowKit
/-- Blocks that are none of these. -/
def okL (L : List Nat) (b : Nat) : Prop := ∀ x ∈ L, x ≠ b
def ownL (A : Option Addr) : List Nat := (A.map Addr.block).toList
theorem okL_new {L : List Nat} {n : Nat} (h : ∀ x ∈ L, x < n) : ∀ b, n ≤ b → okL L b := fun _ hb x hx e => by have := h x hx; omega
theorem okL_cons {L : List Nat} {X : Nat} : ∀ b, b < X → okL L b → okL (X :: L) b := fun _ hb h x hx e => by
  rcases List.mem_cons.1 hx with rfl | hx
  · omega
  · exact h x hx e
theorem okL_sub {L L' : List Nat} (h : ∀ x ∈ L', x ∈ L) {m : Nat} : ∀ b, b < m → okL L b → okL L' b := fun _ _ ho x hx => ho x (h x hx)
theorem ho_swap {X Y : Nat} {L : List Nat} : ∀ x ∈ X :: Y :: L, x ∈ Y :: X :: L := fun x hx => by
  simp only [List.mem_cons] at hx ⊢
  rcases hx with h | h | h <;> simp [h]
theorem own_nil (w : World) (base e size : Nat) : w.ownsRow base e size (.slice none 0 0) 0 [] := ⟨by simp, .inl ⟨rfl, rfl⟩⟩
/-- What a round meets: the links in their box, the packets sent so far in a row of the call's own. -/
structure OE (w : World) (X3 : Nat) (n : Net) (s : Sl Pkt) (W : World) : Prop where
  bel : Below w.heap.size w W
  blk : Blk W X3 25 n.cs
  hX : w.heap.size ≤ X3
  own : W.ownsRow w.heap.size 28 3 (.slice s.A s.l.length s.cap) s.l.length (s.l.flatMap Pkt.cs)
  nin : n.In (okL (X3 :: ownL s.A)) W
  sin : ∀ p ∈ s.l, p.In (okL (X3 :: ownL s.A)) W
  sep : X3 ∉ ownL s.A
/-- What a move has left: links and a packet in new boxes. -/
structure RX (wr W : World) (L : List Nat) (X7 X8 : Nat) (x : Net) (p : Pkt) : Prop where
  bel : Below wr.heap.size wr W
  b7 : Blk W X7 25 x.cs
  b8 : Blk W X8 28 p.cs
  l7 : wr.heap.size ≤ X7
  l8 : wr.heap.size ≤ X8
  xin : x.In (okL (X7 :: X8 :: L)) W
  pin : p.In (okL (X7 :: X8 :: L)) W
section
variable {w wr W W' : World} {X3 X7 X8 : Nat} {n x : Net} {p : Pkt} {s : Sl Pkt} {L : List Nat}
theorem ownL_lt {base e size k : Nat} {A : Option Addr} {m c : Nat} {xs : List Value} (h : W.ownsRow base e size (.slice A m c) k xs) : ∀ x ∈ ownL A, base ≤ x ∧ x < W.heap.size := fun x hx => by
  cases A with
  | none => simp [ownL] at hx
  | some a =>
    simp [ownL] at hx
    subst hx
    exact h.lt _ rfl
theorem OE.lt (h : OE w X3 n s W) : ∀ x ∈ X3 :: ownL s.A, w.heap.size ≤ x ∧ x < W.heap.size := fun x hx => by
  rcases List.mem_cons.1 hx with rfl | hx
  · exact ⟨h.hX, h.blk.lt⟩
  · exact ownL_lt h.own x hx
theorem OE.below (h : OE w X3 n s W) (hb : Below W.heap.size W W') : OE w X3 n s W' :=
  ⟨below_one h.bel hb, h.blk.below hb h.blk.lt, h.hX, own_later h.own hb, h.nin.below hb, fun p hp => (h.sin p hp).below hb, h.sep⟩
theorem OE.start (h : Below w.heap.size w W) : OE w W.heap.size Net.zero Sl.none (W.alloc (.cells #[.slice none 0 0, .slice none 0 0] 25)) :=
  ⟨h.alloc h.size _, Blk.new W 25 [.slice none 0 0, .slice none 0 0], h.size, own_nil _ _ _ _, Net.zero_in _, fun p hp => (by cases hp), by simp [ownL]⟩
theorem RX.below (h : RX wr W L X7 X8 x p) (hb : Below W.heap.size W W') : RX wr W' L X7 X8 x p :=
  ⟨below_one h.bel hb, h.b7.below hb h.b7.lt, h.b8.below hb h.b8.lt, h.l7, h.l8, h.xin.below hb, h.pin.below hb⟩
/-- Other links in the box. -/
theorem OE.put (h : OE w X3 n s W) (hx : x.In (okL (X3 :: ownL s.A)) W) : OE w X3 x s (W.setRow X3 x.cs.toArray) := by
  have hk : Kept (okL (X3 :: ownL s.A)) W (W.setRow X3 x.cs.toArray) := Kept.row (fun ho => ho X3 (List.mem_cons_self ..) rfl) _
  refine ⟨below_setRow h.bel h.hX _, h.blk.row _, h.hX, ⟨h.own.1, ?_⟩, hx.keep hk, fun p hp => (h.sin p hp).keep hk, h.sep⟩
  rcases h.own.2 with h1 | ⟨g, cap, cur, hv, h1, h2, h3⟩
  · exact .inl h1
  · refine .inr ⟨g, cap, cur, hv, h1, ?_, h3⟩
    rw [setRow_other]
    · exact h2
    · intro e
      subst e
      injection hv with e1
      exact h.sep (by rw [e1]; simp [ownL])
theorem ho_cells {b : Nat} {v0 v1 v2 v3 v4 : Value} (hb : b < wr.heap.size) {i0 i1 i2 i3 i4 : Nat} (f0 : wr.cell? ⟨b, i0, none⟩ = some v0) (f1 : wr.cell? ⟨b, i1, none⟩ = some v1) (f2 : wr.cell? ⟨b, i2, none⟩ = some v2) (f3 : wr.cell? ⟨b, i3, none⟩ = some v3) (f4 : wr.cell? ⟨b, i4, none⟩ = some v4) (hW : Below wr.heap.size wr W) :
    W.cell? ⟨b, i0, none⟩ = some v0 ∧ W.cell? ⟨b, i1, none⟩ = some v1 ∧ W.cell? ⟨b, i2, none⟩ = some v2 ∧ W.cell? ⟨b, i3, none⟩ = some v3 ∧ W.cell? ⟨b, i4, none⟩ = some v4 :=
  ⟨(hW.cell (p := ⟨b, i0, none⟩) hb).trans f0, (hW.cell (p := ⟨b, i1, none⟩) hb).trans f1, (hW.cell (p := ⟨b, i2, none⟩) hb).trans f2, (hW.cell (p := ⟨b, i3, none⟩) hb).trans f3, (hW.cell (p := ⟨b, i4, none⟩) hb).trans f4⟩
theorem ho_new (h : x.In (okL L) W ∧ p.In (okL L) W) (o : Obj) : x.In (okL (W.heap.size :: L)) (W.alloc o) ∧ p.In (okL (W.heap.size :: L)) (W.alloc o) :=
  ⟨(h.1.weak okL_cons).below (below_new _ _), (h.2.weak okL_cons).below (below_new _ _)⟩
theorem ho_row (h : x.In (okL L) W ∧ p.In (okL L) W) {X : Nat} (hX : X ∈ L) (cs : Array Value) : x.In (okL L) (W.setRow X cs) ∧ p.In (okL L) (W.setRow X cs) :=
  ⟨h.1.keep (Kept.row (fun ho => ho X hX rfl) _), h.2.keep (Kept.row (fun ho => ho X hX rfl) _)⟩
end
/-- What a move makes of what has been sent. -/
def Step (n : Nt) (sent : List Pk) (c h2 : Nat) (P : Pk) (y : Nt) (e : Int) : Prop :=
  (e ≠ 0 ∧ y = Nt.zero) ∨ (e = 0 ∧ ((h2 = 0 ∧ ∃ p, y.q = n.q ++ [p] ∧ Sent y (sent ++ [p]) c) ∨ (h2 = 1 ∧ Sent y sent c ∧ (P = Pk.zero ∧ 0 < c ∨ P ∈ sent)) ∨ (h2 = 4 ∧ Sent y sent (c + 1)) ∨ ((h2 = 2 ∨ h2 = 3 ∨ h2 = 5) ∧ Sent y sent c)))
theorem Sent.happ {n : Nt} {sent : List Pk} {c : Nat} (h : Sent n sent c) (m : Mv) {h2 : Nat} (hh : h2 = m.how.toNat % 6) {P : Pk} {y : Nt} {e : Int} (hx : n.happ m = (P, y, e)) : Step n sent c h2 P y e := by
  have hc := hap_cases n m (i := n.pick m) rfl rfl rfl hh
  have h6 : h2 < 6 := by omega
  rw [hx] at hc
  obtain rfl | rfl | rfl | rfl | rfl | rfl : h2 = 0 ∨ h2 = 1 ∨ h2 = 2 ∨ h2 = 3 ∨ h2 = 4 ∨ h2 = 5 := by omega
  · have e1 := hc.1 rfl
    injection e1 with e1 e2
    rcases h.send ⟨_, _, [m.byte]⟩ with ⟨h1, h2⟩ | ⟨h1, h2⟩
    · exact .inl ⟨by rw [← e2] at h2; exact h2, by rw [← e2] at h1; exact h1⟩
    · rw [h1] at e2
      injection e2 with e2 e3
      exact .inr ⟨e3, .inl ⟨rfl, _, by rw [e2], by rw [e2]; exact h2⟩⟩
  · have e1 := hc.2.1 rfl
    rcases h.give (n.pick m) with ⟨h1, h2⟩ | ⟨P', y', h1, h2, h3⟩
    · rw [← e1] at h1 h2
      exact .inl ⟨h2, h1⟩
    · rw [h1] at e1
      injection e1 with e1 e2
      injection e2 with e2 e3
      subst e1 e2 e3
      exact .inr ⟨rfl, .inr (.inl ⟨rfl, h2, h3⟩)⟩
  · have e1 := hc.2.2.1 rfl
    injection e1 with e1 e2
    rcases h.lose (n.pick m) with ⟨h1, h2⟩ | ⟨y', h1, h2⟩
    · rw [← e2] at h1 h2
      exact .inl ⟨h2, h1⟩
    · rw [h1] at e2
      injection e2 with e2 e3
      subst e2 e3
      exact .inr ⟨rfl, .inr (.inr (.inr ⟨.inl rfl, h2⟩))⟩
  · have e1 := hc.2.2.2.1 rfl
    injection e1 with e1 e2
    rcases h.again (n.pick m) with ⟨h1, h2⟩ | ⟨y', h1, h2⟩
    · rw [← e2] at h1 h2
      exact .inl ⟨h2, h1⟩
    · rw [h1] at e2
      injection e2 with e2 e3
      subst e2 e3
      exact .inr ⟨rfl, .inr (.inr (.inr ⟨.inr (.inl rfl), h2⟩))⟩
  · have e1 := hc.2.2.2.2.1 rfl
    injection e1 with e1 e2
    rcases h.cuts (m.fr.toNat % 24 : Nat) (m.to.toNat % 24 : Nat) true with ⟨h1, h2⟩ | ⟨y', h1, h2, h3⟩
    · rw [← e2] at h1 h2
      exact .inl ⟨h2, h1⟩
    · rw [h1] at e2
      injection e2 with e2 e3
      subst e2 e3
      exact .inr ⟨rfl, .inr (.inr (.inl ⟨rfl, h2⟩))⟩
  · have e1 := hc.2.2.2.2.2 rfl
    injection e1 with e1 e2
    rcases h.cuts (m.fr.toNat % 24 : Nat) (m.to.toNat % 24 : Nat) false with ⟨h1, h2⟩ | ⟨y', h1, h2, h3⟩
    · rw [← e2] at h1 h2
      exact .inl ⟨h2, h1⟩
    · rw [h1] at e2
      injection e2 with e2 e3
      subst e2 e3
      exact .inr ⟨rfl, .inr (.inr (.inr ⟨.inr (.inr rfl), h3 rfl⟩))⟩
theorem ho_last {x : Net} {y : Nt} {l : List Pk} {p : Pk} (hd : x.d = y) (hq : y.q = l ++ [p]) : ∃ j, x.q.l.length = j + 1 ∧ (x.q.l[j]?).map Pkt.d = some p ∧ j = l.length := by
  have h1 : x.q.l.map Pkt.d = l ++ [p] := by rw [← hq, ← hd]; rfl
  have h2 := congrArg List.length h1
  simp only [List.length_map, List.length_append, List.length_cons, List.length_nil] at h2
  refine ⟨l.length, h2, ?_, rfl⟩
  rw [← List.getElem?_map, h1]
  simp
section
variable {w wr W W' : World} {X3 X7 X8 : Nat} {n x : Net} {p pj : Pkt} {L : List Nat} {A : Option Addr} {m c g N : Nat}
/-- What lies outside a row that grows is kept. -/
theorem grow_kept (hg : W.grownBy W' (Value.slice A m c).ownBlock) (hL : ∀ x ∈ ownL A, x ∈ L) : Kept (fun b => okL L b ∧ b < N) W W' :=
  ⟨fun b hb ho => hg.block b hb (by
    intro e
    cases A with
    | none => cases e
    | some a =>
      injection e with e
      exact ho.1 a.block (hL _ (by simp [ownL])) (by first | exact e | exact e.symm)), hg.size⟩
theorem okL_grow (hat : (Value.slice A m c).ownBlock = some g ∨ g = W.heap.size) {M : List Nat} (hL : L = M ++ ownL A) : ∀ b, okL L b ∧ b < W.heap.size → okL (M ++ [g]) b := fun b hb x hx => by
  rcases List.mem_append.1 hx with hx | hx
  · exact hb.1 x (by rw [hL]; exact List.mem_append_left _ hx)
  · rw [List.mem_singleton.1 hx]
    rcases hat with e | e
    · cases A with
      | none => cases e
      | some a =>
        injection e with e
        exact hb.1 g (by rw [hL]; exact List.mem_append_right _ (by simp [ownL, e]))
    · intro h
      have := hb.2
      omega
theorem Blk.grow {T : Nat} {cs : List Value} (h : Blk W X7 T cs) (hg : W.grownBy W' (Value.slice A m c).ownBlock) (hne : ∀ x ∈ ownL A, x ≠ X7) : Blk W' X7 T cs := by
  have hk := grow_kept (L := ownL A) (N := X7 + 1) hg (fun x hx => hx)
  exact (hk.block X7 h.lt ⟨hne, by omega⟩).trans h
theorem OE.app {sl : List Pkt} {cap c' : Nat} (h : OE w X3 n ⟨A, sl, cap⟩ W) (hown : W'.ownsRow w.heap.size 28 3 (.slice (some ⟨g, 0, none⟩) (sl.length + 1) c') (sl.length + 1) (sl.flatMap Pkt.cs ++ pj.cs)) (hg : W.grownBy W' (Value.slice A sl.length cap).ownBlock)
    (hat : (Value.slice A sl.length cap).ownBlock = some g ∨ g = W.heap.size) (hp : pj.In (okL (X3 :: ownL A)) W) : OE w X3 n ⟨some ⟨g, 0, none⟩, sl ++ [pj], c'⟩ W' := by
  have hk := grow_kept (L := X3 :: ownL A) (N := W.heap.size) hg (fun x hx => List.mem_cons_of_mem _ hx)
  have ho : ∀ b, okL (X3 :: ownL A) b ∧ b < W.heap.size → okL (X3 :: [g]) b := okL_grow (M := [X3]) hat rfl
  have hne : ∀ x ∈ ownL A, x ≠ X3 := fun x hx e => h.sep (e ▸ hx)
  refine ⟨?_, h.blk.grow hg hne, h.hX, ?_, ((h.nin.weak (fun b hb hk => And.intro hk hb)).keep hk).weak (fun b _ hb => ho b hb), fun p hp' => ?_, ?_⟩
  · refine ⟨hg.os.trans h.bel.os, hg.tape.trans h.bel.tape, hg.output.trans h.bel.output, Nat.le_trans h.bel.size hg.size, fun i hi => ?_⟩
    refine (hg.block i (Nat.lt_of_lt_of_le hi h.bel.size) ?_).trans (h.bel.block i hi)
    intro e
    cases A with
    | none => cases e
    | some a =>
      injection e with e
      have := (ownL_lt h.own a.block (by simp [ownL])).1
      omega
  · simp only [List.length_append, List.length_cons, List.length_nil, List.flatMap_append, List.flatMap_cons, List.flatMap_nil, List.append_nil]
    exact hown
  · rcases List.mem_append.1 hp' with hp' | hp'
    · exact (((h.sin p hp').weak (fun b hb hk => And.intro hk hb)).keep hk).weak (fun b _ hb => ho b hb)
    · rw [List.mem_singleton.1 hp']
      exact ((hp.weak (fun b hb hk => And.intro hk hb)).keep hk).weak (fun b _ hb => ho b hb)
  · simp only [ownL, Option.map_some, Option.toList_some, List.mem_singleton]
    rcases hat with e | e
    · cases A with
      | none => cases e
      | some a =>
        injection e with e
        exact fun h' => h.sep (by simp [ownL, h', e])
    · intro h'
      have := h.blk.lt
      omega
theorem RX.app (h : RX wr W (X3 :: ownL A) X7 X8 x p) (hlo : ∀ x ∈ ownL A, x < wr.heap.size) (hg : W.grownBy W' (Value.slice A m c).ownBlock) (hat : (Value.slice A m c).ownBlock = some g ∨ g = W.heap.size) :
    Blk W' X7 25 x.cs ∧ x.In (okL (X7 :: X8 :: X3 :: [g])) W' := by
  have hk := grow_kept (L := X7 :: X8 :: X3 :: ownL A) (N := W.heap.size) hg (fun x hx => by simp [hx])
  have ho : ∀ b, okL (X7 :: X8 :: X3 :: ownL A) b ∧ b < W.heap.size → okL (X7 :: X8 :: X3 :: [g]) b := okL_grow (M := [X7, X8, X3]) hat rfl
  exact ⟨h.b7.grow hg (fun x hx e => by have h1 := hlo x hx; have h2 := h.l7; omega), ((h.xin.weak (fun b hb hk => And.intro hk hb)).keep hk).weak (fun b _ hb => ho b hb)⟩
end
/-- Whether a packet has been met among the first ones sent. -/
def Met (P : Pk) (sl : List Pkt) (cc : Nat) (mt : Bool) (k : Nat) : Prop := mt = true ∨ (¬ (P = Pk.zero ∧ 0 < cc) ∧ ∀ z ∈ sl.take k, z.d ≠ P)
theorem Met.start {P : Pk} {sl : List Pkt} {cc : Nat} {bz mt : Bool} (hm : mt = (bz && decide (0 < cc))) (hz : decide (P = Pk.zero) = bz) : Met P sl cc mt 0 := by
  cases mt with
  | true => exact .inl rfl
  | false =>
    refine .inr ⟨fun h => ?_, fun z hz => by simp at hz⟩
    rw [← hz] at hm
    simp [h.1, h.2] at hm
theorem Met.step {P : Pk} {sl : List Pkt} {cc k : Nat} {bq : Bool} {pk : Pkt} (h : Met P sl cc false k) (hb : decide (pk.d = P) = bq) (hg : sl[k]? = some pk) : Met P sl cc bq (k + 1) := by
  rcases h with h | ⟨h1, h2⟩
  · cases h
  · cases bq with
    | true => exact .inl rfl
    | false =>
      refine .inr ⟨h1, fun z hz => ?_⟩
      rw [List.take_add_one, hg] at hz
      rcases List.mem_append.1 hz with hz | hz
      · exact h2 z hz
      · simp at hz
        subst hz
        simpa using hb
theorem Met.done {P : Pk} {sl : List Pkt} {cc k : Nat} {mt : Bool} (h : Met P sl cc mt k) (hm : P = Pk.zero ∧ 0 < cc ∨ P ∈ sl.map Pkt.d) (hk : sl.length ≤ k) : mt = true := by
  rcases h with h | ⟨h1, h2⟩
  · exact h
  · rcases hm with hm | hm
    · exact absurd hm h1
    · obtain ⟨z, hz, e⟩ := List.mem_map.1 hm
      exact absurd e (h2 z (by rw [List.take_of_length_le hk]; exact hz))
theorem pk_cells {wr W : World} {b i0 i1 i2 : Nat} {v0 v1 v2 : Value} (hb : b < wr.heap.size) (f0 : wr.cell? ⟨b, i0, none⟩ = some v0) (f1 : wr.cell? ⟨b, i1, none⟩ = some v1) (f2 : wr.cell? ⟨b, i2, none⟩ = some v2) (hW : Below wr.heap.size wr W) :
    W.cell? ⟨b, i0, none⟩ = some v0 ∧ W.cell? ⟨b, i1, none⟩ = some v1 ∧ W.cell? ⟨b, i2, none⟩ = some v2 :=
  ⟨(hW.cell (p := ⟨b, i0, none⟩) hb).trans f0, (hW.cell (p := ⟨b, i1, none⟩) hb).trans f1, (hW.cell (p := ⟨b, i2, none⟩) hb).trans f2⟩

set_option maxRecDepth 100000 in
set_option maxHeartbeats 12800000 in
theorem only_walk (qA : Option Addr) (ql : List Mv) (qc : Nat) (w : World) (hq : SlIn Mv.cs all ⟨qA, ql, qc⟩ w) : Calls Try.prog 5 #[.slice qA ql.length qc] w fun e w' => e = .returned (.bool true) ∧ Below w.heap.size w w' := by
  go_enter Try.func5, Try.ntmps5
  have HQ := hide hq
  clear hq
  go_wp2_with fail
  refine (sane_any _).mono ?_
  rintro e w1 ⟨rfl, hb⟩
  have H1 := hide hb
  clear hb
  by_cases h60 : 60 < ql.length
  · have h60' : (60 : Int) < (ql.length : Int) := by omega
    go_wp2_with fail
    go_ret
    exact ⟨rfl, H1.out⟩
  · have h60' : ¬ (60 : Int) < (ql.length : Int) := by omega
    go_wp2_with fail
    refine (new_any _).mono ?_
    rintro e w2 ⟨rfl, hb⟩
    have H2 := hide (below_one H1.out hb)
    clear hb H1
    have HOE := hide (OE.start H2.out)
    go_wp2_with fail
    generalize w2.heap.size = X3 at *
    clear H2
    go_loopw [4, 5, 6] (fun s c i wr => ∃ (k : Nat) (n : Net) (A : Option Addr) (sl : List Pkt) (cap : Nat) (cc : Nat), k ≤ ql.length ∧ cc ≤ k ∧ sl.length ≤ k ∧ i = .int .i64 k ∧ s = .slice A sl.length cap ∧ c = .int .i64 cc ∧ Hid (OE w X3 n ⟨A, sl, cap⟩ wr) ∧ Hid (Sent n.d (sl.map Pkt.d) cc)) (fun _ _ i _ => ql.length - (intOf i).toNat)
    case atStart => exact ⟨0, Net.zero, none, [], 0, 0, by omega, by omega, by simp, rfl, rfl, rfl, HOE, hide ⟨rfl, fun p hp => (by cases hp), fun _ => rfl⟩⟩
    case round =>
      clear HOE
      obtain ⟨k, n, A, sl, cap, cc, hk, hcc, hsl, rfl, rfl, rfl, HO, HS⟩ := hrel
      by_cases hlt : k < ql.length
      · have hlt' : (k : Int) < (ql.length : Int) := by omega
        obtain ⟨b, o, hA, hb2, hcell⟩ := (HQ.out.below HO.out.bel).at (m := 5) (fun _ => rfl) (by decide) hlt
        have f0 := hcell 0 _ rfl
        have f1 := hcell 1 _ rfl
        have f2 := hcell 2 _ rfl
        have f3 := hcell 3 _ rfl
        have f4 := hcell 4 _ rfl
        clear hcell
        simp only [Nat.add_zero] at f0
        replace hA : qA = some ⟨b, o, none⟩ := hA
        subst hA
        generalize ql[k] = m at f0 f1 f2 f3 f4
        have HM := hide (fun W (hW : Below wr.heap.size wr W) => ho_cells hb2 f0 f1 f2 f3 f4 hW)
        clear f0 f1 f2 f3 f4 hb2
        obtain ⟨h2, hh2⟩ : ∃ h2, h2 = m.how.toNat % 6 := ⟨_, rfl⟩
        have h26 : h2 < 6 := by omega
        have ht3 : (m.how.toNat : Int).tmod 6 = (h2 : Int) := by rw [Int.tmod_eq_emod_of_nonneg (by omega), hh2]; omega
        have hw6 : IntKind.u8.wrap (h2 : Int) = (h2 : Int) := hap_u8 _ (by omega)
        obtain ⟨P, y, ee, hx⟩ : ∃ P y ee, n.d.happ m = (P, y, ee) := ⟨_, _, _, rfl⟩
        have HX := hide hx
        have HT := hide (HS.out.happ m hh2 hx)
        clear hx hh2
        have HB3 := hide (fun W (hW : Below wr.heap.size wr W) => ((HO.out.below hW).blk).c2)
        go_upto_region 11 with (fail)
        go_cut [7, 8, 9] from 24 to 33 (fun u v z W => ∃ (X7 X8 : Nat) (x : Net) (p : Pkt), u = .pointer (some ⟨X7, 0, none⟩) ∧ v = .pointer (some ⟨X8, 0, none⟩) ∧ z = .int .i64 ee ∧ Hid (x.d = y) ∧ Hid (p.d = P) ∧ Hid (RX wr W (X3 :: ownL A) X7 X8 x p))
        case first =>
          refine wp_region_plan4 (fun W => Below wr.heap.size wr W) (.take 0 (.take 1 (.take 2 (.take 3 (.take 4 (.three 5 (.take 6 (.take 7 (.take 8 (.take 9 (.both 10 (.run 11 (.run 12 (.run 13 (.run 14 .done)))) 11 (.run 10 (.run 12 (.run 13 (.run 14 .done))))))))) 10 (.both 5 (.take 6 (.take 7 (.take 8 (.take 9 (.run 11 (.run 12 (.run 13 (.run 14 .done)))))))) 11 (.run 5 (.take 6 (.take 7 (.take 8 (.take 9 (.run 12 (.run 13 (.run 14 .done))))))))) 11 (.both 5 (.take 6 (.take 7 (.take 8 (.take 9 (.run 10 (.run 12 (.run 13 (.run 14 .done)))))))) 10 (.run 5 (.take 6 (.take 7 (.take 8 (.take 9 (.run 12 (.run 13 (.run 14 .done))))))))))))))) (by kernel_rfl) (by kernel_rfl) ((Below.refl _ _).drew) ?_
          have HF0 := hide (show Below wr.heap.size wr wr.drew from (Below.refl _ _).drew)
          generalize wr.drew = wD at HF0 ⊢
          (refine plan4_take (o := ?_) (v := ?_) (by simp only [List.getElem?_toArray, List.getElem?_cons_zero]; rfl) (yields_run (by rfl) ?_) ?_; rotate_left; (focus (intro w' hw'; obtain ⟨c0, c1⟩ := HB3.out w' hw'; obtain ⟨f0, f1, f2, f3, f4⟩ := HM.out w' hw'; go_simp <;> with_reducible rfl)); (simp only [Act.put, List.setIfInBounds_toArray, List.set_cons_zero, List.set_cons_succ]))
          (refine plan4_take (o := ?_) (v := ?_) (by simp only [List.getElem?_toArray, List.getElem?_cons_succ, List.getElem?_cons_zero]; rfl) (yields_run (by rfl) ?_) ?_; rotate_left; (focus (intro w' hw'; skip; go_simp <;> with_reducible rfl)); (simp only [Act.put, List.setIfInBounds_toArray, List.set_cons_zero, List.set_cons_succ]))
          (refine plan4_take (o := ?_) (v := ?_) (by simp only [List.getElem?_toArray, List.getElem?_cons_succ, List.getElem?_cons_zero]; rfl) (yields_run (by rfl) ?_) ?_; rotate_left; (focus (intro w' hw'; skip; go_simp <;> with_reducible rfl)); (simp only [Act.put, List.setIfInBounds_toArray, List.set_cons_zero, List.set_cons_succ]))
          (refine plan4_take (o := ?_) (v := ?_) (by simp only [List.getElem?_toArray, List.getElem?_cons_succ, List.getElem?_cons_zero]; rfl) (yields_run (by rfl) ?_) ?_; rotate_left; (focus (intro w' hw'; skip; go_simp <;> with_reducible rfl)); (simp only [Act.put, List.setIfInBounds_toArray, List.set_cons_zero, List.set_cons_succ]))
          (refine plan4_take (o := ?_) (v := ?_) (by simp only [List.getElem?_toArray, List.getElem?_cons_succ, List.getElem?_cons_zero]; rfl) (yields_run (by rfl) ?_) ?_; rotate_left; (focus (intro w' hw'; obtain ⟨c0, c1⟩ := HB3.out w' hw'; obtain ⟨f0, f1, f2, f3, f4⟩ := HM.out w' hw'; go_simp <;> with_reducible rfl)); (simp only [Act.put, List.setIfInBounds_toArray, List.set_cons_zero, List.set_cons_succ]))
          refine plan4_three (o1 := ?_) (o2 := ?_) (o3 := ?_) (by simp only [List.getElem?_toArray, List.getElem?_cons_succ, List.getElem?_cons_zero]; rfl) (by simp only [List.getElem?_toArray, List.getElem?_cons_succ, List.getElem?_cons_zero]; rfl) (by simp only [List.getElem?_toArray, List.getElem?_cons_succ, List.getElem?_cons_zero]; rfl) ?_ ?_ ?_
          · intro R HR
            have HN5 := hide (show n.In (okL (X3 :: ownL A)) wD from HO.out.nin.below HF0.out)
            have HK5 := hide (okL_new (L := X3 :: ownL A) (n := wD.heap.size) (by
              intro x hx
              have h1 := (HO.out.lt x hx).2
              have h2 := HF0.out.size
              omega))
            go_wp2_with fail
            with_reducible refine (happens_any n m wD HK5.out HN5.out).mono ?_
            rintro e v5 ⟨p', n', rfl, hd, hd2, hi, hi2, hb⟩
            rw [HX.out] at hd hd2
            rw [HX.out]
            have HDP := hide hd
            have HDN := hide hd2
            have HI5 := hide (And.intro hi2 hi)
            have HF5 := hide (below_one HF0.out hb)
            clear hd hd2 hi hi2 hb
            go_wp2_with fail
            refine HR.out _ _ HF5.out ?_
            clear HR
            (refine plan4_take (o := ?_) (v := ?_) (by simp only [List.getElem?_toArray, List.getElem?_cons_succ, List.getElem?_cons_zero]; rfl) (yields_run (by rfl) ?_) ?_; rotate_left; (focus (intro w' hw'; skip; go_simp <;> with_reducible rfl)); (simp only [Act.put, List.setIfInBounds_toArray, List.set_cons_zero, List.set_cons_succ]))
            (refine plan4_take (o := ?_) (v := ?_) (by simp only [List.getElem?_toArray, List.getElem?_cons_succ, List.getElem?_cons_zero]; rfl) (yields_run (by rfl) ?_) ?_; rotate_left; (focus (intro w' hw'; skip; go_simp <;> with_reducible rfl)); (simp only [Act.put, List.setIfInBounds_toArray, List.set_cons_zero, List.set_cons_succ]))
            (refine plan4_take (o := ?_) (v := ?_) (by simp only [List.getElem?_toArray, List.getElem?_cons_succ, List.getElem?_cons_zero]; rfl) (yields_run (by rfl) ?_) ?_; rotate_left; (focus (intro w' hw'; skip; go_simp <;> with_reducible rfl)); (simp only [Act.put, List.setIfInBounds_toArray, List.set_cons_zero, List.set_cons_succ]))
            (refine plan4_take (o := ?_) (v := ?_) (by simp only [List.getElem?_toArray, List.getElem?_cons_succ, List.getElem?_cons_zero]; rfl) (yields_run (by rfl) ?_) ?_; rotate_left; (focus (intro w' hw'; skip; go_simp <;> with_reducible rfl)); (simp only [Act.put, List.setIfInBounds_toArray, List.set_cons_zero, List.set_cons_succ]))
            refine plan4_both (o1 := ?_) (o2 := ?_) (by simp only [List.getElem?_toArray, List.getElem?_cons_succ, List.getElem?_cons_zero]; rfl) (by simp only [List.getElem?_toArray, List.getElem?_cons_succ, List.getElem?_cons_zero]; rfl) ?_ ?_
            · intro R HR
              have eX510 : v5.heap.size = v5.heap.size := by rfl
              have HB7510 := hide (by have h := Blk.new v5 25 [.slice none 0 0, .slice none 0 0]; rw [eX510] at h; exact h)
              have HL7510 := hide (by have h := HF5.out.size; rw [eX510] at h; exact h)
              have HF510 := hide (HF5.out.alloc HF5.out.size (.cells #[.slice none 0 0, .slice none 0 0] 25))
              have HI510 := hide (by have h := ho_new HI5.out (.cells #[.slice none 0 0, .slice none 0 0] 25); rw [eX510] at h; exact h)
              clear eX510
              go_wp2_with fail
              refine HR.out _ _ HF510.out ?_
              clear HR
              refine plan4_run (o := ?_) (by simp only [List.getElem?_toArray, List.getElem?_cons_succ, List.getElem?_cons_zero]; rfl) ?_
              intro R HR
              have eX51011 : (v5.alloc (.cells #[.slice none 0 0, .slice none 0 0] 25)).heap.size = (v5.heap.size + 1) := by simp only [World.size_alloc]
              have HB851011 := hide (by have h := Blk.new (v5.alloc (.cells #[.slice none 0 0, .slice none 0 0] 25)) 28 [.int .i64 0, .int .i64 0, .slice none 0 0]; rw [eX51011] at h; exact h)
              have HL851011 := hide (by have h := HF510.out.size; rw [eX51011] at h; exact h)
              have HF51011 := hide (HF510.out.alloc HF510.out.size (.cells #[.int .i64 0, .int .i64 0, .slice none 0 0] 28))
              have HB751011 := hide (HB7510.out.alloc (.cells #[.int .i64 0, .int .i64 0, .slice none 0 0] 28))
              have HI51011 := hide (by have h := ho_new HI510.out (.cells #[.int .i64 0, .int .i64 0, .slice none 0 0] 28); rw [eX51011] at h; exact h)
              clear eX51011
              go_wp2_with fail
              refine HR.out _ _ HF51011.out ?_
              clear HR
              refine plan4_run (o := ?_) (by simp only [List.getElem?_toArray, List.getElem?_cons_succ, List.getElem?_cons_zero]; rfl) ?_
              intro R HR
              have HNE := hide (HB751011.out.ne HB851011.out (by decide))
              have HB75101112 := hide (HB751011.out.row [.slice n'.q.A n'.q.l.length n'.q.cap, .slice n'.a.A n'.a.l.length n'.a.cap])
              have HB85101112 := hide (HB851011.out.far (Y := v5.heap.size) (fun e => HNE.out e.symm) #[.slice n'.q.A n'.q.l.length n'.q.cap, .slice n'.a.A n'.a.l.length n'.a.cap])
              have HF5101112 := hide (below_setRow HF51011.out HL7510.out #[.slice n'.q.A n'.q.l.length n'.q.cap, .slice n'.a.A n'.a.l.length n'.a.cap])
              have HI5101112 := hide (ho_row HI51011.out (X := v5.heap.size) (by simp) #[.slice n'.q.A n'.q.l.length n'.q.cap, .slice n'.a.A n'.a.l.length n'.a.cap])
              refine wpList_store_row rfl 25 (.tmp 7) (.tmp 31) rfl _ #[.slice n'.q.A n'.q.l.length n'.q.cap, .slice n'.a.A n'.a.l.length n'.a.cap] rfl rfl 25 _ HB751011.out Try.size25 rfl (one25 _ _ _ _ _ _) ?_
              refine HR.out _ _ HF5101112.out ?_
              clear HR
              refine plan4_run (o := ?_) (by simp only [List.getElem?_toArray, List.getElem?_cons_succ, List.getElem?_cons_zero]; rfl) ?_
              intro R HR
              have HB8510111213 := hide (HB85101112.out.row [.int .i64 p'.fr, .int .i64 p'.to, .slice p'.s.A p'.s.l.length p'.s.cap])
              have HB7510111213 := hide (HB75101112.out.far (Y := (v5.heap.size + 1)) HNE.out #[.int .i64 p'.fr, .int .i64 p'.to, .slice p'.s.A p'.s.l.length p'.s.cap])
              have HF510111213 := hide (below_setRow HF5101112.out HL851011.out #[.int .i64 p'.fr, .int .i64 p'.to, .slice p'.s.A p'.s.l.length p'.s.cap])
              have HI510111213 := hide (ho_row HI5101112.out (X := (v5.heap.size + 1)) (by simp) #[.int .i64 p'.fr, .int .i64 p'.to, .slice p'.s.A p'.s.l.length p'.s.cap])
              refine wpList_store_row rfl 28 (.tmp 8) (.tmp 32) rfl _ #[.int .i64 p'.fr, .int .i64 p'.to, .slice p'.s.A p'.s.l.length p'.s.cap] rfl rfl 28 _ HB85101112.out Try.size28 rfl (one28 _ _ _ _ _) ?_
              refine HR.out _ _ HF510111213.out ?_
              clear HR
              refine plan4_run (o := ?_) (by simp only [List.getElem?_toArray, List.getElem?_cons_succ, List.getElem?_cons_zero]; rfl) ?_
              intro R HR
              go_wp2_with fail
              refine HR.out _ _ HF510111213.out ?_
              clear HR
              refine plan4_done ?_
              go_wp2_with fail
              go_meet
              case rel => exact ⟨v5.heap.size, (v5.heap.size + 1), n', p', rfl, rfl, rfl, HDN, HDP, hide ⟨HF510111213.out, HB7510111213.out, HB8510111213.out, HL7510.out, HL851011.out, HI510111213.out.1.weak (okL_sub ho_swap), HI510111213.out.2.weak (okL_sub ho_swap)⟩⟩
            · intro R HR
              have eX511 : v5.heap.size = v5.heap.size := by rfl
              have HB8511 := hide (by have h := Blk.new v5 28 [.int .i64 0, .int .i64 0, .slice none 0 0]; rw [eX511] at h; exact h)
              have HL8511 := hide (by have h := HF5.out.size; rw [eX511] at h; exact h)
              have HF511 := hide (HF5.out.alloc HF5.out.size (.cells #[.int .i64 0, .int .i64 0, .slice none 0 0] 28))
              have HI511 := hide (by have h := ho_new HI5.out (.cells #[.int .i64 0, .int .i64 0, .slice none 0 0] 28); rw [eX511] at h; exact h)
              clear eX511
              go_wp2_with fail
              refine HR.out _ _ HF511.out ?_
              clear HR
              refine plan4_run (o := ?_) (by simp only [List.getElem?_toArray, List.getElem?_cons_succ, List.getElem?_cons_zero]; rfl) ?_
              intro R HR
              have eX51110 : (v5.alloc (.cells #[.int .i64 0, .int .i64 0, .slice none 0 0] 28)).heap.size = (v5.heap.size + 1) := by simp only [World.size_alloc]
              have HB751110 := hide (by have h := Blk.new (v5.alloc (.cells #[.int .i64 0, .int .i64 0, .slice none 0 0] 28)) 25 [.slice none 0 0, .slice none 0 0]; rw [eX51110] at h; exact h)
              have HL751110 := hide (by have h := HF511.out.size; rw [eX51110] at h; exact h)
              have HF51110 := hide (HF511.out.alloc HF511.out.size (.cells #[.slice none 0 0, .slice none 0 0] 25))
              have HB851110 := hide (HB8511.out.alloc (.cells #[.slice none 0 0, .slice none 0 0] 25))
              have HI51110 := hide (by have h := ho_new HI511.out (.cells #[.slice none 0 0, .slice none 0 0] 25); rw [eX51110] at h; exact h)
              clear eX51110
              go_wp2_with fail
              refine HR.out _ _ HF51110.out ?_
              clear HR
              refine plan4_run (o := ?_) (by simp only [List.getElem?_toArray, List.getElem?_cons_succ, List.getElem?_cons_zero]; rfl) ?_
              intro R HR
              have HNE := hide (HB751110.out.ne HB851110.out (by decide))
              have HB75111012 := hide (HB751110.out.row [.slice n'.q.A n'.q.l.length n'.q.cap, .slice n'.a.A n'.a.l.length n'.a.cap])
              have HB85111012 := hide (HB851110.out.far (Y := (v5.heap.size + 1)) (fun e => HNE.out e.symm) #[.slice n'.q.A n'.q.l.length n'.q.cap, .slice n'.a.A n'.a.l.length n'.a.cap])
              have HF5111012 := hide (below_setRow HF51110.out HL751110.out #[.slice n'.q.A n'.q.l.length n'.q.cap, .slice n'.a.A n'.a.l.length n'.a.cap])
              have HI5111012 := hide (ho_row HI51110.out (X := (v5.heap.size + 1)) (by simp) #[.slice n'.q.A n'.q.l.length n'.q.cap, .slice n'.a.A n'.a.l.length n'.a.cap])
              refine wpList_store_row rfl 25 (.tmp 7) (.tmp 31) rfl _ #[.slice n'.q.A n'.q.l.length n'.q.cap, .slice n'.a.A n'.a.l.length n'.a.cap] rfl rfl 25 _ HB751110.out Try.size25 rfl (one25 _ _ _ _ _ _) ?_
              refine HR.out _ _ HF5111012.out ?_
              clear HR
              refine plan4_run (o := ?_) (by simp only [List.getElem?_toArray, List.getElem?_cons_succ, List.getElem?_cons_zero]; rfl) ?_
              intro R HR
              have HB8511101213 := hide (HB85111012.out.row [.int .i64 p'.fr, .int .i64 p'.to, .slice p'.s.A p'.s.l.length p'.s.cap])
              have HB7511101213 := hide (HB75111012.out.far (Y := v5.heap.size) HNE.out #[.int .i64 p'.fr, .int .i64 p'.to, .slice p'.s.A p'.s.l.length p'.s.cap])
              have HF511101213 := hide (below_setRow HF5111012.out HL8511.out #[.int .i64 p'.fr, .int .i64 p'.to, .slice p'.s.A p'.s.l.length p'.s.cap])
              have HI511101213 := hide (ho_row HI5111012.out (X := v5.heap.size) (by simp) #[.int .i64 p'.fr, .int .i64 p'.to, .slice p'.s.A p'.s.l.length p'.s.cap])
              refine wpList_store_row rfl 28 (.tmp 8) (.tmp 32) rfl _ #[.int .i64 p'.fr, .int .i64 p'.to, .slice p'.s.A p'.s.l.length p'.s.cap] rfl rfl 28 _ HB85111012.out Try.size28 rfl (one28 _ _ _ _ _) ?_
              refine HR.out _ _ HF511101213.out ?_
              clear HR
              refine plan4_run (o := ?_) (by simp only [List.getElem?_toArray, List.getElem?_cons_succ, List.getElem?_cons_zero]; rfl) ?_
              intro R HR
              go_wp2_with fail
              refine HR.out _ _ HF511101213.out ?_
              clear HR
              refine plan4_done ?_
              go_wp2_with fail
              go_meet
              case rel => exact ⟨(v5.heap.size + 1), v5.heap.size, n', p', rfl, rfl, rfl, HDN, HDP, hide ⟨HF511101213.out, HB7511101213.out, HB8511101213.out, HL751110.out, HL8511.out, HI511101213.out.1.weak (okL_sub (fun x hx => hx)), HI511101213.out.2.weak (okL_sub (fun x hx => hx))⟩⟩
          · intro R HR
            have eX10 : wD.heap.size = wD.heap.size := by rfl
            have HB710 := hide (by have h := Blk.new wD 25 [.slice none 0 0, .slice none 0 0]; rw [eX10] at h; exact h)
            have HL710 := hide (by have h := HF0.out.size; rw [eX10] at h; exact h)
            have HF10 := hide (HF0.out.alloc HF0.out.size (.cells #[.slice none 0 0, .slice none 0 0] 25))
            clear eX10
            go_wp2_with fail
            refine HR.out _ _ HF10.out ?_
            clear HR
            refine plan4_both (o1 := ?_) (o2 := ?_) (by simp only [List.getElem?_toArray, List.getElem?_cons_succ, List.getElem?_cons_zero]; rfl) (by simp only [List.getElem?_toArray, List.getElem?_cons_succ, List.getElem?_cons_zero]; rfl) ?_ ?_
            · intro R HR
              have HN105 := hide (show n.In (okL (wD.heap.size :: X3 :: ownL A)) (wD.alloc (.cells #[.slice none 0 0, .slice none 0 0] 25)) from (HO.out.nin.weak (fun b hb h => okL_cons b (Nat.lt_of_lt_of_le hb HL710.out) h)).below HF10.out)
              have HK105 := hide (okL_new (L := wD.heap.size :: X3 :: ownL A) (n := (wD.alloc (.cells #[.slice none 0 0, .slice none 0 0] 25)).heap.size) (by
                intro x hx
                rcases List.mem_cons.1 hx with rfl | hx
                · exact HB710.out.lt
                have h1 := (HO.out.lt x hx).2
                have h2 := HF10.out.size
                omega))
              go_wp2_with fail
              with_reducible refine (happens_any n m (wD.alloc (.cells #[.slice none 0 0, .slice none 0 0] 25)) HK105.out HN105.out).mono ?_
              rintro e v5 ⟨p', n', rfl, hd, hd2, hi, hi2, hb⟩
              rw [HX.out] at hd hd2
              rw [HX.out]
              have HDP := hide hd
              have HDN := hide hd2
              have HI5 := hide (And.intro hi2 hi)
              have HF105 := hide (below_one HF10.out hb)
              have HB7105 := hide (HB710.out.below hb HB710.out.lt)
              clear hd hd2 hi hi2 hb
              go_wp2_with fail
              refine HR.out _ _ HF105.out ?_
              clear HR
              (refine plan4_take (o := ?_) (v := ?_) (by simp only [List.getElem?_toArray, List.getElem?_cons_succ, List.getElem?_cons_zero]; rfl) (yields_run (by rfl) ?_) ?_; rotate_left; (focus (intro w' hw'; skip; go_simp <;> with_reducible rfl)); (simp only [Act.put, List.setIfInBounds_toArray, List.set_cons_zero, List.set_cons_succ]))
              (refine plan4_take (o := ?_) (v := ?_) (by simp only [List.getElem?_toArray, List.getElem?_cons_succ, List.getElem?_cons_zero]; rfl) (yields_run (by rfl) ?_) ?_; rotate_left; (focus (intro w' hw'; skip; go_simp <;> with_reducible rfl)); (simp only [Act.put, List.setIfInBounds_toArray, List.set_cons_zero, List.set_cons_succ]))
              (refine plan4_take (o := ?_) (v := ?_) (by simp only [List.getElem?_toArray, List.getElem?_cons_succ, List.getElem?_cons_zero]; rfl) (yields_run (by rfl) ?_) ?_; rotate_left; (focus (intro w' hw'; skip; go_simp <;> with_reducible rfl)); (simp only [Act.put, List.setIfInBounds_toArray, List.set_cons_zero, List.set_cons_succ]))
              (refine plan4_take (o := ?_) (v := ?_) (by simp only [List.getElem?_toArray, List.getElem?_cons_succ, List.getElem?_cons_zero]; rfl) (yields_run (by rfl) ?_) ?_; rotate_left; (focus (intro w' hw'; skip; go_simp <;> with_reducible rfl)); (simp only [Act.put, List.setIfInBounds_toArray, List.set_cons_zero, List.set_cons_succ]))
              refine plan4_run (o := ?_) (by simp only [List.getElem?_toArray, List.getElem?_cons_succ, List.getElem?_cons_zero]; rfl) ?_
              intro R HR
              have eX10511 : v5.heap.size = v5.heap.size := by rfl
              have HB810511 := hide (by have h := Blk.new v5 28 [.int .i64 0, .int .i64 0, .slice none 0 0]; rw [eX10511] at h; exact h)
              have HL810511 := hide (by have h := HF105.out.size; rw [eX10511] at h; exact h)
              have HF10511 := hide (HF105.out.alloc HF105.out.size (.cells #[.int .i64 0, .int .i64 0, .slice none 0 0] 28))
              have HB710511 := hide (HB7105.out.alloc (.cells #[.int .i64 0, .int .i64 0, .slice none 0 0] 28))
              have HI10511 := hide (by have h := ho_new HI5.out (.cells #[.int .i64 0, .int .i64 0, .slice none 0 0] 28); rw [eX10511] at h; exact h)
              clear eX10511
              go_wp2_with fail
              refine HR.out _ _ HF10511.out ?_
              clear HR
              refine plan4_run (o := ?_) (by simp only [List.getElem?_toArray, List.getElem?_cons_succ, List.getElem?_cons_zero]; rfl) ?_
              intro R HR
              have HNE := hide (HB710511.out.ne HB810511.out (by decide))
              have HB71051112 := hide (HB710511.out.row [.slice n'.q.A n'.q.l.length n'.q.cap, .slice n'.a.A n'.a.l.length n'.a.cap])
              have HB81051112 := hide (HB810511.out.far (Y := wD.heap.size) (fun e => HNE.out e.symm) #[.slice n'.q.A n'.q.l.length n'.q.cap, .slice n'.a.A n'.a.l.length n'.a.cap])
              have HF1051112 := hide (below_setRow HF10511.out HL710.out #[.slice n'.q.A n'.q.l.length n'.q.cap, .slice n'.a.A n'.a.l.length n'.a.cap])
              have HI1051112 := hide (ho_row HI10511.out (X := wD.heap.size) (by simp) #[.slice n'.q.A n'.q.l.length n'.q.cap, .slice n'.a.A n'.a.l.length n'.a.cap])
              refine wpList_store_row rfl 25 (.tmp 7) (.tmp 31) rfl _ #[.slice n'.q.A n'.q.l.length n'.q.cap, .slice n'.a.A n'.a.l.length n'.a.cap] rfl rfl 25 _ HB710511.out Try.size25 rfl (one25 _ _ _ _ _ _) ?_
              refine HR.out _ _ HF1051112.out ?_
              clear HR
              refine plan4_run (o := ?_) (by simp only [List.getElem?_toArray, List.getElem?_cons_succ, List.getElem?_cons_zero]; rfl) ?_
              intro R HR
              have HB8105111213 := hide (HB81051112.out.row [.int .i64 p'.fr, .int .i64 p'.to, .slice p'.s.A p'.s.l.length p'.s.cap])
              have HB7105111213 := hide (HB71051112.out.far (Y := v5.heap.size) HNE.out #[.int .i64 p'.fr, .int .i64 p'.to, .slice p'.s.A p'.s.l.length p'.s.cap])
              have HF105111213 := hide (below_setRow HF1051112.out HL810511.out #[.int .i64 p'.fr, .int .i64 p'.to, .slice p'.s.A p'.s.l.length p'.s.cap])
              have HI105111213 := hide (ho_row HI1051112.out (X := v5.heap.size) (by simp) #[.int .i64 p'.fr, .int .i64 p'.to, .slice p'.s.A p'.s.l.length p'.s.cap])
              refine wpList_store_row rfl 28 (.tmp 8) (.tmp 32) rfl _ #[.int .i64 p'.fr, .int .i64 p'.to, .slice p'.s.A p'.s.l.length p'.s.cap] rfl rfl 28 _ HB81051112.out Try.size28 rfl (one28 _ _ _ _ _) ?_
              refine HR.out _ _ HF105111213.out ?_
              clear HR
              refine plan4_run (o := ?_) (by simp only [List.getElem?_toArray, List.getElem?_cons_succ, List.getElem?_cons_zero]; rfl) ?_
              intro R HR
              go_wp2_with fail
              refine HR.out _ _ HF105111213.out ?_
              clear HR
              refine plan4_done ?_
              go_wp2_with fail
              go_meet
              case rel => exact ⟨wD.heap.size, v5.heap.size, n', p', rfl, rfl, rfl, HDN, HDP, hide ⟨HF105111213.out, HB7105111213.out, HB8105111213.out, HL710.out, HL810511.out, HI105111213.out.1.weak (okL_sub ho_swap), HI105111213.out.2.weak (okL_sub ho_swap)⟩⟩
            · intro R HR
              have eX1011 : (wD.alloc (.cells #[.slice none 0 0, .slice none 0 0] 25)).heap.size = (wD.heap.size + 1) := by simp only [World.size_alloc]
              have HB81011 := hide (by have h := Blk.new (wD.alloc (.cells #[.slice none 0 0, .slice none 0 0] 25)) 28 [.int .i64 0, .int .i64 0, .slice none 0 0]; rw [eX1011] at h; exact h)
              have HL81011 := hide (by have h := HF10.out.size; rw [eX1011] at h; exact h)
              have HF1011 := hide (HF10.out.alloc HF10.out.size (.cells #[.int .i64 0, .int .i64 0, .slice none 0 0] 28))
              have HB71011 := hide (HB710.out.alloc (.cells #[.int .i64 0, .int .i64 0, .slice none 0 0] 28))
              clear eX1011
              go_wp2_with fail
              refine HR.out _ _ HF1011.out ?_
              clear HR
              refine plan4_run (o := ?_) (by simp only [List.getElem?_toArray, List.getElem?_cons_succ, List.getElem?_cons_zero]; rfl) ?_
              intro R HR
              have HN10115 := hide (show n.In (okL ((wD.heap.size + 1) :: wD.heap.size :: X3 :: ownL A)) ((wD.alloc (.cells #[.slice none 0 0, .slice none 0 0] 25)).alloc (.cells #[.int .i64 0, .int .i64 0, .slice none 0 0] 28)) from ((HO.out.nin.weak (fun b hb h => okL_cons b (Nat.lt_of_lt_of_le hb HL710.out) h)).weak (fun b hb h => okL_cons b (Nat.lt_of_lt_of_le hb HL81011.out) h)).below HF1011.out)
              have HK10115 := hide (okL_new (L := (wD.heap.size + 1) :: wD.heap.size :: X3 :: ownL A) (n := ((wD.alloc (.cells #[.slice none 0 0, .slice none 0 0] 25)).alloc (.cells #[.int .i64 0, .int .i64 0, .slice none 0 0] 28)).heap.size) (by
                intro x hx
                rcases List.mem_cons.1 hx with rfl | hx
                · exact HB81011.out.lt
                rcases List.mem_cons.1 hx with rfl | hx
                · exact HB71011.out.lt
                have h1 := (HO.out.lt x hx).2
                have h2 := HF1011.out.size
                omega))
              go_wp2_with fail
              with_reducible refine (happens_any n m ((wD.alloc (.cells #[.slice none 0 0, .slice none 0 0] 25)).alloc (.cells #[.int .i64 0, .int .i64 0, .slice none 0 0] 28)) HK10115.out HN10115.out).mono ?_
              rintro e v5 ⟨p', n', rfl, hd, hd2, hi, hi2, hb⟩
              rw [HX.out] at hd hd2
              rw [HX.out]
              have HDP := hide hd
              have HDN := hide hd2
              have HI5 := hide (And.intro hi2 hi)
              have HF10115 := hide (below_one HF1011.out hb)
              have HB710115 := hide (HB71011.out.below hb HB71011.out.lt)
              have HB810115 := hide (HB81011.out.below hb HB81011.out.lt)
              clear hd hd2 hi hi2 hb
              go_wp2_with fail
              refine HR.out _ _ HF10115.out ?_
              clear HR
              (refine plan4_take (o := ?_) (v := ?_) (by simp only [List.getElem?_toArray, List.getElem?_cons_succ, List.getElem?_cons_zero]; rfl) (yields_run (by rfl) ?_) ?_; rotate_left; (focus (intro w' hw'; skip; go_simp <;> with_reducible rfl)); (simp only [Act.put, List.setIfInBounds_toArray, List.set_cons_zero, List.set_cons_succ]))
              (refine plan4_take (o := ?_) (v := ?_) (by simp only [List.getElem?_toArray, List.getElem?_cons_succ, List.getElem?_cons_zero]; rfl) (yields_run (by rfl) ?_) ?_; rotate_left; (focus (intro w' hw'; skip; go_simp <;> with_reducible rfl)); (simp only [Act.put, List.setIfInBounds_toArray, List.set_cons_zero, List.set_cons_succ]))
              (refine plan4_take (o := ?_) (v := ?_) (by simp only [List.getElem?_toArray, List.getElem?_cons_succ, List.getElem?_cons_zero]; rfl) (yields_run (by rfl) ?_) ?_; rotate_left; (focus (intro w' hw'; skip; go_simp <;> with_reducible rfl)); (simp only [Act.put, List.setIfInBounds_toArray, List.set_cons_zero, List.set_cons_succ]))
              (refine plan4_take (o := ?_) (v := ?_) (by simp only [List.getElem?_toArray, List.getElem?_cons_succ, List.getElem?_cons_zero]; rfl) (yields_run (by rfl) ?_) ?_; rotate_left; (focus (intro w' hw'; skip; go_simp <;> with_reducible rfl)); (simp only [Act.put, List.setIfInBounds_toArray, List.set_cons_zero, List.set_cons_succ]))
              refine plan4_run (o := ?_) (by simp only [List.getElem?_toArray, List.getElem?_cons_succ, List.getElem?_cons_zero]; rfl) ?_
              intro R HR
              have HNE := hide (HB710115.out.ne HB810115.out (by decide))
              have HB71011512 := hide (HB710115.out.row [.slice n'.q.A n'.q.l.length n'.q.cap, .slice n'.a.A n'.a.l.length n'.a.cap])
              have HB81011512 := hide (HB810115.out.far (Y := wD.heap.size) (fun e => HNE.out e.symm) #[.slice n'.q.A n'.q.l.length n'.q.cap, .slice n'.a.A n'.a.l.length n'.a.cap])
              have HF1011512 := hide (below_setRow HF10115.out HL710.out #[.slice n'.q.A n'.q.l.length n'.q.cap, .slice n'.a.A n'.a.l.length n'.a.cap])
              have HI1011512 := hide (ho_row HI5.out (X := wD.heap.size) (by simp) #[.slice n'.q.A n'.q.l.length n'.q.cap, .slice n'.a.A n'.a.l.length n'.a.cap])
              refine wpList_store_row rfl 25 (.tmp 7) (.tmp 31) rfl _ #[.slice n'.q.A n'.q.l.length n'.q.cap, .slice n'.a.A n'.a.l.length n'.a.cap] rfl rfl 25 _ HB710115.out Try.size25 rfl (one25 _ _ _ _ _ _) ?_
              refine HR.out _ _ HF1011512.out ?_
              clear HR
              refine plan4_run (o := ?_) (by simp only [List.getElem?_toArray, List.getElem?_cons_succ, List.getElem?_cons_zero]; rfl) ?_
              intro R HR
              have HB8101151213 := hide (HB81011512.out.row [.int .i64 p'.fr, .int .i64 p'.to, .slice p'.s.A p'.s.l.length p'.s.cap])
              have HB7101151213 := hide (HB71011512.out.far (Y := (wD.heap.size + 1)) HNE.out #[.int .i64 p'.fr, .int .i64 p'.to, .slice p'.s.A p'.s.l.length p'.s.cap])
              have HF101151213 := hide (below_setRow HF1011512.out HL81011.out #[.int .i64 p'.fr, .int .i64 p'.to, .slice p'.s.A p'.s.l.length p'.s.cap])
              have HI101151213 := hide (ho_row HI1011512.out (X := (wD.heap.size + 1)) (by simp) #[.int .i64 p'.fr, .int .i64 p'.to, .slice p'.s.A p'.s.l.length p'.s.cap])
              refine wpList_store_row rfl 28 (.tmp 8) (.tmp 32) rfl _ #[.int .i64 p'.fr, .int .i64 p'.to, .slice p'.s.A p'.s.l.length p'.s.cap] rfl rfl 28 _ HB81011512.out Try.size28 rfl (one28 _ _ _ _ _) ?_
              refine HR.out _ _ HF101151213.out ?_
              clear HR
              refine plan4_run (o := ?_) (by simp only [List.getElem?_toArray, List.getElem?_cons_succ, List.getElem?_cons_zero]; rfl) ?_
              intro R HR
              go_wp2_with fail
              refine HR.out _ _ HF101151213.out ?_
              clear HR
              refine plan4_done ?_
              go_wp2_with fail
              go_meet
              case rel => exact ⟨wD.heap.size, (wD.heap.size + 1), n', p', rfl, rfl, rfl, HDN, HDP, hide ⟨HF101151213.out, HB7101151213.out, HB8101151213.out, HL710.out, HL81011.out, HI101151213.out.1.weak (okL_sub ho_swap), HI101151213.out.2.weak (okL_sub ho_swap)⟩⟩
          · intro R HR
            have eX11 : wD.heap.size = wD.heap.size := by rfl
            have HB811 := hide (by have h := Blk.new wD 28 [.int .i64 0, .int .i64 0, .slice none 0 0]; rw [eX11] at h; exact h)
            have HL811 := hide (by have h := HF0.out.size; rw [eX11] at h; exact h)
            have HF11 := hide (HF0.out.alloc HF0.out.size (.cells #[.int .i64 0, .int .i64 0, .slice none 0 0] 28))
            clear eX11
            go_wp2_with fail
            refine HR.out _ _ HF11.out ?_
            clear HR
            refine plan4_both (o1 := ?_) (o2 := ?_) (by simp only [List.getElem?_toArray, List.getElem?_cons_succ, List.getElem?_cons_zero]; rfl) (by simp only [List.getElem?_toArray, List.getElem?_cons_succ, List.getElem?_cons_zero]; rfl) ?_ ?_
            · intro R HR
              have HN115 := hide (show n.In (okL (wD.heap.size :: X3 :: ownL A)) (wD.alloc (.cells #[.int .i64 0, .int .i64 0, .slice none 0 0] 28)) from (HO.out.nin.weak (fun b hb h => okL_cons b (Nat.lt_of_lt_of_le hb HL811.out) h)).below HF11.out)
              have HK115 := hide (okL_new (L := wD.heap.size :: X3 :: ownL A) (n := (wD.alloc (.cells #[.int .i64 0, .int .i64 0, .slice none 0 0] 28)).heap.size) (by
                intro x hx
                rcases List.mem_cons.1 hx with rfl | hx
                · exact HB811.out.lt
                have h1 := (HO.out.lt x hx).2
                have h2 := HF11.out.size
                omega))
              go_wp2_with fail
              with_reducible refine (happens_any n m (wD.alloc (.cells #[.int .i64 0, .int .i64 0, .slice none 0 0] 28)) HK115.out HN115.out).mono ?_
              rintro e v5 ⟨p', n', rfl, hd, hd2, hi, hi2, hb⟩
              rw [HX.out] at hd hd2
              rw [HX.out]
              have HDP := hide hd
              have HDN := hide hd2
              have HI5 := hide (And.intro hi2 hi)
              have HF115 := hide (below_one HF11.out hb)
              have HB8115 := hide (HB811.out.below hb HB811.out.lt)
              clear hd hd2 hi hi2 hb
              go_wp2_with fail
              refine HR.out _ _ HF115.out ?_
              clear HR
              (refine plan4_take (o := ?_) (v := ?_) (by simp only [List.getElem?_toArray, List.getElem?_cons_succ, List.getElem?_cons_zero]; rfl) (yields_run (by rfl) ?_) ?_; rotate_left; (focus (intro w' hw'; skip; go_simp <;> with_reducible rfl)); (simp only [Act.put, List.setIfInBounds_toArray, List.set_cons_zero, List.set_cons_succ]))
              (refine plan4_take (o := ?_) (v := ?_) (by simp only [List.getElem?_toArray, List.getElem?_cons_succ, List.getElem?_cons_zero]; rfl) (yields_run (by rfl) ?_) ?_; rotate_left; (focus (intro w' hw'; skip; go_simp <;> with_reducible rfl)); (simp only [Act.put, List.setIfInBounds_toArray, List.set_cons_zero, List.set_cons_succ]))
              (refine plan4_take (o := ?_) (v := ?_) (by simp only [List.getElem?_toArray, List.getElem?_cons_succ, List.getElem?_cons_zero]; rfl) (yields_run (by rfl) ?_) ?_; rotate_left; (focus (intro w' hw'; skip; go_simp <;> with_reducible rfl)); (simp only [Act.put, List.setIfInBounds_toArray, List.set_cons_zero, List.set_cons_succ]))
              (refine plan4_take (o := ?_) (v := ?_) (by simp only [List.getElem?_toArray, List.getElem?_cons_succ, List.getElem?_cons_zero]; rfl) (yields_run (by rfl) ?_) ?_; rotate_left; (focus (intro w' hw'; skip; go_simp <;> with_reducible rfl)); (simp only [Act.put, List.setIfInBounds_toArray, List.set_cons_zero, List.set_cons_succ]))
              refine plan4_run (o := ?_) (by simp only [List.getElem?_toArray, List.getElem?_cons_succ, List.getElem?_cons_zero]; rfl) ?_
              intro R HR
              have eX11510 : v5.heap.size = v5.heap.size := by rfl
              have HB711510 := hide (by have h := Blk.new v5 25 [.slice none 0 0, .slice none 0 0]; rw [eX11510] at h; exact h)
              have HL711510 := hide (by have h := HF115.out.size; rw [eX11510] at h; exact h)
              have HF11510 := hide (HF115.out.alloc HF115.out.size (.cells #[.slice none 0 0, .slice none 0 0] 25))
              have HB811510 := hide (HB8115.out.alloc (.cells #[.slice none 0 0, .slice none 0 0] 25))
              have HI11510 := hide (by have h := ho_new HI5.out (.cells #[.slice none 0 0, .slice none 0 0] 25); rw [eX11510] at h; exact h)
              clear eX11510
              go_wp2_with fail
              refine HR.out _ _ HF11510.out ?_
              clear HR
              refine plan4_run (o := ?_) (by simp only [List.getElem?_toArray, List.getElem?_cons_succ, List.getElem?_cons_zero]; rfl) ?_
              intro R HR
              have HNE := hide (HB711510.out.ne HB811510.out (by decide))
              have HB71151012 := hide (HB711510.out.row [.slice n'.q.A n'.q.l.length n'.q.cap, .slice n'.a.A n'.a.l.length n'.a.cap])
              have HB81151012 := hide (HB811510.out.far (Y := v5.heap.size) (fun e => HNE.out e.symm) #[.slice n'.q.A n'.q.l.length n'.q.cap, .slice n'.a.A n'.a.l.length n'.a.cap])
              have HF1151012 := hide (below_setRow HF11510.out HL711510.out #[.slice n'.q.A n'.q.l.length n'.q.cap, .slice n'.a.A n'.a.l.length n'.a.cap])
              have HI1151012 := hide (ho_row HI11510.out (X := v5.heap.size) (by simp) #[.slice n'.q.A n'.q.l.length n'.q.cap, .slice n'.a.A n'.a.l.length n'.a.cap])
              refine wpList_store_row rfl 25 (.tmp 7) (.tmp 31) rfl _ #[.slice n'.q.A n'.q.l.length n'.q.cap, .slice n'.a.A n'.a.l.length n'.a.cap] rfl rfl 25 _ HB711510.out Try.size25 rfl (one25 _ _ _ _ _ _) ?_
              refine HR.out _ _ HF1151012.out ?_
              clear HR
              refine plan4_run (o := ?_) (by simp only [List.getElem?_toArray, List.getElem?_cons_succ, List.getElem?_cons_zero]; rfl) ?_
              intro R HR
              have HB8115101213 := hide (HB81151012.out.row [.int .i64 p'.fr, .int .i64 p'.to, .slice p'.s.A p'.s.l.length p'.s.cap])
              have HB7115101213 := hide (HB71151012.out.far (Y := wD.heap.size) HNE.out #[.int .i64 p'.fr, .int .i64 p'.to, .slice p'.s.A p'.s.l.length p'.s.cap])
              have HF115101213 := hide (below_setRow HF1151012.out HL811.out #[.int .i64 p'.fr, .int .i64 p'.to, .slice p'.s.A p'.s.l.length p'.s.cap])
              have HI115101213 := hide (ho_row HI1151012.out (X := wD.heap.size) (by simp) #[.int .i64 p'.fr, .int .i64 p'.to, .slice p'.s.A p'.s.l.length p'.s.cap])
              refine wpList_store_row rfl 28 (.tmp 8) (.tmp 32) rfl _ #[.int .i64 p'.fr, .int .i64 p'.to, .slice p'.s.A p'.s.l.length p'.s.cap] rfl rfl 28 _ HB81151012.out Try.size28 rfl (one28 _ _ _ _ _) ?_
              refine HR.out _ _ HF115101213.out ?_
              clear HR
              refine plan4_run (o := ?_) (by simp only [List.getElem?_toArray, List.getElem?_cons_succ, List.getElem?_cons_zero]; rfl) ?_
              intro R HR
              go_wp2_with fail
              refine HR.out _ _ HF115101213.out ?_
              clear HR
              refine plan4_done ?_
              go_wp2_with fail
              go_meet
              case rel => exact ⟨v5.heap.size, wD.heap.size, n', p', rfl, rfl, rfl, HDN, HDP, hide ⟨HF115101213.out, HB7115101213.out, HB8115101213.out, HL711510.out, HL811.out, HI115101213.out.1.weak (okL_sub (fun x hx => hx)), HI115101213.out.2.weak (okL_sub (fun x hx => hx))⟩⟩
            · intro R HR
              have eX1110 : (wD.alloc (.cells #[.int .i64 0, .int .i64 0, .slice none 0 0] 28)).heap.size = (wD.heap.size + 1) := by simp only [World.size_alloc]
              have HB71110 := hide (by have h := Blk.new (wD.alloc (.cells #[.int .i64 0, .int .i64 0, .slice none 0 0] 28)) 25 [.slice none 0 0, .slice none 0 0]; rw [eX1110] at h; exact h)
              have HL71110 := hide (by have h := HF11.out.size; rw [eX1110] at h; exact h)
              have HF1110 := hide (HF11.out.alloc HF11.out.size (.cells #[.slice none 0 0, .slice none 0 0] 25))
              have HB81110 := hide (HB811.out.alloc (.cells #[.slice none 0 0, .slice none 0 0] 25))
              clear eX1110
              go_wp2_with fail
              refine HR.out _ _ HF1110.out ?_
              clear HR
              refine plan4_run (o := ?_) (by simp only [List.getElem?_toArray, List.getElem?_cons_succ, List.getElem?_cons_zero]; rfl) ?_
              intro R HR
              have HN11105 := hide (show n.In (okL ((wD.heap.size + 1) :: wD.heap.size :: X3 :: ownL A)) ((wD.alloc (.cells #[.int .i64 0, .int .i64 0, .slice none 0 0] 28)).alloc (.cells #[.slice none 0 0, .slice none 0 0] 25)) from ((HO.out.nin.weak (fun b hb h => okL_cons b (Nat.lt_of_lt_of_le hb HL811.out) h)).weak (fun b hb h => okL_cons b (Nat.lt_of_lt_of_le hb HL71110.out) h)).below HF1110.out)
              have HK11105 := hide (okL_new (L := (wD.heap.size + 1) :: wD.heap.size :: X3 :: ownL A) (n := ((wD.alloc (.cells #[.int .i64 0, .int .i64 0, .slice none 0 0] 28)).alloc (.cells #[.slice none 0 0, .slice none 0 0] 25)).heap.size) (by
                intro x hx
                rcases List.mem_cons.1 hx with rfl | hx
                · exact HB71110.out.lt
                rcases List.mem_cons.1 hx with rfl | hx
                · exact HB81110.out.lt
                have h1 := (HO.out.lt x hx).2
                have h2 := HF1110.out.size
                omega))
              go_wp2_with fail
              with_reducible refine (happens_any n m ((wD.alloc (.cells #[.int .i64 0, .int .i64 0, .slice none 0 0] 28)).alloc (.cells #[.slice none 0 0, .slice none 0 0] 25)) HK11105.out HN11105.out).mono ?_
              rintro e v5 ⟨p', n', rfl, hd, hd2, hi, hi2, hb⟩
              rw [HX.out] at hd hd2
              rw [HX.out]
              have HDP := hide hd
              have HDN := hide hd2
              have HI5 := hide (And.intro hi2 hi)
              have HF11105 := hide (below_one HF1110.out hb)
              have HB711105 := hide (HB71110.out.below hb HB71110.out.lt)
              have HB811105 := hide (HB81110.out.below hb HB81110.out.lt)
              clear hd hd2 hi hi2 hb
              go_wp2_with fail
              refine HR.out _ _ HF11105.out ?_
              clear HR
              (refine plan4_take (o := ?_) (v := ?_) (by simp only [List.getElem?_toArray, List.getElem?_cons_succ, List.getElem?_cons_zero]; rfl) (yields_run (by rfl) ?_) ?_; rotate_left; (focus (intro w' hw'; skip; go_simp <;> with_reducible rfl)); (simp only [Act.put, List.setIfInBounds_toArray, List.set_cons_zero, List.set_cons_succ]))
              (refine plan4_take (o := ?_) (v := ?_) (by simp only [List.getElem?_toArray, List.getElem?_cons_succ, List.getElem?_cons_zero]; rfl) (yields_run (by rfl) ?_) ?_; rotate_left; (focus (intro w' hw'; skip; go_simp <;> with_reducible rfl)); (simp only [Act.put, List.setIfInBounds_toArray, List.set_cons_zero, List.set_cons_succ]))
              (refine plan4_take (o := ?_) (v := ?_) (by simp only [List.getElem?_toArray, List.getElem?_cons_succ, List.getElem?_cons_zero]; rfl) (yields_run (by rfl) ?_) ?_; rotate_left; (focus (intro w' hw'; skip; go_simp <;> with_reducible rfl)); (simp only [Act.put, List.setIfInBounds_toArray, List.set_cons_zero, List.set_cons_succ]))
              (refine plan4_take (o := ?_) (v := ?_) (by simp only [List.getElem?_toArray, List.getElem?_cons_succ, List.getElem?_cons_zero]; rfl) (yields_run (by rfl) ?_) ?_; rotate_left; (focus (intro w' hw'; skip; go_simp <;> with_reducible rfl)); (simp only [Act.put, List.setIfInBounds_toArray, List.set_cons_zero, List.set_cons_succ]))
              refine plan4_run (o := ?_) (by simp only [List.getElem?_toArray, List.getElem?_cons_succ, List.getElem?_cons_zero]; rfl) ?_
              intro R HR
              have HNE := hide (HB711105.out.ne HB811105.out (by decide))
              have HB71110512 := hide (HB711105.out.row [.slice n'.q.A n'.q.l.length n'.q.cap, .slice n'.a.A n'.a.l.length n'.a.cap])
              have HB81110512 := hide (HB811105.out.far (Y := (wD.heap.size + 1)) (fun e => HNE.out e.symm) #[.slice n'.q.A n'.q.l.length n'.q.cap, .slice n'.a.A n'.a.l.length n'.a.cap])
              have HF1110512 := hide (below_setRow HF11105.out HL71110.out #[.slice n'.q.A n'.q.l.length n'.q.cap, .slice n'.a.A n'.a.l.length n'.a.cap])
              have HI1110512 := hide (ho_row HI5.out (X := (wD.heap.size + 1)) (by simp) #[.slice n'.q.A n'.q.l.length n'.q.cap, .slice n'.a.A n'.a.l.length n'.a.cap])
              refine wpList_store_row rfl 25 (.tmp 7) (.tmp 31) rfl _ #[.slice n'.q.A n'.q.l.length n'.q.cap, .slice n'.a.A n'.a.l.length n'.a.cap] rfl rfl 25 _ HB711105.out Try.size25 rfl (one25 _ _ _ _ _ _) ?_
              refine HR.out _ _ HF1110512.out ?_
              clear HR
              refine plan4_run (o := ?_) (by simp only [List.getElem?_toArray, List.getElem?_cons_succ, List.getElem?_cons_zero]; rfl) ?_
              intro R HR
              have HB8111051213 := hide (HB81110512.out.row [.int .i64 p'.fr, .int .i64 p'.to, .slice p'.s.A p'.s.l.length p'.s.cap])
              have HB7111051213 := hide (HB71110512.out.far (Y := wD.heap.size) HNE.out #[.int .i64 p'.fr, .int .i64 p'.to, .slice p'.s.A p'.s.l.length p'.s.cap])
              have HF111051213 := hide (below_setRow HF1110512.out HL811.out #[.int .i64 p'.fr, .int .i64 p'.to, .slice p'.s.A p'.s.l.length p'.s.cap])
              have HI111051213 := hide (ho_row HI1110512.out (X := wD.heap.size) (by simp) #[.int .i64 p'.fr, .int .i64 p'.to, .slice p'.s.A p'.s.l.length p'.s.cap])
              refine wpList_store_row rfl 28 (.tmp 8) (.tmp 32) rfl _ #[.int .i64 p'.fr, .int .i64 p'.to, .slice p'.s.A p'.s.l.length p'.s.cap] rfl rfl 28 _ HB81110512.out Try.size28 rfl (one28 _ _ _ _ _) ?_
              refine HR.out _ _ HF111051213.out ?_
              clear HR
              refine plan4_run (o := ?_) (by simp only [List.getElem?_toArray, List.getElem?_cons_succ, List.getElem?_cons_zero]; rfl) ?_
              intro R HR
              go_wp2_with fail
              refine HR.out _ _ HF111051213.out ?_
              clear HR
              refine plan4_done ?_
              go_wp2_with fail
              go_meet
              case rel => exact ⟨(wD.heap.size + 1), wD.heap.size, n', p', rfl, rfl, rfl, HDN, HDP, hide ⟨HF111051213.out, HB7111051213.out, HB8111051213.out, HL71110.out, HL811.out, HI111051213.out.1.weak (okL_sub (fun x hx => hx)), HI111051213.out.2.weak (okL_sub (fun x hx => hx))⟩⟩
        case rest =>
          obtain ⟨X7, X8, x, p, rfl, rfl, rfl, HDN, HDP, HR⟩ := hcut
          have HO1 := hide (HO.out.below HR.out.bel)
          rcases HT.out with ⟨he, hy⟩ | ⟨rfl, hcase⟩
          · have hne : (ee != (0 : Int)) = true := by simpa using he
            have HD0 := hide (show x.d = Net.zero.d from HDN.out.trans hy)
            clear he hy
            obtain ⟨c0, c1⟩ := HO1.out.blk.c2
            have HC := hide (chk_is (chkI_ok HS.out.chk) _ HO1.out.nin)
            go_wp2_with fail
            with_reducible refine HC.out.mono ?_
            rintro e wy ⟨rfl, hb⟩
            have HOY := hide (HO1.out.below hb)
            have HRY := hide (HR.out.below hb)
            clear hb HC c0 c1
            obtain ⟨c0, c1⟩ := HRY.out.b7.c2
            have HC := hide (same_any x Net.zero _ HRY.out.xin (Net.zero_in _) HD0.out)
            replace HC := hide (show Calls Try.prog 15 #[x.v, .agg #[.slice none 0 0, .slice none 0 0]] _ _ from HC.out)
            go_wp2_with fail
            with_reducible refine HC.out.mono ?_
            rintro e wz ⟨rfl, hb⟩
            have HOZ := hide (HOY.out.below hb)
            clear hb HC c0 c1
            go_wp2_with fail
            go_roundw
            case rel => exact ⟨k + 1, n, A, sl, cap, cc, by omega, by omega, by omega, by go_num, rfl, rfl, HOZ, HS⟩
            case measure => simp [intOf]; omega
          · have HCS := hide hcase
            clear hcase
            have f0 := (HM.out _ HR.out.bel).1
            rw [← HDN.out] at HCS
            clear HT HX HDN
            have HLO := hide (fun z (hz : z ∈ ownL A) => (HO.out.lt z (List.mem_cons_of_mem _ hz)).2)
            rcases HCS.out with ⟨rfl, pj0, hq', hs'⟩ | ⟨rfl, hs', hm'⟩ | ⟨rfl, hs'⟩ | ⟨h235, hs'⟩
            · have HSN := hide hs'
              have HYQ := hide hq'
              clear hq' hs'
              obtain ⟨j, hj, hjd, hjm⟩ := ho_last rfl HYQ.out
              have HJ := hide (And.intro hjd hjm)
              clear hjm hjd
              obtain ⟨c0, c1⟩ := HR.out.b7.c2
              rw [hj] at c0
              have hjl : j < x.q.l.length := by omega
              obtain ⟨bx, ox, hAx, hbx, e0, e1, e2⟩ := HR.out.xin.q.at hjl
              have HPJ := hide (HR.out.xin.q.p _ (List.getElem_mem hjl))
              have HJD := hide (show (x.q.l[j]).d = pj0 from by have h1 := HJ.out.1; rw [List.getElem?_eq_getElem hjl] at h1; simpa using h1)
              generalize x.q.l[j] = pj at e0 e1 e2 HPJ HJD
              replace HSN := hide (show Sent x.d ((sl ++ [pj]).map Pkt.d) cc from by have h1 := HSN.out; rw [← HJD.out] at h1; rw [List.map_append]; exact h1)
              rw [hAx] at c0
              clear hAx hbx hjl
              have HJ0 := hide hj
              clear hj
              have hcapj : j + 1 ≤ 9223372036854775807 := by have h1 := HR.out.xin.q.q.le; have h2 := HR.out.xin.q.q.top; have h3 := HJ0.out; omega
              obtain ⟨i28, hi28⟩ := hinfo28
              have HI28 := hide hi28
              clear hi28
              have hzj : (((j + 1 : Nat) : Int) == 0) = false := by simp only [beq_eq_false_iff_ne, ne_eq]; omega
              have HOE1 := hide (HO1.out.below (below_new _ (.cells pj.cs.toArray 28)))
              have HRE1 := hide (HR.out.below (below_new _ (.cells pj.cs.toArray 28)))
              have HPJ1 := hide (HPJ.out.below (below_new _ (.cells pj.cs.toArray 28)))
              have hbase := HOE1.out.bel.size
              go_wp2_with (first | (refine wpList_append_lies _ rfl (.tmp 57) (.tmp 66) 22 rfl w.heap.size 28 i28 _ 3 40 Try.underlying22 HI28.out.1 HI28.out.2.1 HI28.out.2.2.1 HI28.out.2.2.2 rfl (by decide) _ sl.length (sl.flatMap Pkt.cs) rfl HOE1.out.own ⟨wc.heap.size, 0, none⟩ 1 1 pj.cs rfl rfl (fun j u hu => new_cells wc 28 pj.cs _ rfl j u hu) (pk_one pj) (by decide) (by unfold maxLen; omega) (by omega) hbase _ rfl ?_; intro g6 c6 w6 hown hg hat hlt6; have HOA := hide (HOE1.out.app hown hg hat (HPJ1.out.weak (okL_sub fun z hz => List.mem_cons_of_mem _ (List.mem_cons_of_mem _ hz)))); have HRA := hide (HRE1.out.app HLO.out hg hat); clear hown hg hat hlt6; obtain ⟨c0, c1⟩ := HRA.out.1.c2; have HB3' := hide HOA.out.blk; have HOP := hide (HOA.out.put (x := x) (HRA.out.2.weak (okL_sub fun z hz => List.mem_cons_of_mem _ (List.mem_cons_of_mem _ hz))))) | (refine wpList_store_row rfl 25 (.tmp 3) (.tmp 98) rfl X3 #[.slice x.q.A x.q.l.length x.q.cap, .slice x.a.A x.a.l.length x.a.cap] rfl rfl 25 _ HB3'.out Try.size25 rfl (one25 _ _ _ _ _ _) ?_; clear c0 c1; obtain ⟨c0, c1⟩ := HOP.out.blk.c2))
              have HC := hide (chk_is (chkI_ok HSN.out.chk) _ HOP.out.nin)
              with_reducible refine HC.out.mono ?_
              rintro e wz ⟨rfl, hb⟩
              have HOZ := hide (HOP.out.below hb)
              clear hb HC c0 c1
              go_wp2_with fail
              go_roundw
              case rel => exact ⟨k + 1, x, (some ⟨g6, 0, none⟩), sl ++ [pj], c6, cc, by omega, by omega, by first | omega | (simp only [List.length_append, List.length_cons, List.length_nil]; omega), by go_num, by simp, by go_num, HOZ, HSN⟩
              case measure => simp [intOf]; omega
            · have HSN := hide hs'
              have HMT := hide hm'
              clear hs' hm'
              rw [← HDP.out] at HMT
              clear HDP
              obtain ⟨d0, d1, d2⟩ := HR.out.b8.c3
              obtain ⟨bz, hbz⟩ : ∃ bz, decide (p.d = Pkt.d ⟨0, 0, ⟨none, [], 0⟩⟩) = bz := ⟨_, rfl⟩
              have HBZ := hide hbz
              clear hbz
              have HC := hide (samePk_is (q := ⟨0, 0, ⟨none, [], 0⟩⟩) HBZ.out _ HR.out.pin ⟨SlIn.none _, by unfold I64; decide, by unfold I64; decide⟩)
              replace HC := hide (show Calls Try.prog 22 #[p.v, .agg #[.int .i64 0, .int .i64 0, .slice none 0 0]] _ _ from HC.out)
              go_upto_region 21 with (fail)
              go_cut [10] from 70 to 76 (fun u W => ∃ mt : Bool, u = .bool mt ∧ Hid (mt = (bz && decide (0 < cc))) ∧ Hid (Below wc.heap.size wc W))
              case first =>
                cases bz with
                | false =>
                  go_wp2_with fail
                  with_reducible refine HC.out.mono ?_
                  rintro e wq ⟨rfl, hb⟩
                  have HBQ := hide hb
                  clear hb
                  go_wp2_with fail
                  go_meet
                  case rel => exact ⟨false, rfl, hide rfl, HBQ⟩
                | true =>
                  by_cases hc0 : 0 < cc
                  · have hc0' : (0 : Int) < (cc : Int) := by omega
                    have hmz := hide (show true = (true && decide (0 < cc)) by simp [hc0])
                    clear hc0
                    go_wp2_with fail
                    with_reducible refine HC.out.mono ?_
                    rintro e wq ⟨rfl, hb⟩
                    have HBQ := hide hb
                    clear hb
                    go_wp2_with fail
                    go_meet
                    case rel => exact ⟨true, by first | rfl | (simp; omega), hmz, HBQ⟩
                  · have hc0' : ¬ (0 : Int) < (cc : Int) := by omega
                    have hmz := hide (show false = (true && decide (0 < cc)) by simp [hc0])
                    clear hc0
                    go_wp2_with fail
                    with_reducible refine HC.out.mono ?_
                    rintro e wq ⟨rfl, hb⟩
                    have HBQ := hide hb
                    clear hb
                    go_wp2_with fail
                    go_meet
                    case rel => exact ⟨false, by first | rfl | (simp; omega), hmz, HBQ⟩
              case rest =>
                clear HC d0 d1 d2
                obtain ⟨mt0, rfl, HM0, HBQ⟩ := hcut
                have HOQ := hide (HO1.out.below HBQ.out)
                have HRQ := hide (HR.out.below HBQ.out)
                go_wp2_with fail
                go_loopw [10, 11] (fun u j wl => ∃ (k2 : Nat) (mt : Bool), k2 ≤ sl.length ∧ j = .int .i64 k2 ∧ u = .bool mt ∧ Hid (Met p.d sl cc mt k2) ∧ Hid (Below wc.heap.size wc wl)) (fun _ j _ => sl.length - (intOf j).toNat)
                case atStart => exact ⟨0, mt0, by omega, rfl, rfl, hide (Met.start HM0.out HBZ.out), hide (Below.refl _ _)⟩
                case round =>
                  obtain ⟨k2, mt, hk2, rfl, rfl, HME, HBL⟩ := hrel
                  skip
                  have HOL := hide (HOQ.out.below HBL.out)
                  have HRL := hide (HRQ.out.below HBL.out)
                  clear HOQ HRQ HM0 HBQ
                  by_cases hlt2 : k2 < sl.length
                  · have hlt2' : (k2 : Int) < (sl.length : Int) := by omega
                    cases mt with
                    | true =>
                      obtain ⟨d0, d1, d2⟩ := HRL.out.b8.c3
                      go_wp2_with fail
                      go_quiet (fail)
                      go_wp2_with fail
                      go_roundw
                      case rel => exact ⟨k2 + 1, true, by omega, by go_num, rfl, hide (.inl rfl), hide (below_drewN HBL.out _)⟩
                      case measure => simp [intOf]; omega
                    | false =>
                      obtain ⟨b2, o2, hA2, hb3, hcell⟩ := (own_in (ok := all) HOL.out.own rfl (fun _ _ => trivial)).at (m := 3) (fun _ => rfl) (by decide) (k := k2) hlt2
                      have e0 := hcell 0 _ rfl
                      have e1 := hcell 1 _ rfl
                      have e2 := hcell 2 _ rfl
                      simp only [Nat.add_zero] at e0
                      clear hcell
                      have HPK := hide (HOL.out.sin _ (List.getElem_mem hlt2))
                      have HPG := hide (show sl[k2]? = some sl[k2] from List.getElem?_eq_getElem hlt2)
                      replace hA2 : A = some ⟨b2, o2, none⟩ := hA2
                      subst hA2
                      replace HPK := hide (show (sl[k2]).In _ _ from HPK.out)
                      generalize hpk : sl[k2] = pk at *
                      clear hpk
                      have HP3 := hide (fun W (hW : Below _ _ W) => And.intro (pk_cells hb3 e0 e1 e2 hW) ((HRL.out.below hW).b8).c3)
                      clear e0 e1 e2
                      obtain ⟨bq, hbq⟩ : ∃ bq, decide (pk.d = p.d) = bq := ⟨_, rfl⟩
                      have HBQ2 := hide hbq
                      clear hbq
                      go_upto_region 25 with (fail)
                      skip
                      refine wp_region_plan4 (fun W => Below wr.heap.size wr W) (.take 0 (.take 1 (.take 2 (.take 3 (.take 4 (.take 5 (.take 6 (.run 7 (.take 8 (.take 9 .done)))))))))) (by kernel_rfl) (by kernel_rfl) ((Below.refl _ _).drew) ?_
                      have HF0 := hide (show Below wr.heap.size wr wr.drew from (Below.refl _ _).drew)
                      generalize wr.drew = wD at HF0 ⊢
                      (refine plan4_take (o := ?_) (v := ?_) (by simp only [List.getElem?_toArray, List.getElem?_cons_zero]; rfl) (yields_run (by rfl) ?_) ?_; rotate_left; (focus (intro w' hw'; skip; go_simp <;> with_reducible rfl)); (simp only [Act.put, List.setIfInBounds_toArray, List.set_cons_zero, List.set_cons_succ]))
                      (refine plan4_take (o := ?_) (v := ?_) (by simp only [List.getElem?_toArray, List.getElem?_cons_succ, List.getElem?_cons_zero]; rfl) (yields_run (by rfl) ?_) ?_; rotate_left; (focus (intro w' hw'; skip; go_simp <;> with_reducible rfl)); (simp only [Act.put, List.setIfInBounds_toArray, List.set_cons_zero, List.set_cons_succ]))
                      (refine plan4_take (o := ?_) (v := ?_) (by simp only [List.getElem?_toArray, List.getElem?_cons_succ, List.getElem?_cons_zero]; rfl) (yields_run (by rfl) ?_) ?_; rotate_left; (focus (intro w' hw'; skip; go_simp <;> with_reducible rfl)); (simp only [Act.put, List.setIfInBounds_toArray, List.set_cons_zero, List.set_cons_succ]))
                      (refine plan4_take (o := ?_) (v := ?_) (by simp only [List.getElem?_toArray, List.getElem?_cons_succ, List.getElem?_cons_zero]; rfl) (yields_run (by rfl) ?_) ?_; rotate_left; (focus (intro w' hw'; skip; go_simp <;> with_reducible rfl)); (simp only [Act.put, List.setIfInBounds_toArray, List.set_cons_zero, List.set_cons_succ]))
                      (refine plan4_take (o := ?_) (v := ?_) (by simp only [List.getElem?_toArray, List.getElem?_cons_succ, List.getElem?_cons_zero]; rfl) (yields_run (by rfl) ?_) ?_; rotate_left; (focus (intro w' hw'; skip; go_simp <;> with_reducible rfl)); (simp only [Act.put, List.setIfInBounds_toArray, List.set_cons_zero, List.set_cons_succ]))
                      (refine plan4_take (o := ?_) (v := ?_) (by simp only [List.getElem?_toArray, List.getElem?_cons_succ, List.getElem?_cons_zero]; rfl) (yields_run (by rfl) ?_) ?_; rotate_left; (focus (intro w' hw'; obtain ⟨⟨e0, e1, e2⟩, d0, d1, d2⟩ := HP3.out w' hw'; go_simp <;> with_reducible rfl)); (simp only [Act.put, List.setIfInBounds_toArray, List.set_cons_zero, List.set_cons_succ]))
                      (refine plan4_take (o := ?_) (v := ?_) (by simp only [List.getElem?_toArray, List.getElem?_cons_succ, List.getElem?_cons_zero]; rfl) (yields_run (by rfl) ?_) ?_; rotate_left; (focus (intro w' hw'; obtain ⟨⟨e0, e1, e2⟩, d0, d1, d2⟩ := HP3.out w' hw'; go_simp <;> with_reducible rfl)); (simp only [Act.put, List.setIfInBounds_toArray, List.set_cons_zero, List.set_cons_succ]))
                      refine plan4_run (o := ?_) (by simp only [List.getElem?_toArray, List.getElem?_cons_succ, List.getElem?_cons_zero]; rfl) ?_
                      intro R HR
                      go_wp2_with fail
                      have HC := hide (samePk_is HBQ2.out wD ((HPK.out.weak (ok' := all) fun _ _ _ => trivial).below HF0.out) ((HRL.out.pin.weak (ok' := all) fun _ _ _ => trivial).below HF0.out))
                      with_reducible refine HC.out.mono ?_
                      rintro e v7 ⟨rfl, hb⟩
                      have HF7 := hide (below_one HF0.out hb)
                      clear hb HC
                      go_wp2_with fail
                      refine HR.out _ _ HF7.out ?_
                      clear HR
                      (refine plan4_take (o := ?_) (v := ?_) (by simp only [List.getElem?_toArray, List.getElem?_cons_succ, List.getElem?_cons_zero]; rfl) (yields_run (by rfl) ?_) ?_; rotate_left; (focus (intro w' hw'; skip; go_simp <;> with_reducible rfl)); (simp only [Act.put, List.setIfInBounds_toArray, List.set_cons_zero, List.set_cons_succ]))
                      (refine plan4_take (o := ?_) (v := ?_) (by simp only [List.getElem?_toArray, List.getElem?_cons_succ, List.getElem?_cons_zero]; rfl) (yields_run (by rfl) ?_) ?_; rotate_left; (focus (intro w' hw'; skip; go_simp <;> with_reducible rfl)); (simp only [Act.put, List.setIfInBounds_toArray, List.set_cons_zero, List.set_cons_succ]))
                      refine plan4_done ?_
                      go_wp2_with fail
                      go_roundw
                      case rel => exact ⟨k2 + 1, bq, by omega, by go_num, rfl, hide (HME.out.step HBQ2.out HPG.out), hide (HBL.out.trans (HF7.out.mono HBL.out.size))⟩
                      case measure => simp [intOf]; omega
                  · have hlt2' : ¬ (k2 : Int) < (sl.length : Int) := by omega
                    obtain rfl : mt = true := HME.out.done HMT.out (by omega)
                    clear HME HMT HBZ
                    obtain ⟨c0, c1⟩ := HRL.out.b7.c2
                    have HB3' := hide HOL.out.blk
                    obtain ⟨c0, c1⟩ := HRL.out.b7.c2
                    have HB3' := hide HOL.out.blk
                    have HOP := hide (HOL.out.put (x := x) (HRL.out.xin.weak (okL_sub fun z hz => List.mem_cons_of_mem _ (List.mem_cons_of_mem _ hz))))
                    go_wp2_with (refine wpList_store_row rfl 25 (.tmp 3) (.tmp 98) rfl X3 #[.slice x.q.A x.q.l.length x.q.cap, .slice x.a.A x.a.l.length x.a.cap] rfl rfl 25 _ HB3'.out Try.size25 rfl (one25 _ _ _ _ _ _) ?_; clear c0 c1; obtain ⟨c0, c1⟩ := HOP.out.blk.c2)
                    have HC := hide (chk_is (chkI_ok HSN.out.chk) _ HOP.out.nin)
                    with_reducible refine HC.out.mono ?_
                    rintro e wz ⟨rfl, hb⟩
                    have HOZ := hide (HOP.out.below hb)
                    clear hb HC c0 c1
                    go_wp2_with fail
                    go_roundw
                    case rel => exact ⟨k + 1, x, A, sl, cap, cc, by omega, by omega, by first | omega | (simp only [List.length_append, List.length_cons, List.length_nil]; omega), by go_num, by simp, by go_num, HOZ, HSN⟩
                    case measure => simp [intOf]; omega
            · have HSN := hide hs'
              clear hs'
              obtain ⟨c0, c1⟩ := HR.out.b7.c2
              have HB3' := hide HO1.out.blk
              obtain ⟨c0, c1⟩ := HR.out.b7.c2
              have HB3' := hide HO1.out.blk
              have HOP := hide (HO1.out.put (x := x) (HR.out.xin.weak (okL_sub fun z hz => List.mem_cons_of_mem _ (List.mem_cons_of_mem _ hz))))
              go_wp2_with (refine wpList_store_row rfl 25 (.tmp 3) (.tmp 98) rfl X3 #[.slice x.q.A x.q.l.length x.q.cap, .slice x.a.A x.a.l.length x.a.cap] rfl rfl 25 _ HB3'.out Try.size25 rfl (one25 _ _ _ _ _ _) ?_; clear c0 c1; obtain ⟨c0, c1⟩ := HOP.out.blk.c2)
              have HC := hide (chk_is (chkI_ok HSN.out.chk) _ HOP.out.nin)
              with_reducible refine HC.out.mono ?_
              rintro e wz ⟨rfl, hb⟩
              have HOZ := hide (HOP.out.below hb)
              clear hb HC c0 c1
              go_wp2_with fail
              go_roundw
              case rel => exact ⟨k + 1, x, A, sl, cap, cc + 1, by omega, by omega, by first | omega | (simp only [List.length_append, List.length_cons, List.length_nil]; omega), by go_num, by simp, by go_num, HOZ, HSN⟩
              case measure => simp [intOf]; omega
            · have HSN := hide hs'
              clear hs'
              rcases h235 with rfl | rfl | rfl
              · skip
                obtain ⟨c0, c1⟩ := HR.out.b7.c2
                have HB3' := hide HO1.out.blk
                have HOP := hide (HO1.out.put (x := x) (HR.out.xin.weak (okL_sub fun z hz => List.mem_cons_of_mem _ (List.mem_cons_of_mem _ hz))))
                go_wp2_with (refine wpList_store_row rfl 25 (.tmp 3) (.tmp 98) rfl X3 #[.slice x.q.A x.q.l.length x.q.cap, .slice x.a.A x.a.l.length x.a.cap] rfl rfl 25 _ HB3'.out Try.size25 rfl (one25 _ _ _ _ _ _) ?_; clear c0 c1; obtain ⟨c0, c1⟩ := HOP.out.blk.c2)
                have HC := hide (chk_is (chkI_ok HSN.out.chk) _ HOP.out.nin)
                with_reducible refine HC.out.mono ?_
                rintro e wz ⟨rfl, hb⟩
                have HOZ := hide (HOP.out.below hb)
                clear hb HC c0 c1
                go_wp2_with fail
                go_roundw
                case rel => exact ⟨k + 1, x, A, sl, cap, cc, by omega, by omega, by first | omega | (simp only [List.length_append, List.length_cons, List.length_nil]; omega), by go_num, by simp, by go_num, HOZ, HSN⟩
                case measure => simp [intOf]; omega
              · skip
                obtain ⟨c0, c1⟩ := HR.out.b7.c2
                have HB3' := hide HO1.out.blk
                have HOP := hide (HO1.out.put (x := x) (HR.out.xin.weak (okL_sub fun z hz => List.mem_cons_of_mem _ (List.mem_cons_of_mem _ hz))))
                go_wp2_with (refine wpList_store_row rfl 25 (.tmp 3) (.tmp 98) rfl X3 #[.slice x.q.A x.q.l.length x.q.cap, .slice x.a.A x.a.l.length x.a.cap] rfl rfl 25 _ HB3'.out Try.size25 rfl (one25 _ _ _ _ _ _) ?_; clear c0 c1; obtain ⟨c0, c1⟩ := HOP.out.blk.c2)
                have HC := hide (chk_is (chkI_ok HSN.out.chk) _ HOP.out.nin)
                with_reducible refine HC.out.mono ?_
                rintro e wz ⟨rfl, hb⟩
                have HOZ := hide (HOP.out.below hb)
                clear hb HC c0 c1
                go_wp2_with fail
                go_roundw
                case rel => exact ⟨k + 1, x, A, sl, cap, cc, by omega, by omega, by first | omega | (simp only [List.length_append, List.length_cons, List.length_nil]; omega), by go_num, by simp, by go_num, HOZ, HSN⟩
                case measure => simp [intOf]; omega
              · skip
                obtain ⟨c0, c1⟩ := HR.out.b7.c2
                have HB3' := hide HO1.out.blk
                have HOP := hide (HO1.out.put (x := x) (HR.out.xin.weak (okL_sub fun z hz => List.mem_cons_of_mem _ (List.mem_cons_of_mem _ hz))))
                go_wp2_with (refine wpList_store_row rfl 25 (.tmp 3) (.tmp 98) rfl X3 #[.slice x.q.A x.q.l.length x.q.cap, .slice x.a.A x.a.l.length x.a.cap] rfl rfl 25 _ HB3'.out Try.size25 rfl (one25 _ _ _ _ _ _) ?_; clear c0 c1; obtain ⟨c0, c1⟩ := HOP.out.blk.c2)
                have HC := hide (chk_is (chkI_ok HSN.out.chk) _ HOP.out.nin)
                with_reducible refine HC.out.mono ?_
                rintro e wz ⟨rfl, hb⟩
                have HOZ := hide (HOP.out.below hb)
                clear hb HC c0 c1
                go_wp2_with fail
                go_roundw
                case rel => exact ⟨k + 1, x, A, sl, cap, cc, by omega, by omega, by first | omega | (simp only [List.length_append, List.length_cons, List.length_nil]; omega), by go_num, by simp, by go_num, HOZ, HSN⟩
                case measure => simp [intOf]; omega
      · have hlt' : ¬ (k : Int) < (ql.length : Int) := by omega
        go_wp2_with fail
        go_ret
        exact ⟨rfl, HO.out.bel⟩
end Go.Proofs.Ythmaakiibgdigaa
