/- Links and packets that lie in boxes, in a later world. -/
import Derived.Test.YthmaakiibgdigaaRCu
import Derived.Test.YthmaakiibgdigaaOth
import Derived.Test.YthmaakiibgdigaaRDl
import Derived.Test.YthmaakiibgdigaaRep
import Derived.Test.YthmaakiibgdigaaRSnd
import Derived.Test.YthmaakiibgdigaaSam
import Derived.Test.YthmaakiibgdigaaLos
namespace Go.Proofs.Ythmaakiibgdigaa
open Go.RowKit

/-- Blocks that are no boxes. -/
def oks (l : List (Nat × Net)) (q : List (Nat × Pkt)) (b : Nat) : Prop := (∀ x ∈ l.map Prod.fst, x ≠ b) ∧ ∀ x ∈ q.map Prod.fst, x ≠ b
structure Env (w : World) (l : List (Nat × Net)) (q : List (Nat × Pkt)) (W : World) : Prop where
  bel : Below w.heap.size w W
  box : ∀ p ∈ l, Blk W p.1 25 p.2.cs ∧ w.heap.size ≤ p.1 ∧ p.2.In (oks l q) W
  pks : ∀ p ∈ q, Blk W p.1 28 p.2.cs ∧ w.heap.size ≤ p.1 ∧ p.2.In (oks l q) W
section
variable {w W W' : World} {l l' : List (Nat × Net)} {q q' : List (Nat × Pkt)} {ok : Nat → Prop}
theorem Env.start (w : World) : Env w [] [] w := ⟨Below.refl _ _, fun p hp => (by cases hp), fun p hp => (by cases hp)⟩
theorem Env.below (h : Env w l q W) (hb : Below W.heap.size W W') : Env w l q W' :=
  ⟨below_one h.bel hb, fun p hp => ⟨(h.box p hp).1.below hb (h.box p hp).1.lt, (h.box p hp).2.1, (h.box p hp).2.2.below hb⟩, fun p hp => ⟨(h.pks p hp).1.below hb (h.pks p hp).1.lt, (h.pks p hp).2.1, (h.pks p hp).2.2.below hb⟩⟩
theorem Env.drew (h : Env w l q W) : Env w l q W.drew := h.below (Below.refl _ _).drew
theorem Env.okn (h : Env w l q W) : ∀ b, W.heap.size ≤ b → oks l q b := fun b hb =>
  ⟨fun x hx e => by
    obtain ⟨p, hp, rfl⟩ := List.mem_map.1 hx
    have := (h.box p hp).1.lt
    omega, fun x hx e => by
    obtain ⟨p, hp, rfl⟩ := List.mem_map.1 hx
    have := (h.pks p hp).1.lt
    omega⟩
theorem Env.okl (h : Env w l q W) : ∀ b, b < w.heap.size → oks l q b := fun b hb =>
  ⟨fun x hx e => by
    obtain ⟨p, hp, rfl⟩ := List.mem_map.1 hx
    have := (h.box p hp).2.1
    omega, fun x hx e => by
    obtain ⟨p, hp, rfl⟩ := List.mem_map.1 hx
    have := (h.pks p hp).2.1
    omega⟩
theorem Env.lt {X : Nat} {n : Net} (h : Env w l q W) (hp : (X, n) ∈ l) : X < W.heap.size := (h.box _ hp).1.lt
theorem oks_newn {x : Nat} {n : Net} : ∀ b, b < x → oks l q b → oks ((x, n) :: l) q b := fun b hb ho =>
  ⟨fun y hy e => by
    rcases List.mem_cons.1 hy with rfl | hy
    · omega
    · exact ho.1 y hy e, ho.2⟩
theorem oks_newp {x : Nat} {n : Pkt} : ∀ b, b < x → oks l q b → oks l ((x, n) :: q) b := fun b hb ho =>
  ⟨ho.1, fun y hy e => by
    rcases List.mem_cons.1 hy with rfl | hy
    · omega
    · exact ho.2 y hy e⟩
/-- A new box for links. -/
theorem Env.newn (h : Env w l q W) {n : Net} (hn : n.In (oks l q) W) : Env w ((W.heap.size, n) :: l) q (W.alloc (.cells n.cs.toArray 25)) := by
  have h' := h.below (below_new W (.cells n.cs.toArray 25))
  have hb := below_new W (.cells n.cs.toArray 25)
  refine ⟨h'.bel, fun p hp => ?_, fun p hp => ⟨(h'.pks p hp).1, (h'.pks p hp).2.1, ((h.pks p hp).2.2.weak oks_newn).below hb⟩⟩
  rcases List.mem_cons.1 hp with rfl | hp
  · exact ⟨Blk.new W 25 n.cs, h.bel.size, (hn.weak oks_newn).below hb⟩
  · exact ⟨(h'.box p hp).1, (h'.box p hp).2.1, ((h.box p hp).2.2.weak oks_newn).below hb⟩
/-- A new box for a packet. -/
theorem Env.newp (h : Env w l q W) {n : Pkt} (hn : n.In (oks l q) W) : Env w l ((W.heap.size, n) :: q) (W.alloc (.cells n.cs.toArray 28)) := by
  have h' := h.below (below_new W (.cells n.cs.toArray 28))
  have hb := below_new W (.cells n.cs.toArray 28)
  refine ⟨h'.bel, fun p hp => ⟨(h'.box p hp).1, (h'.box p hp).2.1, ((h.box p hp).2.2.weak oks_newp).below hb⟩, fun p hp => ?_⟩
  rcases List.mem_cons.1 hp with rfl | hp
  · exact ⟨Blk.new W 28 n.cs, h.bel.size, (hn.weak oks_newp).below hb⟩
  · exact ⟨(h'.pks p hp).1, (h'.pks p hp).2.1, ((h.pks p hp).2.2.weak oks_newp).below hb⟩
theorem oks_map {l l' : List (Nat × Net)} {q q' : List (Nat × Pkt)} (hl : l'.map Prod.fst = l.map Prod.fst) (hq : q'.map Prod.fst = q.map Prod.fst) : oks l' q' = oks l q := by
  funext b; unfold oks; rw [hl, hq]
/-- Other links into a box. -/
theorem Env.putn (h : Env w l q W) {X : Nat} {n n' : Net} (hX : (X, n) ∈ l) (hn : n'.In (oks l q) W) (hm : l'.map Prod.fst = l.map Prod.fst) (hl : ∀ p ∈ l', p = (X, n') ∨ (p ∈ l ∧ p.1 ≠ X)) : Env w l' q (W.setRow X n'.cs.toArray) := by
  obtain ⟨hb, hw, _⟩ := h.box _ hX
  have hno : ¬ oks l q X := fun hk => hk.1 X (List.mem_map.2 ⟨_, hX, rfl⟩) rfl
  have hk : Kept (oks l q) W (W.setRow X n'.cs.toArray) := Kept.row hno _
  have e := oks_map (q := q) (q' := q) hm rfl
  refine ⟨below_setRow h.bel hw _, fun p hp => ?_, fun p hp => ?_⟩
  · rw [e]
    rcases hl p hp with rfl | ⟨hp, hne⟩
    · exact ⟨hb.row _, hw, hn.keep hk⟩
    · exact ⟨(h.box p hp).1.far hne _, (h.box p hp).2.1, (h.box p hp).2.2.keep hk⟩
  · rw [e]
    exact ⟨(h.pks p hp).1.far ((h.pks p hp).1.ne hb (by decide)) _, (h.pks p hp).2.1, (h.pks p hp).2.2.keep hk⟩
/-- Another packet into a box. -/
theorem Env.putp (h : Env w l q W) {X : Nat} {n n' : Pkt} (hX : (X, n) ∈ q) (hn : n'.In (oks l q) W) (hm : q'.map Prod.fst = q.map Prod.fst) (hl : ∀ p ∈ q', p = (X, n') ∨ (p ∈ q ∧ p.1 ≠ X)) : Env w l q' (W.setRow X n'.cs.toArray) := by
  obtain ⟨hb, hw, _⟩ := h.pks _ hX
  have hno : ¬ oks l q X := fun hk => hk.2 X (List.mem_map.2 ⟨_, hX, rfl⟩) rfl
  have hk : Kept (oks l q) W (W.setRow X n'.cs.toArray) := Kept.row hno _
  have e := oks_map (l := l) (l' := l) rfl hm
  refine ⟨below_setRow h.bel hw _, fun p hp => ?_, fun p hp => ?_⟩
  · rw [e]
    exact ⟨(h.box p hp).1.far ((h.box p hp).1.ne hb (by decide)) _, (h.box p hp).2.1, (h.box p hp).2.2.keep hk⟩
  · rw [e]
    rcases hl p hp with rfl | ⟨hp, hne⟩
    · exact ⟨hb.row _, hw, hn.keep hk⟩
    · exact ⟨(h.pks p hp).1.far hne _, (h.pks p hp).2.1, (h.pks p hp).2.2.keep hk⟩
/-- The first box of links, written again. -/
theorem Env.put1 {X : Nat} {n n' : Net} (h : Env w ((X, n) :: l) q W) (hn : n'.In (oks ((X, n) :: l) q) W) (hl : ∀ p ∈ l, p.1 ≠ X) : Env w ((X, n') :: l) q (W.setRow X n'.cs.toArray) :=
  h.putn (List.mem_cons_self ..) hn rfl fun p hp => by
    rcases List.mem_cons.1 hp with rfl | hp
    · exact .inl rfl
    · exact .inr ⟨List.mem_cons_of_mem _ hp, hl p hp⟩
theorem oks_sub (hl : ∀ p ∈ l', p ∈ l) (hq : ∀ p ∈ q', p ∈ q) {m : Nat} : ∀ b, b < m → oks l q b → oks l' q' b := fun b _ ho =>
  ⟨fun y hy e => by
    obtain ⟨p, hp, rfl⟩ := List.mem_map.1 hy
    exact ho.1 _ (List.mem_map.2 ⟨p, hl p hp, rfl⟩) e, fun y hy e => by
    obtain ⟨p, hp, rfl⟩ := List.mem_map.1 hy
    exact ho.2 _ (List.mem_map.2 ⟨p, hq p hp, rfl⟩) e⟩
theorem Env.sub (h : Env w l q W) (hl : ∀ p ∈ l', p ∈ l) (hq : ∀ p ∈ q', p ∈ q) : Env w l' q' W :=
  ⟨h.bel, fun p hp => ⟨(h.box p (hl p hp)).1, (h.box p (hl p hp)).2.1, (h.box p (hl p hp)).2.2.weak (oks_sub hl hq)⟩, fun p hp => ⟨(h.pks p (hq p hp)).1, (h.pks p (hq p hp)).2.1, (h.pks p (hq p hp)).2.2.weak (oks_sub hl hq)⟩⟩
/-- Two boxes, made together and then filled. -/
theorem Env.new2 (h : Env w l q W) {p : Pkt} {n : Net} (hp : p.In (oks l q) W) (hn : n.In (oks l q) W) :
    Env w ((W.heap.size + 1, n) :: l) ((W.heap.size, p) :: q) ((((W.alloc (.cells #[.int .i64 0, .int .i64 0, .slice none 0 0] 28)).alloc (.cells #[.slice none 0 0, .slice none 0 0] 25)).setRow W.heap.size p.cs.toArray).setRow (W.heap.size + 1) n.cs.toArray) := by
  have h1 := h.newp (n := ⟨0, 0, ⟨none, [], 0⟩⟩) ⟨SlIn.none W, by unfold I64; decide, by unfold I64; decide⟩
  have h2 := h1.newn (n := ⟨⟨none, [], 0⟩, ⟨none, [], 0⟩⟩) ⟨⟨SlIn.none _, fun p hp => by cases hp⟩, ⟨SlIn.none _, fun p hp => by cases hp⟩⟩
  have e : (W.alloc (.cells (Pkt.cs ⟨0, 0, ⟨none, [], 0⟩⟩).toArray 28)).heap.size = W.heap.size + 1 := by simp
  have hbl := (below_new W (.cells (Pkt.cs ⟨0, 0, ⟨none, [], 0⟩⟩).toArray 28)).trans ((below_new (W.alloc (.cells (Pkt.cs ⟨0, 0, ⟨none, [], 0⟩⟩).toArray 28)) (.cells (Net.cs ⟨⟨none, [], 0⟩, ⟨none, [], 0⟩⟩).toArray 25)).mono (by simp))
  rw [e] at h2
  have hok : ∀ b, b < W.heap.size → oks l q b → oks ((W.heap.size + 1, ⟨⟨none, [], 0⟩, ⟨none, [], 0⟩⟩) :: l) ((W.heap.size, ⟨0, 0, ⟨none, [], 0⟩⟩) :: q) b := fun b hb ho => oks_newn b (by omega) (oks_newp b hb ho)
  have hlt : ∀ x ∈ q, x.1 ≠ W.heap.size := fun x hx e => by have := (h.pks x hx).1.lt; omega
  have hlt2 : ∀ x ∈ l, x.1 ≠ W.heap.size + 1 := fun x hx e => by have := (h.box x hx).1.lt; omega
  have h3 := h2.putp (n' := p) (q' := (W.heap.size, p) :: q) (List.mem_cons_self ..) ((hp.weak hok).below hbl) rfl (fun x hx => by
    rcases List.mem_cons.1 hx with rfl | hx
    · exact .inl rfl
    · exact .inr ⟨List.mem_cons_of_mem _ hx, hlt x hx⟩)
  have hbl2 := below_setRow hbl (Nat.le_refl W.heap.size) p.cs.toArray
  have hok2 : ∀ b, b < W.heap.size → oks l q b → oks ((W.heap.size + 1, ⟨⟨none, [], 0⟩, ⟨none, [], 0⟩⟩) :: l) ((W.heap.size, p) :: q) b := fun b hb ho => oks_newn b (by omega) (oks_newp b hb ho)
  exact h3.put1 (n' := n) ((hn.weak hok2).below hbl2) hlt2
/-- The two boxes while they are filled. -/
theorem new2_blk (W : World) (p : Array Value) : Blk ((W.alloc (.cells #[.int .i64 0, .int .i64 0, .slice none 0 0] 28)).alloc (.cells #[.slice none 0 0, .slice none 0 0] 25)) W.heap.size 28 [.int .i64 0, .int .i64 0, .slice none 0 0] ∧
    Blk (((W.alloc (.cells #[.int .i64 0, .int .i64 0, .slice none 0 0] 28)).alloc (.cells #[.slice none 0 0, .slice none 0 0] 25)).setRow W.heap.size p) (W.heap.size + 1) 25 [.slice none 0 0, .slice none 0 0] := by
  have b1 := (Blk.new W 28 [.int .i64 0, .int .i64 0, .slice none 0 0]).alloc (.cells #[.slice none 0 0, .slice none 0 0] 25)
  have b2 := Blk.new (W.alloc (.cells #[.int .i64 0, .int .i64 0, .slice none 0 0] 28)) 25 [.slice none 0 0, .slice none 0 0]
  simp only [World.size_alloc] at b2
  exact ⟨b1, b2.far (by omega) _⟩
/-- An argument. -/
theorem Env.arg (h : Env w l q W) {n : Net} (hn : n.In ok w) : n.In (oks l q) W := (hn.weak fun b hb _ => h.okl b hb).below h.bel
theorem Env.argp (h : Env w l q W) {n : Pkt} (hn : n.In ok w) : n.In (oks l q) W := (hn.weak fun b hb _ => h.okl b hb).below h.bel
end
theorem cut_is {n : Net} {a b : Int} {on : Bool} {x : Nt} {k : Int} (h : n.d.cut a b on = (x, k)) {ok : Nat → Prop} (w : World) (hok : ∀ b, w.heap.size ≤ b → ok b) (hi : n.In ok w) : Calls Try.prog 18 #[n.v, .int .i64 a, .int .i64 b, .bool on] w (Ans ok w (x, k)) := h ▸ cut_any n a b on w hok hi
theorem rcut_is {n : Net} {a b : Int} {on : Bool} {x : Nt} {k : Int} (h : n.d.cut a b on = (x, k)) {ok : Nat → Prop} (w : World) (hok : ∀ b, w.heap.size ≤ b → ok b) (hi : n.In ok w) : Calls Try.prog 19 #[n.v, .int .i64 a, .int .i64 b, .bool on] w (Ans ok w (x, k)) := h ▸ rcut_any n a b on w hok hi
theorem send_is {n : Net} {p : Pkt} {x : Nt} {k : Int} (h : n.d.send p.d = (x, k)) {ok : Nat → Prop} (w : World) (hok : ∀ b, w.heap.size ≤ b → ok b) (hi : n.In ok w) (hp : p.In ok w) : Calls Try.prog 11 #[n.v, p.v] w (Ans ok w (x, k)) := h ▸ send_any n p w hok hi hp
theorem rsend_is {n : Net} {p : Pkt} {x : Nt} {k : Int} (h : n.d.send p.d = (x, k)) {ok : Nat → Prop} (w : World) (hok : ∀ b, w.heap.size ≤ b → ok b) (hi : n.In ok w) (hp : p.In ok w) : Calls Try.prog 12 #[n.v, p.v] w (Ans ok w (x, k)) := h ▸ rsend_any n p w hok hi hp
theorem lose_is {n : Net} {i : Int} {x : Nt} {k : Int} (h : n.d.lose i = (x, k)) {ok : Nat → Prop} (w : World) (hok : ∀ b, w.heap.size ≤ b → ok b) (hi : n.In ok w) : Calls Try.prog 23 #[n.v, .int .i64 i] w (Ans ok w (x, k)) := h ▸ lose_any n i w hok hi
theorem rlose_is {n : Net} {i : Int} {x : Nt} {k : Int} (h : n.d.lose i = (x, k)) {ok : Nat → Prop} (w : World) (hok : ∀ b, w.heap.size ≤ b → ok b) (hi : n.In ok w) : Calls Try.prog 24 #[n.v, .int .i64 i] w (Ans ok w (x, k)) := h ▸ rlose_any n i w hok hi
theorem again_is {n : Net} {i : Int} {x : Nt} {k : Int} (h : n.d.again i = (x, k)) {ok : Nat → Prop} (w : World) (hok : ∀ b, w.heap.size ≤ b → ok b) (hi : n.In ok w) : Calls Try.prog 25 #[n.v, .int .i64 i] w (Ans ok w (x, k)) := h ▸ again_any n i w hok hi
theorem ragain_is {n : Net} {i : Int} {x : Nt} {k : Int} (h : n.d.again i = (x, k)) {ok : Nat → Prop} (w : World) (hok : ∀ b, w.heap.size ≤ b → ok b) (hi : n.In ok w) : Calls Try.prog 26 #[n.v, .int .i64 i] w (Ans ok w (x, k)) := h ▸ ragain_any n i w hok hi
theorem give_is {n : Net} {i : Int} {p : Pk} {x : Nt} {k : Int} (h : n.d.give i = (p, x, k)) {ok : Nat → Prop} (w : World) (hok : ∀ b, w.heap.size ≤ b → ok b) (hi : n.In ok w) : Calls Try.prog 20 #[n.v, .int .i64 i] w (AnsP ok w (p, x, k)) := h ▸ give_any n i w hok hi
theorem rgive_is {n : Net} {i : Int} {p : Pk} {x : Nt} {k : Int} (h : n.d.give i = (p, x, k)) {ok : Nat → Prop} (w : World) (hok : ∀ b, w.heap.size ≤ b → ok b) (hi : n.In ok w) : Calls Try.prog 21 #[n.v, .int .i64 i] w (AnsP ok w (p, x, k)) := h ▸ rgive_any n i w hok hi
theorem chk_is {n : Net} {k : Int} (h : n.d.chkI = k) {ok : Nat → Prop} (w : World) (hi : n.In ok w) : Calls Try.prog 13 #[n.v] w fun e w' => e = .returned (.int .i64 k) ∧ Below w.heap.size w w' := h ▸ check_any n w hi
theorem rchk_is {n : Net} {k : Int} (h : n.d.chkI = k) {ok : Nat → Prop} (w : World) (hi : n.In ok w) : Calls Try.prog 14 #[n.v] w fun e w' => e = .returned (.int .i64 k) ∧ Below w.heap.size w w' := h ▸ rcheck_any n w hi
end Go.Proofs.Ythmaakiibgdigaa
