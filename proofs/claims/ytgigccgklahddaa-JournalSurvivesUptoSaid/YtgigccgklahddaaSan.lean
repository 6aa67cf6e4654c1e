/- Disks and journals that lie in boxes, in a later world. -/
import Derived.Test.YtgigccgklahddaaVal
import Derived.Test.YtgigccgklahddaaSam
import Derived.Deep.CutRange
import Derived.Deep.CutBlock
import Derived.Deep.Cut
import Derived.Lib.SmallJoins
namespace Go.Proofs.Ytgigccgklahddaa
open Go.RowKit
variable {n0 : Nat}

/-- Disks and journals that lie in boxes, and bytes, in a later world. -/
structure Env (n0 : Nat) (w : World) (l : List (Nat × Dsk)) (q : List (Nat × Jr)) (m : List Sec) (W : World) : Prop where
  bel : Below w.heap.size w W
  box : ∀ p ∈ l, Blk W p.1 25 p.2.cs ∧ w.heap.size ≤ p.1 ∧ n0 ≤ p.1 ∧ p.2.In n0 W
  jou : ∀ p ∈ q, Blk W p.1 29 p.2.cs ∧ w.heap.size ≤ p.1 ∧ n0 ≤ p.1 ∧ p.2.In n0 W
  secs : ∀ s ∈ m, s.In n0 W
theorem Jr.In.keepT {X T0 : Nat} {cs : List Value} {j : Jr} {W W' : World} (h : j.In n0 W) (hX : Blk W X T0 cs) (hT : T0 ≠ 5 ∧ T0 ≠ 35 ∧ T0 ≠ 77) (hn : n0 ≤ X) (hg : W.grownBy W' (some X)) : j.In n0 W' :=
  ⟨⟨h.recs.cels.keepT hX hT hn hg, fun s hs => (h.recs.each s hs).keepT hX hT hn hg, h.recs.le, h.recs.top, h.recs.nil⟩, h.many, h.synced, h.short, h.few⟩
section
variable {w W W' : World} {l : List (Nat × Dsk)} {q : List (Nat × Jr)} {m : List Sec}
theorem Env.start (w : World) : Env n0 w [] [] [] w := ⟨Below.refl _ _, fun p hp => (by cases hp), fun p hp => (by cases hp), fun p hp => (by cases hp)⟩
theorem Env.below (h : Env n0 w l q m W) (hb : Below W.heap.size W W') : Env n0 w l q m W' :=
  ⟨below_one h.bel hb, fun p hp => ⟨(h.box p hp).1.below hb (h.box p hp).1.lt, (h.box p hp).2.1, (h.box p hp).2.2.1, (h.box p hp).2.2.2.below hb⟩, fun p hp => ⟨(h.jou p hp).1.below hb (h.jou p hp).1.lt, (h.jou p hp).2.1, (h.jou p hp).2.2.1, (h.jou p hp).2.2.2.below hb⟩, fun s hs => (h.secs s hs).below hb⟩
theorem Env.drew (h : Env n0 w l q m W) : Env n0 w l q m W.drew := h.below (Below.refl _ _).drew
theorem Env.alloc (h : Env n0 w l q m W) (o : Obj) : Env n0 w l q m (W.alloc o) := h.below (below_new _ _)
/-- A new box for a disk. -/
theorem Env.newd (h : Env n0 w l q m W) (hn : n0 ≤ w.heap.size) {d : Dsk} (hd : d.In n0 W) : Env n0 w ((W.heap.size, d) :: l) q m (W.alloc (.cells d.cs.toArray 25)) := by
  have h' := h.alloc (.cells d.cs.toArray 25)
  refine ⟨h'.bel, fun p hp => ?_, h'.jou, h'.secs⟩
  rcases List.mem_cons.1 hp with rfl | hp
  · exact ⟨Blk.new W 25 d.cs, h.bel.size, Nat.le_trans hn h.bel.size, hd.below (below_new _ _)⟩
  · exact h'.box p hp
/-- A new box for a journal. -/
theorem Env.newj (h : Env n0 w l q m W) (hn : n0 ≤ w.heap.size) {j : Jr} (hj : j.In n0 W) : Env n0 w l ((W.heap.size, j) :: q) m (W.alloc (.cells j.cs.toArray 29)) := by
  have h' := h.alloc (.cells j.cs.toArray 29)
  refine ⟨h'.bel, h'.box, fun p hp => ?_, h'.secs⟩
  rcases List.mem_cons.1 hp with rfl | hp
  · exact ⟨Blk.new W 29 j.cs, h.bel.size, Nat.le_trans hn h.bel.size, hj.below (below_new _ _)⟩
  · exact h'.jou p hp
theorem Env.add (h : Env n0 w l q m W) {s : Sec} (hs : s.In n0 W) : Env n0 w l q (s :: m) W :=
  ⟨h.bel, h.box, h.jou, fun t ht => by
    rcases List.mem_cons.1 ht with rfl | ht
    · exact hs
    · exact h.secs t ht⟩
/-- Another disk into a box. -/
theorem Env.putd (h : Env n0 w l q m W) {X : Nat} {d d' : Dsk} (hX : (X, d) ∈ l) (hd : d'.In n0 W) {l' : List (Nat × Dsk)} (hl : ∀ p ∈ l', p = (X, d') ∨ (p ∈ l ∧ p.1 ≠ X)) : Env n0 w l' q m (W.setRow X d'.cs.toArray) := by
  obtain ⟨hb, hw, hn, _⟩ := h.box _ hX
  have hg : W.grownBy (W.setRow X d'.cs.toArray) (some X) := only_setRow (only_refl _ _) (.inl rfl) _
  refine ⟨below_setRow h.bel hw _, fun p hp => ?_, fun p hp => ?_, fun s hs => (h.secs s hs).keep hb hn hg⟩
  · rcases hl p hp with rfl | ⟨hp, hne⟩
    · exact ⟨hb.row _, hw, hn, hd.keep hb hn hg⟩
    · exact ⟨(h.box p hp).1.far hne _, (h.box p hp).2.1, (h.box p hp).2.2.1, (h.box p hp).2.2.2.keep hb hn hg⟩
  · exact ⟨(h.jou p hp).1.far ((h.jou p hp).1.ne hb (by decide)) _, (h.jou p hp).2.1, (h.jou p hp).2.2.1, (h.jou p hp).2.2.2.keepT hb (by decide) hn hg⟩
/-- Another journal into a box. -/
theorem Env.putj (h : Env n0 w l q m W) {X : Nat} {d d' : Jr} (hX : (X, d) ∈ q) (hd : d'.In n0 W) {q' : List (Nat × Jr)} (hl : ∀ p ∈ q', p = (X, d') ∨ (p ∈ q ∧ p.1 ≠ X)) : Env n0 w l q' m (W.setRow X d'.cs.toArray) := by
  obtain ⟨hb, hw, hn, _⟩ := h.jou _ hX
  have hg : W.grownBy (W.setRow X d'.cs.toArray) (some X) := only_setRow (only_refl _ _) (.inl rfl) _
  refine ⟨below_setRow h.bel hw _, fun p hp => ?_, fun p hp => ?_, fun s hs => (h.secs s hs).keepT hb (by decide) hn hg⟩
  · exact ⟨(h.box p hp).1.far ((h.box p hp).1.ne hb (by decide)) _, (h.box p hp).2.1, (h.box p hp).2.2.1, (h.box p hp).2.2.2.keepT hb (by decide) hn hg⟩
  · rcases hl p hp with rfl | ⟨hp, hne⟩
    · exact ⟨hb.row _, hw, hn, hd.keepT hb (by decide) hn hg⟩
    · exact ⟨(h.jou p hp).1.far hne _, (h.jou p hp).2.1, (h.jou p hp).2.2.1, (h.jou p hp).2.2.2.keepT hb (by decide) hn hg⟩
theorem Env.sub (h : Env n0 w l q m W) {l' : List (Nat × Dsk)} {q' : List (Nat × Jr)} {m' : List Sec} (hl : ∀ p ∈ l', p ∈ l) (hq : ∀ p ∈ q', p ∈ q) (hm : ∀ p ∈ m', p ∈ m) : Env n0 w l' q' m' W := ⟨h.bel, fun p hp => h.box p (hl p hp), fun p hp => h.jou p (hq p hp), fun s hs => h.secs s (hm s hs)⟩
end
/-- A byte slice of the call's own. -/
theorem blk_in {W : World} {b : Nat} {l : List UInt8} {cap : Nat} (h : Blk W b 5 (bs l)) (hc : l.length ≤ cap) (hm : cap ≤ 9223372036854775807) : Sec.In n0 ⟨some ⟨b, 0, none⟩, l, cap⟩ W :=
  ⟨by have := Blk.cels (n0 := n0) (xs := bs l) (cs := []) (by rw [List.append_nil]; exact h) (by omega); exact this, hc, hm, fun e => by cases e⟩
theorem append_is {j : Jr} {b : Sec} {x y : Jk} {l : List UInt8} {n : Int} (w : World) (hd : j.k = x) (hbl : b.l = l) (h : x.append l = (y, n)) (hi : j.In n0 w) (hb : b.In n0 w) (hl : l.length ≤ 140737488355328) :
    Calls Try.prog 15 #[j.v, b.v] w fun e w' => ∃ j' : Jr, e = .returned (.tuple #[j'.v, .int .i64 n]) ∧ j'.k = y ∧ j'.In n0 w' ∧ Below w.heap.size w w' :=
  (jappend_any j b w hi hb (by rw [hbl]; exact hl)).mono fun e w' ⟨d', h1, h2, h3, h4⟩ => by
    rw [hd, hbl, h] at h1 h2
    exact ⟨d', h1, h2, h3, h4⟩
theorem open_is {d : Dsk} {x : Dk} {y : Jk} {n : Int} (w : World) (hd : d.d = x) (h : x.jopen = (y, n)) (hi : d.In n0 w) :
    Calls Try.prog 12 #[d.v] w fun e w' => ∃ j' : Jr, e = .returned (.tuple #[j'.v, .int .i64 n]) ∧ j'.k = y ∧ j'.In n0 w' ∧ Below w.heap.size w w' :=
  (open_any d w hi).mono fun e w' ⟨d', h1, h2, h3, h4⟩ => by
    rw [hd, h] at h1 h2
    exact ⟨d', h1, h2, h3, h4⟩
theorem jsync_is {j : Jr} {d : Dsk} {x y : Jk} {u v : Dk} {n : Int} (w : World) (hn0 : n0 ≤ w.heap.size) (hj : j.k = x) (hd : d.d = u) (h : jsyncB x u = (y, v, n)) (hi : j.In n0 w) (hi2 : d.In n0 w) :
    Calls Try.prog 21 #[j.v, d.v] w fun e w' => ∃ (j' : Jr) (d' : Dsk), e = .returned (.tuple #[j'.v, d'.v, .int .i64 n]) ∧ j'.k = y ∧ d'.d = v ∧ j'.In n0 w' ∧ d'.In n0 w' ∧ Below w.heap.size w w' :=
  (jsync_any j d w hn0 hi hi2).mono fun e w' ⟨j', d', h1, h2, h3, h4⟩ => by
    rw [hj, hd, h] at h1 h2 h3
    exact ⟨j', d', h1, h2, h3, h4⟩
end Go.Proofs.Ytgigccgklahddaa

/- sane. -/
namespace Go.Proofs.Ytgigccgklahddaa
open Go.RowKit
theorem Blk.c3 {w : World} {X T : Nat} {v0 v1 v2 : Value} (h : Blk w X T [v0, v1, v2]) : w.cell? ⟨X, 0, none⟩ = some v0 ∧ w.cell? ⟨X, 1, none⟩ = some v1 ∧ w.cell? ⟨X, 2, none⟩ = some v2 := ⟨h.cell 0, h.cell 1, h.cell 2⟩
def z113 : List UInt8 := List.replicate 113 0
theorem z113_len : z113.length = 113 := by simp [z113]
theorem make113 (W : World) : (Instr.makeSlice 35 (.int .i64 113) (.int .i64 113)).run Try.prog W = .ok (.slice (some ⟨W.heap.size, 0, none⟩) 113 113) (W.alloc (.cells (bs z113).toArray 5)) := by
  have := make_bytes 113 (by omega) W
  unfold z113
  exact this
attribute [irreducible] z113
theorem conv_ab (W : World) : (convert 35 35 (.slice (some ⟨W.heap.size, 0, none⟩) 2 2)).run Try.prog (W.alloc (.cells #[.int .u8 97, .int .u8 98] 5)) = .ok (.slice (some ⟨W.heap.size, 0, none⟩) 2 2) (W.alloc (.cells #[.int .u8 97, .int .u8 98] 5 (2, 3))) :=
  Go.Joins.run_convert_bytes_const_at W 35 5 #[.int .u8 97, .int .u8 98] 2 2 _ rfl Try.underlying35 Try.underlying5
theorem ab_in (W : World) : Sec.In (W.heap.size + 1) ⟨some ⟨W.heap.size, 0, none⟩, ab, 2⟩ (W.alloc (.cells #[.int .u8 97, .int .u8 98] 5 (2, 3))) :=
  ⟨fun _ => ⟨W.heap.size, 0, rfl, by simp, .inl (by omega), fun i hi => by
    rw [Nat.zero_add, World.cell?_alloc_mark]
    match i, hi with
    | 0, _ => rfl
    | 1, _ => rfl⟩, Nat.le_refl _, by show (2 : Nat) ≤ 9223372036854775807; decide, fun e => by cases e⟩
theorem Okb.raise {n0 n1 : Nat} {W : World} {b : Nat} (h : Okb n0 W b) (hn : n0 ≤ n1) : Okb n1 W b := h.imp_left fun h => Nat.lt_of_lt_of_le h hn
theorem Cels.raise {n0 n1 : Nat} {W : World} {A : Option Addr} {vs : List Value} (h : Cels n0 W A vs) (hn : n0 ≤ n1) : Cels n1 W A vs := fun hne => by
  obtain ⟨b, o, h1, h2, h3, h4⟩ := h hne
  exact ⟨b, o, h1, h2, h3.raise hn, h4⟩
theorem Sec.In.raise {n0 n1 : Nat} {W : World} {s : Sec} (h : s.In n0 W) (hn : n0 ≤ n1) : s.In n1 W := ⟨h.cels.raise hn, h.le, h.cap, h.nil⟩
theorem SecsIn.raise {n0 n1 : Nat} {W : World} {A : Option Addr} {l : List Sec} {c : Nat} (h : SecsIn n0 A l c W) (hn : n0 ≤ n1) : SecsIn n1 A l c W := ⟨h.cels.raise hn, fun s hs => (h.each s hs).raise hn, h.le, h.top, h.nil⟩
theorem Dsk.In.raise {n0 n1 : Nat} {W : World} {d : Dsk} (h : d.In n0 W) (hn : n0 ≤ n1) : d.In n1 W := ⟨h.sec.raise hn, ⟨h.pen.cels.raise hn, fun p hp => ⟨(h.pen.each p hp).1.raise hn, (h.pen.each p hp).2⟩, h.pen.le, h.pen.top, h.pen.nil⟩, h.left⟩
theorem Jr.In.raise {n0 n1 : Nat} {W : World} {j : Jr} (h : j.In n0 W) (hn : n0 ≤ n1) : j.In n1 W := ⟨h.recs.raise hn, h.many, h.synced, h.short, h.few⟩
theorem jr_nil {j : Jr} {m s : Int} (h : j.k = ⟨[], m, s⟩) : ∃ A c, j = ⟨A, [], c, m, s⟩ := by
  obtain ⟨A, rs, c, m', s'⟩ := j
  simp only [Jr.k, Jk.mk.injEq] at h
  obtain ⟨h1, rfl, rfl⟩ := h
  obtain rfl : rs = [] := by
    have := congrArg List.length h1
    rw [secD_len] at this
    exact List.eq_nil_of_length_eq_zero this
  exact ⟨A, c, rfl⟩
theorem jr_one {j : Jr} {l : List UInt8} {m s : Int} (h : j.k = ⟨[l], m, s⟩) : ∃ A c t, j = ⟨A, [t], c, m, s⟩ ∧ t.l = l := by
  obtain ⟨A, rs, c, m', s'⟩ := j
  simp only [Jr.k, Jk.mk.injEq] at h
  obtain ⟨h1, rfl, rfl⟩ := h
  match rs, h1 with
  | [t], h1 => exact ⟨A, c, t, rfl, by simpa [secD] using h1⟩
  | [], h1 => simp [secD] at h1
  | a :: b :: r, h1 => simp [secD] at h1
/-- What lies in boxes, and is not written again. -/
structure Lie (n0 : Nat) (w : World) (l : List (Nat × Dsk)) (q : List (Nat × Jr)) (W : World) : Prop where
  bel : Below w.heap.size w W
  box : ∀ p ∈ l, Blk W p.1 25 p.2.cs ∧ p.2.In n0 W
  jou : ∀ p ∈ q, Blk W p.1 29 p.2.cs ∧ p.2.In n0 W
section
variable {n0 n1 : Nat} {w W W' : World} {l : List (Nat × Dsk)} {q : List (Nat × Jr)}
theorem Lie.start (w : World) : Lie n0 w [] [] w := ⟨Below.refl _ _, fun p hp => (by cases hp), fun p hp => (by cases hp)⟩
theorem Lie.below (h : Lie n0 w l q W) (hb : Below W.heap.size W W') : Lie n0 w l q W' :=
  ⟨below_one h.bel hb, fun p hp => ⟨(h.box p hp).1.below hb (h.box p hp).1.lt, (h.box p hp).2.below hb⟩, fun p hp => ⟨(h.jou p hp).1.below hb (h.jou p hp).1.lt, (h.jou p hp).2.below hb⟩⟩
theorem Lie.raise (h : Lie n0 w l q W) (hn : n0 ≤ n1) : Lie n1 w l q W := ⟨h.bel, fun p hp => ⟨(h.box p hp).1, (h.box p hp).2.raise hn⟩, fun p hp => ⟨(h.jou p hp).1, (h.jou p hp).2.raise hn⟩⟩
theorem Lie.newd (h : Lie n0 w l q W) {d : Dsk} (hd : d.In n0 W) : Lie n0 w ((W.heap.size, d) :: l) q (W.alloc (.cells d.cs.toArray 25)) := by
  have h' := h.below (below_new W (.cells d.cs.toArray 25))
  refine ⟨h'.bel, fun p hp => ?_, h'.jou⟩
  rcases List.mem_cons.1 hp with rfl | hp
  · exact ⟨Blk.new W 25 d.cs, hd.below (below_new _ _)⟩
  · exact h'.box p hp
theorem Lie.newj (h : Lie n0 w l q W) {j : Jr} (hj : j.In n0 W) : Lie n0 w l ((W.heap.size, j) :: q) (W.alloc (.cells j.cs.toArray 29)) := by
  have h' := h.below (below_new W (.cells j.cs.toArray 29))
  refine ⟨h'.bel, h'.box, fun p hp => ?_⟩
  rcases List.mem_cons.1 hp with rfl | hp
  · exact ⟨Blk.new W 29 j.cs, hj.below (below_new _ _)⟩
  · exact h'.jou p hp
end

set_option maxRecDepth 100000 in
set_option maxHeartbeats 6400000 in
theorem sane_any (w : World) : Calls Try.prog 10 #[] w fun e w' => e = .returned (.bool true) ∧ Below w.heap.size w w' := by
  have HN := hide (new_ok (n0 := w.heap.size) 1 w (by decide) (by decide))
  go_enter Try.func10, Try.ntmps10
  go_wp2_with fail
  refine HN.out.mono ?_
  rintro e w1 ⟨z0, rfl, hz0, hi0, hb1⟩
  have HZ0 := hide (show z0.d = d0 from hz0)
  have H1 := hide (((Lie.start (n0 := w.heap.size) w).below hb1).newd hi0)
  clear HN hz0 hi0 hb1
  obtain ⟨hbx, hix⟩ := H1.out.box (w1.heap.size, z0) (by simp)
  obtain ⟨c0, c1, c2, c3⟩ := hbx.c4
  have HO := hide (open_is _ HZ0.out open_d0 hix)
  clear hbx hix
  go_wp2_with fail
  refine HO.out.mono ?_
  rintro e w2 ⟨j0, rfl, hj, hi, hb⟩
  have HJ0 := hide hj
  have H2 := hide ((H1.out.below hb).newj hi)
  clear hj hi hb c0 c1 c2 c3 HO H1
  obtain ⟨hbj, hij⟩ := H2.out.jou (w2.heap.size, j0) (by simp)
  obtain ⟨c0, c1, c2⟩ := hbj.c3
  have HLT := hide hbj.lt
  have HA1 := hide (show ∀ W X, Below (w2.alloc (.cells j0.cs.toArray 29)).heap.size (w2.alloc (.cells j0.cs.toArray 29)) W → Blk W X 5 (bs z113) → Calls Try.prog 15 #[j0.v, .slice (some ⟨X, 0, none⟩) 113 113] W fun e w' => ∃ j' : Jr, e = .returned (.tuple #[j'.v, .int .i64 2]) ∧ j'.k = Jk.zero ∧ j'.In w.heap.size w' ∧ Below W.heap.size W w' from fun W X hW hX => by
    have := append_is (j := j0) (b := ⟨some ⟨X, 0, none⟩, z113, 113⟩) (n := 2) W HJ0.out rfl (append_113 z113_len) (hij.below hW) (blk_in (n0 := w.heap.size) hX (by rw [z113_len]; decide) (by decide)) (by rw [z113_len]; decide)
    simp only [Sec.v, z113_len] at this
    exact this)
  have hmk := make113
  clear hbj hij
  go_upto_region 3 with (fail)
  generalize w2.alloc (.cells j0.cs.toArray 29) = w3 at *
  go_cut [5, 6] from 26 to 31 (fun _ y W => y = .int .i64 2 ∧ Hid (Below w3.heap.size w3 W))
  case first =>
    have H0 := hide (show Below w3.heap.size w3 w3.drew from (Below.refl _ _).drew)
    refine wp_region_plan3 (fun w' => Below w3.heap.size w3 w') (.take 0 (.both 1 (.both 2 (.take 3 (.take 4 (.take 5 (.run 6 (.run 7 (.run 8 .done)))))) 6 (.run 2 (.take 3 (.take 4 (.take 5 (.run 7 (.run 8 .done))))))) 6 (.run 1 (.run 2 (.take 3 (.take 4 (.take 5 (.run 7 (.run 8 .done))))))))) (by kernel_rfl) (by kernel_rfl) ((Below.refl _ _).drew) ?_
    generalize w3.drew = wD at H0 ⊢
    (refine plan3_take (o := ?_) (v := ?_) (by simp only [List.getElem?_toArray, List.getElem?_cons_zero]; rfl) (yields_run (by rfl) ?_) ?_; rotate_left; (focus (intro w' hw'; have q0 := (hw'.cell (p := ⟨w2.heap.size, 0, none⟩) HLT.out).trans c0; have q1 := (hw'.cell (p := ⟨w2.heap.size, 1, none⟩) HLT.out).trans c1; have q2 := (hw'.cell (p := ⟨w2.heap.size, 2, none⟩) HLT.out).trans c2; go_simp <;> with_reducible rfl)); (simp only [Act.put, List.setIfInBounds_toArray, List.set_cons_zero, List.set_cons_succ]))
    refine plan3_both (o1 := ?_) (o2 := ?_) (by simp only [List.getElem?_toArray, List.getElem?_cons_succ, List.getElem?_cons_zero]; rfl) (by simp only [List.getElem?_toArray, List.getElem?_cons_succ, List.getElem?_cons_zero]; rfl) ?_ ?_
    · intro R HR
      have HS1 := hide (H0.out.alloc H0.out.size (.cells (bs z113).toArray 5))
      have HB1 := hide (Blk.new wD 5 (bs z113))
      try simp only [World.size_alloc] at HB1
      go_wp2_with fail
      refine HR.out _ _ HS1.out ?_
      clear HR
      refine plan3_both (o1 := ?_) (o2 := ?_) (by simp only [List.getElem?_toArray, List.getElem?_cons_succ, List.getElem?_cons_zero]; rfl) (by simp only [List.getElem?_toArray, List.getElem?_cons_succ, List.getElem?_cons_zero]; rfl) ?_ ?_
      · intro R HR
        go_wp2_with fail
        (with_reducible refine (HA1.out _ _ HS1.out HB1.out).mono ?_)
        rintro e v2 ⟨x2, rfl, hd, hi, hb⟩
        have HS2 := hide (below_one HS1.out hb)
        clear hd hi hb
        go_wp2_with fail
        refine HR.out _ _ HS2.out ?_
        clear HR
        (refine plan3_take (o := ?_) (v := ?_) (by simp only [List.getElem?_toArray, List.getElem?_cons_succ, List.getElem?_cons_zero]; rfl) (yields_run (by rfl) ?_) ?_; rotate_left; (focus (intro w' _; go_simp <;> with_reducible rfl)); (simp only [Act.put, List.setIfInBounds_toArray, List.set_cons_zero, List.set_cons_succ]))
        (refine plan3_take (o := ?_) (v := ?_) (by simp only [List.getElem?_toArray, List.getElem?_cons_succ, List.getElem?_cons_zero]; rfl) (yields_run (by rfl) ?_) ?_; rotate_left; (focus (intro w' _; go_simp <;> with_reducible rfl)); (simp only [Act.put, List.setIfInBounds_toArray, List.set_cons_zero, List.set_cons_succ]))
        (refine plan3_take (o := ?_) (v := ?_) (by simp only [List.getElem?_toArray, List.getElem?_cons_succ, List.getElem?_cons_zero]; rfl) (yields_run (by rfl) ?_) ?_; rotate_left; (focus (intro w' _; go_simp <;> with_reducible rfl)); (simp only [Act.put, List.setIfInBounds_toArray, List.set_cons_zero, List.set_cons_succ]))
        refine plan3_run (o := ?_) (by simp only [List.getElem?_toArray, List.getElem?_cons_succ, List.getElem?_cons_zero]; rfl) ?_
        intro R HR
        have HS3 := hide (HS2.out.alloc HS2.out.size (.cells #[.slice none 0 0, .int .i64 0, .int .i64 0] 29))
        have HX3 := hide (Blk.new v2 29 [.slice none 0 0, .int .i64 0, .int .i64 0])
        have HZ3 := hide HS2.out.size
        try simp only [World.size_alloc] at HX3
        try simp only [World.size_alloc] at HZ3
        have HB3 := hide (HB1.out.alloc (.cells #[.slice none 0 0, .int .i64 0, .int .i64 0] 29))
        go_wp2_with fail
        refine HR.out _ _ HS3.out ?_
        clear HR
        refine plan3_run (o := ?_) (by simp only [List.getElem?_toArray, List.getElem?_cons_succ, List.getElem?_cons_zero]; rfl) ?_
        intro R HR
        have HS4 := hide (below_setRow HS3.out HZ3.out #[.slice x2.A x2.rs.length x2.cap, .int .i64 x2.many, .int .i64 x2.synced])
        refine wpList_store_row rfl 29 (.tmp 5) (.tmp 30) rfl _ #[.slice x2.A x2.rs.length x2.cap, .int .i64 x2.many, .int .i64 x2.synced] rfl rfl 29 _ HX3.out Try.size29 rfl (one29 _ _ _ _ _) ?_
        refine HR.out _ _ HS4.out ?_
        clear HR
        refine plan3_run (o := ?_) (by simp only [List.getElem?_toArray, List.getElem?_cons_succ, List.getElem?_cons_zero]; rfl) ?_
        intro R HR
        go_wp2_with fail
        refine HR.out _ _ HS4.out ?_
        clear HR
        refine plan3_done ?_
        go_wp2_with fail
        go_meet
        case rel => exact ⟨rfl, HS4⟩
      · intro R HR
        have HS2 := hide (HS1.out.alloc HS1.out.size (.cells #[.slice none 0 0, .int .i64 0, .int .i64 0] 29))
        have HX2 := hide (Blk.new (wD.alloc (.cells (bs z113).toArray 5)) 29 [.slice none 0 0, .int .i64 0, .int .i64 0])
        have HZ2 := hide HS1.out.size
        try simp only [World.size_alloc] at HX2
        try simp only [World.size_alloc] at HZ2
        have HB2 := hide (HB1.out.alloc (.cells #[.slice none 0 0, .int .i64 0, .int .i64 0] 29))
        go_wp2_with fail
        refine HR.out _ _ HS2.out ?_
        clear HR
        refine plan3_run (o := ?_) (by simp only [List.getElem?_toArray, List.getElem?_cons_succ, List.getElem?_cons_zero]; rfl) ?_
        intro R HR
        go_wp2_with fail
        (with_reducible refine (HA1.out _ _ HS2.out HB2.out).mono ?_)
        rintro e v3 ⟨x3, rfl, hd, hi, hb⟩
        have HS3 := hide (below_one HS2.out hb)
        have HX3 := hide (HX2.out.below hb HX2.out.lt)
        clear hd hi hb
        go_wp2_with fail
        refine HR.out _ _ HS3.out ?_
        clear HR
        (refine plan3_take (o := ?_) (v := ?_) (by simp only [List.getElem?_toArray, List.getElem?_cons_succ, List.getElem?_cons_zero]; rfl) (yields_run (by rfl) ?_) ?_; rotate_left; (focus (intro w' _; go_simp <;> with_reducible rfl)); (simp only [Act.put, List.setIfInBounds_toArray, List.set_cons_zero, List.set_cons_succ]))
        (refine plan3_take (o := ?_) (v := ?_) (by simp only [List.getElem?_toArray, List.getElem?_cons_succ, List.getElem?_cons_zero]; rfl) (yields_run (by rfl) ?_) ?_; rotate_left; (focus (intro w' _; go_simp <;> with_reducible rfl)); (simp only [Act.put, List.setIfInBounds_toArray, List.set_cons_zero, List.set_cons_succ]))
        (refine plan3_take (o := ?_) (v := ?_) (by simp only [List.getElem?_toArray, List.getElem?_cons_succ, List.getElem?_cons_zero]; rfl) (yields_run (by rfl) ?_) ?_; rotate_left; (focus (intro w' _; go_simp <;> with_reducible rfl)); (simp only [Act.put, List.setIfInBounds_toArray, List.set_cons_zero, List.set_cons_succ]))
        refine plan3_run (o := ?_) (by simp only [List.getElem?_toArray, List.getElem?_cons_succ, List.getElem?_cons_zero]; rfl) ?_
        intro R HR
        have HS4 := hide (below_setRow HS3.out HZ2.out #[.slice x3.A x3.rs.length x3.cap, .int .i64 x3.many, .int .i64 x3.synced])
        refine wpList_store_row rfl 29 (.tmp 5) (.tmp 30) rfl _ #[.slice x3.A x3.rs.length x3.cap, .int .i64 x3.many, .int .i64 x3.synced] rfl rfl 29 _ HX3.out Try.size29 rfl (one29 _ _ _ _ _) ?_
        refine HR.out _ _ HS4.out ?_
        clear HR
        refine plan3_run (o := ?_) (by simp only [List.getElem?_toArray, List.getElem?_cons_succ, List.getElem?_cons_zero]; rfl) ?_
        intro R HR
        go_wp2_with fail
        refine HR.out _ _ HS4.out ?_
        clear HR
        refine plan3_done ?_
        go_wp2_with fail
        go_meet
        case rel => exact ⟨rfl, HS4⟩
    · intro R HR
      have HS1 := hide (H0.out.alloc H0.out.size (.cells #[.slice none 0 0, .int .i64 0, .int .i64 0] 29))
      have HX1 := hide (Blk.new wD 29 [.slice none 0 0, .int .i64 0, .int .i64 0])
      have HZ1 := hide H0.out.size
      try simp only [World.size_alloc] at HX1
      try simp only [World.size_alloc] at HZ1
      go_wp2_with fail
      refine HR.out _ _ HS1.out ?_
      clear HR
      refine plan3_run (o := ?_) (by simp only [List.getElem?_toArray, List.getElem?_cons_succ, List.getElem?_cons_zero]; rfl) ?_
      intro R HR
      have HS2 := hide (HS1.out.alloc HS1.out.size (.cells (bs z113).toArray 5))
      have HB2 := hide (Blk.new (wD.alloc (.cells #[.slice none 0 0, .int .i64 0, .int .i64 0] 29)) 5 (bs z113))
      try simp only [World.size_alloc] at HB2
      have HX2 := hide (HX1.out.alloc (.cells (bs z113).toArray 5))
      go_wp2_with fail
      refine HR.out _ _ HS2.out ?_
      clear HR
      refine plan3_run (o := ?_) (by simp only [List.getElem?_toArray, List.getElem?_cons_succ, List.getElem?_cons_zero]; rfl) ?_
      intro R HR
      go_wp2_with fail
      (with_reducible refine (HA1.out _ _ HS2.out HB2.out).mono ?_)
      rintro e v3 ⟨x3, rfl, hd, hi, hb⟩
      have HS3 := hide (below_one HS2.out hb)
      have HX3 := hide (HX2.out.below hb HX2.out.lt)
      clear hd hi hb
      go_wp2_with fail
      refine HR.out _ _ HS3.out ?_
      clear HR
      (refine plan3_take (o := ?_) (v := ?_) (by simp only [List.getElem?_toArray, List.getElem?_cons_succ, List.getElem?_cons_zero]; rfl) (yields_run (by rfl) ?_) ?_; rotate_left; (focus (intro w' _; go_simp <;> with_reducible rfl)); (simp only [Act.put, List.setIfInBounds_toArray, List.set_cons_zero, List.set_cons_succ]))
      (refine plan3_take (o := ?_) (v := ?_) (by simp only [List.getElem?_toArray, List.getElem?_cons_succ, List.getElem?_cons_zero]; rfl) (yields_run (by rfl) ?_) ?_; rotate_left; (focus (intro w' _; go_simp <;> with_reducible rfl)); (simp only [Act.put, List.setIfInBounds_toArray, List.set_cons_zero, List.set_cons_succ]))
      (refine plan3_take (o := ?_) (v := ?_) (by simp only [List.getElem?_toArray, List.getElem?_cons_succ, List.getElem?_cons_zero]; rfl) (yields_run (by rfl) ?_) ?_; rotate_left; (focus (intro w' _; go_simp <;> with_reducible rfl)); (simp only [Act.put, List.setIfInBounds_toArray, List.set_cons_zero, List.set_cons_succ]))
      refine plan3_run (o := ?_) (by simp only [List.getElem?_toArray, List.getElem?_cons_succ, List.getElem?_cons_zero]; rfl) ?_
      intro R HR
      have HS4 := hide (below_setRow HS3.out HZ1.out #[.slice x3.A x3.rs.length x3.cap, .int .i64 x3.many, .int .i64 x3.synced])
      refine wpList_store_row rfl 29 (.tmp 5) (.tmp 30) rfl _ #[.slice x3.A x3.rs.length x3.cap, .int .i64 x3.many, .int .i64 x3.synced] rfl rfl 29 _ HX3.out Try.size29 rfl (one29 _ _ _ _ _) ?_
      refine HR.out _ _ HS4.out ?_
      clear HR
      refine plan3_run (o := ?_) (by simp only [List.getElem?_toArray, List.getElem?_cons_succ, List.getElem?_cons_zero]; rfl) ?_
      intro R HR
      go_wp2_with fail
      refine HR.out _ _ HS4.out ?_
      clear HR
      refine plan3_done ?_
      go_wp2_with fail
      go_meet
      case rel => exact ⟨rfl, HS4⟩
  case rest =>
    obtain ⟨rfl, hb⟩ := hcut
    have H3 := hide (H2.out.below hb.out)
    clear hb H2 HA1 hmk c0 c1 c2 HLT
    generalize wc = w4 at *
    obtain ⟨hbj, hij⟩ := H3.out.jou (w2.heap.size, j0) (by simp)
    obtain ⟨c0, c1, c2⟩ := hbj.c3
    have HR := hide (show w.heap.size ≤ w4.heap.size + 1 by have := H3.out.bel.size; omega)
    have H4 := hide ((H3.out.raise HR.out).below (below_new w4 (.cells #[.int .u8 97, .int .u8 98] 5 (2, 3))))
    have HAB := hide (append_is (j := j0) (b := ⟨some ⟨w4.heap.size, 0, none⟩, ab, 2⟩) _ HJ0.out rfl append_ab ((hij.raise HR.out).below (below_new w4 (.cells #[.int .u8 97, .int .u8 98] 5 (2, 3)))) (ab_in w4) (by show (2 : Nat) ≤ 140737488355328; decide))
    have hcv := conv_ab w4
    clear hbj hij H3
    go_wp2_with fail
    refine HAB.out.mono ?_
    rintro e w5 ⟨j7, rfl, hj, hi, hb⟩
    have HJ7 := hide hj
    have HR5 := hide (show w4.heap.size + 1 ≤ w5.heap.size by have := hb.size; simpa using this)
    have H5 := hide ((H4.out.below hb).newj hi)
    clear hj hi hb c0 c1 c2 HAB H4 hcv
    obtain ⟨hb7, hi7⟩ := H5.out.jou (w5.heap.size, j7) (by simp)
    obtain ⟨c0, c1, c2⟩ := hb7.c3
    obtain ⟨hb1, hi1⟩ := H5.out.box (w1.heap.size, z0) (by simp)
    obtain ⟨e0, e1, e2, e3⟩ := hb1.c4
    have HSY := hide (jsync_is (n0 := w4.heap.size + 1) _ (by have := HR5.out; rw [World.size_alloc]; omega) HJ7.out HZ0.out sync_ab hi7 hi1)
    clear hb7 hi7 hb1 hi1
    go_wp2_with fail
    refine HSY.out.mono ?_
    rintro e w6 ⟨j9, d10, rfl, hj, hd, hi, hi2, hb⟩
    have HJ9 := hide hj
    have HD10 := hide hd
    have HR6 := hide (show w4.heap.size + 1 ≤ w6.heap.size by have h1 := hb.size; have h2 := HR5.out; rw [World.size_alloc] at h1; omega)
    have H6 := hide (((H5.out.below hb).newj hi).newd (hi2.below (below_new _ _)))
    try simp only [World.size_alloc] at H6
    clear hj hd hi hi2 hb c0 c1 c2 e0 e1 e2 e3 HSY H5
    obtain ⟨hb10, hi10⟩ := H6.out.box (w6.heap.size + 1, d10) (by simp)
    obtain ⟨c0, c1, c2, c3⟩ := hb10.c4
    have HO2 := hide (open_is _ HD10.out open_d1 hi10)
    clear hb10 hi10
    go_wp2_with fail
    refine HO2.out.mono ?_
    rintro e w7 ⟨j12, rfl, hj, hi, hb⟩
    have HJ12 := hide hj
    have HR7 := hide (show w4.heap.size + 1 ≤ w7.heap.size by have h1 := hb.size; have h2 := HR6.out; simp only [World.size_alloc] at h1; omega)
    have H7 := hide ((H6.out.below hb).newj hi)
    clear hj hi hb c0 c1 c2 c3 HO2 H6
    obtain ⟨hb7, hi7⟩ := H7.out.jou (w5.heap.size, j7) (by simp)
    obtain ⟨c0, c1, c2⟩ := hb7.c3
    obtain ⟨hb1, hi1⟩ := H7.out.box (w6.heap.size + 1, d10) (by simp)
    obtain ⟨e0, e1, e2, e3⟩ := hb1.c4
    have HSN := hide (jsync_is (n0 := w4.heap.size + 1) _ (by have := HR7.out; rw [World.size_alloc]; omega) HJ7.out HD10.out sync_no hi7 hi1)
    clear hb7 hi7 hb1 hi1
    go_wp2_with fail
    refine HSN.out.mono ?_
    rintro e w8 ⟨j14, d15, rfl, hj, hd, hi, hi2, hb⟩
    have H8 := hide (((H7.out.below hb).newj hi).newd (hi2.below (below_new _ _)))
    try simp only [World.size_alloc] at H8
    clear hj hd hi hi2 hb c0 c1 c2 e0 e1 e2 e3 HSN H7
    clear HR HR5 HR6 HR7
    obtain ⟨A0, cp0, rfl⟩ := jr_nil HJ0.out
    obtain ⟨A9, cp9, s9, rfl, -⟩ := jr_one HJ9.out
    obtain ⟨A12, cp12, s12, rfl, h12⟩ := jr_one HJ12.out
    obtain ⟨hb0, hi0⟩ := H8.out.jou (w2.heap.size, ⟨A0, [], cp0, 1, 0⟩) (by simp)
    obtain ⟨c0, c1, c2⟩ := hb0.c3
    simp only [List.length_nil] at c0
    have HRM : Hid (Calls Try.prog 19 #[.agg #[.slice A0 0 cp0, .int .i64 1, .int .i64 0]] ((w8.alloc (.cells j14.cs.toArray 29)).alloc (.cells d15.cs.toArray 25)) fun e w' => e = .returned (.int .i64 112) ∧ Below ((w8.alloc (.cells j14.cs.toArray 29)).alloc (.cells d15.cs.toArray 25)).heap.size ((w8.alloc (.cells j14.cs.toArray 29)).alloc (.cells d15.cs.toArray 25)) w') := hide (by
      have := room_any _ ((w8.alloc (.cells j14.cs.toArray 29)).alloc (.cells d15.cs.toArray 25)) hi0
      rw [show (Jr.mk A0 [] cp0 1 0).k.ok = true from jok_0, if_pos rfl, show usedB (secD []) = 0 from usedB_nil] at this
      exact this)
    clear hb0 hi0 HJ0 HJ7 HJ9 HJ12 HZ0 HD10
    go_wp2_with fail
    refine HRM.out.mono ?_
    rintro e w10 ⟨rfl, hb⟩
    have H10 := hide (H8.out.below hb)
    clear hb c0 c1 c2 HRM H8
    obtain ⟨hb9, -⟩ := H10.out.jou (w6.heap.size, ⟨A9, [s9], cp9, 1, 1⟩) (by simp)
    have c2 := hb9.c3.2.2
    obtain ⟨hb12, hi12⟩ := H10.out.jou (w7.heap.size, ⟨A12, [s12], cp12, 1, 1⟩) (by simp)
    have e0 := hb12.c3.1
    obtain ⟨b, o, hA, -, e1⟩ := hi12.recs.at (k := 0) (by simp)
    simp only at hA
    subst hA
    simp only [List.length_cons, List.length_nil, Nat.zero_add, Nat.add_zero, List.getElem_cons_zero] at e0 e1
    have hv : (convert 35 9 s12.v).run Try.prog w10 = .ok (.string ⟨#[97, 98]⟩) w10 := by
      have := (hi12.recs.each s12 (by simp)).conv
      rw [h12] at this
      exact this
    have HCK := hide (jcheck_any (n0 := 0) Jr.zero w10 (Jr.zero_in w10))
    rw [show Jr.zero.k = Jk.zero from rfl, jchk_zero_one] at HCK
    have hcap : cp12 ≤ 9223372036854775807 := hi12.recs.top
    have hcap1 : 1 ≤ cp12 := hi12.recs.le
    clear hb9 hb12 hi12 h12
    go_wp2_with fail
    refine HCK.out.mono ?_
    rintro e w11 ⟨rfl, hb⟩
    have HF := hide (below_one H10.out.bel hb)
    clear hb
    go_wp2_with fail
    go_ret
    exact ⟨rfl, HF.out⟩
end Go.Proofs.Ytgigccgklahddaa
