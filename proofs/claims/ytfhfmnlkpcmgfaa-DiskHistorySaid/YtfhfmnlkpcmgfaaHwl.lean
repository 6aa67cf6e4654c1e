/- DiskHistory: what lies in memory beside the disks. -/
import Derived.Test.YtfhfmnlkpcmgfaaHol
import Derived.Test.YtfhfmnlkpcmgfaaTogL
import Derived.Test.YtfhfmnlkpcmgfaaRNew
namespace Go.Proofs.Ytfhfmnlkpcmgfaa
open Go.RowKit

theorem Try.info46 : (Try.prog.info? 46).map (fun i => (i.zero, i.size, i.bytes)) = some (some (.agg #[.bool false, .int .u8 0, .int .u8 0]), 3, 3) := by kernel_rfl
theorem hinfo46 : ∃ i0, Try.prog.info? 46 = some i0 ∧ i0.zero = some (.agg #[.bool false, .int .u8 0, .int .u8 0]) ∧ i0.size = 3 ∧ i0.bytes = 3 := by
  obtain ⟨i0, hi, hz0, hz1, hz2⟩ := info_parts Try.info46
  exact ⟨i0, hi, hz0, hz1, hz2⟩
theorem size44 {L : List UInt8} (h : L.length = 4) : (Try.prog.info? 44).map (·.size) = some (bs L).length := by rw [bs_len, h]; kernel_rfl
theorem size44' {L : List UInt8} (h : L.length = 4) : (Try.prog.info? 44).map (·.size) = some (bs L).toArray.size := by rw [List.size_toArray]; exact size44 h
theorem range44 {W : World} {X : Nat} {L : List UInt8} (h : Blk W X 44 (bs L)) : W.rangeAt X 0 (bs L) := fun j v hv => by rw [Nat.zero_add, h.cell, hv]

theorem Blk.c3 {w : World} {X T : Nat} {v0 v1 v2 : Value} (h : Blk w X T [v0, v1, v2]) : w.cell? ⟨X, 0, none⟩ = some v0 ∧ w.cell? ⟨X, 1, none⟩ = some v1 ∧ w.cell? ⟨X, 2, none⟩ = some v2 := ⟨h.cell 0, h.cell 1, h.cell 2⟩
theorem wrap8_small (p : Nat) (h : p < 128) : IntKind.u8.wrap (p : Int) = (p : Int) := by
  have e1 : (2 : Int) ^ IntKind.u8.bits = 256 := by decide
  have e3 : (p : Int) % 256 = p := by omega
  simp only [IntKind.wrap, e1, e3]
  simp [IntKind.signed]
theorem own_only {w w' : World} {base e size n X T : Nat} {v : Value} {xs cs : List Value} (h : w.ownsRow base e size v n xs) (hg : w.grownBy w' (some X)) (hX : Blk w X T cs) (hT : T ≠ e) : w'.ownsRow base e size v n xs := by
  refine ⟨h.1, ?_⟩
  rcases h.2 with h2 | ⟨g, cap, cur, rfl, h1, h2, h3⟩
  · exact .inl h2
  · refine .inr ⟨g, cap, cur, rfl, h1, ?_, h3⟩
    rw [hg.block g (h.lt g rfl).2 (fun he => by
      injection he with he
      subst he
      unfold Blk at hX
      rw [hX] at h2
      injection h2 with h2
      injection h2 with _ h2
      exact hT h2)]
    exact h2
theorem grown_cases {w w' : World} {base e size n : Nat} {v : Value} {xs : List Value} (h : w.ownsRow base e size v n xs) (hg : w.grownBy w' v.ownBlock) :
    Below w.heap.size w w' ∨ ∃ g cs, Blk w g e cs ∧ base ≤ g ∧ w.grownBy w' (some g) := by
  rcases h.2 with ⟨rfl, _⟩ | ⟨g, cap, cur, rfl, h1, h2, _⟩
  · exact .inl (only_none hg)
  · exact .inr ⟨g, cur.toList, (by simpa [Blk] using h2), h1, hg⟩
/-- A change of a block that holds something else. -/
theorem Env.keepT {n0 : Nat} {w W W' : World} {l : List (Nat × Dsk)} {m : List Sec} {X T0 : Nat} {cs : List Value} (h : Env n0 w l m W) (hX : Blk W X T0 cs) (hT : T0 ≠ 5 ∧ T0 ≠ 35 ∧ T0 ≠ 54 ∧ T0 ≠ 25) (hn : n0 ≤ X) (hw : w.heap.size ≤ X) (hg : W.grownBy W' (some X)) : Env n0 w l m W' :=
  ⟨below_of_only h.bel hg hw, fun p hp => ⟨(h.box p hp).1.only hg ((h.box p hp).1.ne hX (by omega)), (h.box p hp).2.1, (h.box p hp).2.2.1, (h.box p hp).2.2.2.keepT hX (by omega) hn hg⟩, fun s hs => (h.secs s hs).keepT hX (by omega) hn hg⟩

/-- The disks' boxes, the three rows of bytes, and the acts that wait. -/
structure HW (w : World) (bx : List (Nat × Dsk)) (x8 : Nat) (L F S : List UInt8) (A : Option Addr) (cap : Nat) (q : List Ac) (W : World) : Prop where
  env : Env w.heap.size w bx [] W
  own : W.ownsRow w.heap.size 46 3 (.slice A q.length cap) q.length (acs q)
  b8 : Blk W x8 44 (bs L)
  b9 : Blk W (x8 + 1) 44 (bs F)
  b10 : Blk W (x8 + 1 + 1) 44 (bs S)
  h8 : w.heap.size ≤ x8
section
variable {w : World} {bx : List (Nat × Dsk)} {x8 : Nat} {L F S : List UInt8} {A : Option Addr} {cap : Nat} {q : List Ac} {W W' : World}
theorem HW.below (h : HW w bx x8 L F S A cap q W) (hb : Below W.heap.size W W') : HW w bx x8 L F S A cap q W' :=
  ⟨h.env.below hb, own_later h.own hb, h.b8.below hb h.b8.lt, h.b9.below hb h.b9.lt, h.b10.below hb h.b10.lt, h.h8⟩
theorem HW.cons (h : HW w bx x8 L F S A cap q W) {g : Nat} {z : Dsk} (hg : Blk W g 25 z.cs) (hw : w.heap.size ≤ g) (hz : z.In w.heap.size W) : HW w ((g, z) :: bx) x8 L F S A cap q W :=
  ⟨⟨h.env.bel, fun p hp => by
    rcases List.mem_cons.1 hp with rfl | hp
    · exact ⟨hg, hw, hw, hz⟩
    · exact h.env.box p hp, h.env.secs⟩, h.own, h.b8, h.b9, h.b10, h.h8⟩
theorem HW.tail {p : Nat × Dsk} (h : HW w (p :: bx) x8 L F S A cap q W) : HW w bx x8 L F S A cap q W :=
  ⟨h.env.sub (fun _ hp => List.mem_cons_of_mem _ hp), h.own, h.b8, h.b9, h.b10, h.h8⟩
/-- Another disk into the box. -/
theorem HW.put {a : Nat} {x y : Dsk} (h : HW w [(a, x)] x8 L F S A cap q W) (hy : y.In w.heap.size W) : HW w [(a, y)] x8 L F S A cap q (W.setRow a #[.slice y.sa y.ss.length y.sc, .slice y.pa y.ps.length y.pc, .int .i64 y.left, .bool y.stp]) := by
  have hX := (h.env.box (a, x) (by simp)).1
  have hg : W.grownBy (W.setRow a #[.slice y.sa y.ss.length y.sc, .slice y.pa y.ps.length y.pc, .int .i64 y.left, .bool y.stp]) (some a) := only_setRow (only_refl _ _) (.inl rfl) _
  exact ⟨h.env.put1 hy (fun _ hp => by cases hp), own_only h.own hg hX (by omega), h.b8.only hg (h.b8.ne hX (by omega)), h.b9.only hg (h.b9.ne hX (by omega)), h.b10.only hg (h.b10.ne hX (by omega)), h.h8⟩
theorem bs_set (l : List UInt8) (j : Nat) (c : UInt8) : bs (l.set j c) = (bs l).set j (.int .u8 (c.toNat : Nat)) := by simp [bs, List.map_set]
theorem HW.set8 (h : HW w bx x8 L F S A cap q W) (j : Nat) (c : UInt8) : HW w bx x8 (L.set j c) F S A cap q (W.setCell ⟨x8, j, none⟩ (.int .u8 (c.toNat : Nat))) := by
  have hg : W.grownBy (W.setCell ⟨x8, j, none⟩ (.int .u8 (c.toNat : Nat))) (some x8) := only_setCell (only_refl _ _) (.inl rfl) _
  have h8 := h.h8
  exact ⟨h.env.keepT h.b8 (by decide) (by omega) (by omega) hg, own_only h.own hg h.b8 (by omega), by rw [bs_set]; exact h.b8.set j _, h.b9.only hg (by omega), h.b10.only hg (by omega), h.h8⟩
theorem HW.set9 (h : HW w bx x8 L F S A cap q W) (j : Nat) (c : UInt8) : HW w bx x8 L (F.set j c) S A cap q (W.setCell ⟨x8 + 1, j, none⟩ (.int .u8 (c.toNat : Nat))) := by
  have hg : W.grownBy (W.setCell ⟨x8 + 1, j, none⟩ (.int .u8 (c.toNat : Nat))) (some (x8 + 1)) := only_setCell (only_refl _ _) (.inl rfl) _
  have h8 := h.h8
  exact ⟨h.env.keepT h.b9 (by decide) (by omega) (by omega) hg, own_only h.own hg h.b9 (by omega), h.b8.only hg (by omega), by rw [bs_set]; exact h.b9.set j _, h.b10.only hg (by omega), h.h8⟩
theorem HW.set10 (h : HW w bx x8 L F S A cap q W) (j : Nat) (c : UInt8) : HW w bx x8 L F (S.set j c) A cap q (W.setCell ⟨x8 + 1 + 1, j, none⟩ (.int .u8 (c.toNat : Nat))) := by
  have hg : W.grownBy (W.setCell ⟨x8 + 1 + 1, j, none⟩ (.int .u8 (c.toNat : Nat))) (some (x8 + 1 + 1)) := only_setCell (only_refl _ _) (.inl rfl) _
  have h8 := h.h8
  exact ⟨h.env.keepT h.b10 (by decide) (by omega) (by omega) hg, own_only h.own hg h.b10 (by omega), h.b8.only hg (by omega), h.b9.only hg (by omega), by rw [bs_set]; exact h.b10.set j _, h.h8⟩
theorem HW.app (h : HW w bx x8 L F S A cap q W) {A' : Option Addr} {cap' : Nat} {a : Ac} (hown : W'.ownsRow w.heap.size 46 3 (.slice A' (q.length + 1) cap') (q.length + 1) (acs q ++ a.cs)) (hg : W.grownBy W' (Value.slice A q.length cap).ownBlock) : HW w bx x8 L F S A' cap' (q ++ [a]) W' := by
  have e : acs (q ++ [a]) = acs q ++ a.cs := by simp [acs]
  have e2 : (q ++ [a]).length = q.length + 1 := by simp
  rcases grown_cases h.own hg with hb | ⟨g, cs, hG, hge, hg'⟩
  · have h' := h.below hb
    exact ⟨h'.env, by rw [e, e2]; exact hown, h'.b8, h'.b9, h'.b10, h.h8⟩
  · exact ⟨h.env.keepT hG (by decide) hge hge hg', by rw [e, e2]; exact hown, h.b8.only hg' (h.b8.ne hG (by omega)), h.b9.only hg' (h.b9.ne hG (by omega)), h.b10.only hg' (h.b10.ne hG (by omega)), h.h8⟩
theorem HW.fresh (h : HW w bx x8 L F S A cap q W) : HW w bx x8 L F S (some ⟨W.heap.size, 0, none⟩) 0 [] (W.alloc (.cells #[] 46)) := by
  have h' := h.below (below_new W (.cells #[] 46))
  exact ⟨h'.env, own_empty W w.heap.size 46 3 h.env.bel.size, h'.b8, h'.b9, h'.b10, h.h8⟩
end
end Go.Proofs.Ytfhfmnlkpcmgfaa
