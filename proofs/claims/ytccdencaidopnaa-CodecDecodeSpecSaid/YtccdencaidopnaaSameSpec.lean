/- CodecSameSpec: for every two values, Same matches the specification. No condition. The walk. -/
import Derived.Test.YtccdencaidopnaaRSame
import Derived.Deep.RegionHeld3
namespace Go.Proofs.Ytccdencaidopnaa
open Go.RowKit

mutual
theorem same_refl (t : VT) : t.same t = true := by
  match t with
  | .mk k n s a c l =>
    rw [VT.same_eq]
    simp [VT.kind, VT.num, VT.str, VT.els, sames_refl l]
theorem sames_refl (l : List VT) : VT.same.sames l l = true := by
  match l with
  | [] => rfl
  | t :: r => simp [VT.same.sames, same_refl t, sames_refl r]
end

/-- Two boxed values, one block after the other, in a later world. -/
abbrev SB (t u : VT) (X : Nat) (w0 w : World) : Prop :=
  w.cell? ⟨X, 0, none⟩ = some (.int .i64 t.kind) ∧ w.cell? ⟨X, 1, none⟩ = some (.int .i64 t.num) ∧ w.cell? ⟨X, 2, none⟩ = some (.string t.str) ∧ w.cell? ⟨X, 3, none⟩ = some t.sl ∧
  w.cell? ⟨X + 1, 0, none⟩ = some (.int .i64 u.kind) ∧ w.cell? ⟨X + 1, 1, none⟩ = some (.int .i64 u.num) ∧ w.cell? ⟨X + 1, 2, none⟩ = some (.string u.str) ∧ w.cell? ⟨X + 1, 3, none⟩ = some u.sl ∧
  Hid (Box w X t ∧ Box w (X + 1) u ∧ t.In w ∧ u.In w ∧ Below w0.heap.size w0 w)

theorem SB.mk {t u : VT} {X : Nat} {w0 w : World} (a : Box w X t) (b : Box w (X + 1) u) (c : t.In w) (d : u.In w) (e : Below w0.heap.size w0 w) : SB t u X w0 w :=
  ⟨a.cells.1, a.cells.2.1, a.cells.2.2.1, a.cells.2.2.2, b.cells.1, b.cells.2.1, b.cells.2.2.1, b.cells.2.2.2, a, b, c, d, e⟩
theorem SB.out {t u : VT} {X : Nat} {w0 w : World} (h : SB t u X w0 w) : Box w X t ∧ Box w (X + 1) u ∧ t.In w ∧ u.In w ∧ Below w0.heap.size w0 w := h.2.2.2.2.2.2.2.2.out
theorem SB.keep {t u : VT} {X : Nat} {w0 w w' : World} (h : SB t u X w0 w) (hb : Below w.heap.size w w') : SB t u X w0 w' := by
  obtain ⟨a, b, c, d, e⟩ := h.out
  exact SB.mk (a.later hb) (b.later hb) (c.later hb) (d.later hb) (below_one e hb)
theorem SB.drew {t u : VT} {X : Nat} {w0 w : World} (h : SB t u X w0 w) : SB t u X w0 w.drew := h.keep (Below.refl _ _).drew

set_option maxRecDepth 10000 in
set_option maxHeartbeats 1600000 in
theorem samespec_walk (t u : VT) (w : World) (hin : t.In w) (hin' : u.In w) :
    Calls Try.prog 5 #[t.val, u.val] w fun e w' => e = .returned (.bool true) ∧ Below w.heap.size w w' := by
  have hsb := hide (SB.mk (w0 := w) (w := (w.alloc (.cells #[.int .i64 t.kind, .int .i64 t.num, .string t.str, t.sl] 24)).alloc (.cells #[.int .i64 u.kind, .int .i64 u.num, .string u.str, u.sl] 24)) ((Box.new w t).later (below_new _ _)) (by simpa using Box.new (w.alloc (.cells #[.int .i64 t.kind, .int .i64 t.num, .string t.str, t.sl] 24)) u) ((hin.alloc _).alloc _) ((hin'.alloc _).alloc _) ((below_new _ _).alloc (by simp) _))
  go_enter Try.func5, Try.ntmps5
  go_wp2_with fail
  refine (sane_any _).mono ?_
  rintro e w1 ⟨rfl, hb1⟩
  have hs1 := hide (hsb.out.keep hb1)
  clear hsb hb1
  obtain ⟨x0, x1, x2, x3, y0, y1, y2, y3, _⟩ := hs1.out
  go_wp2_with fail
  have hw1 := below_new w1 (.cells #[.int .i64 t.kind, .int .i64 t.num, .string t.str, t.sl, .int .i64 u.kind, .int .i64 u.num, .string u.str, u.sl] 24)
  have hs2 := hide (hs1.out.keep hw1)
  have hblk := heap_alloc_new w1 (.cells #[.int .i64 t.kind, .int .i64 t.num, .string t.str, t.sl, .int .i64 u.kind, .int .i64 u.num, .string u.str, u.sl] 24)
  have hfew := hide (few_any w1.heap.size 0 2 [t, u] _ (by simp) (fun i hi => by
    have hc := fun j => cell_of_row _ w1.heap.size j _ _ _ hblk
    obtain ⟨_, _, c, d, _⟩ := hs2.out.out
    match i, hi with
    | 0, _ => exact ⟨⟨by rw [hc]; rfl, by rw [hc]; rfl, by rw [hc]; rfl, by rw [hc]; rfl⟩, c⟩
    | 1, _ => exact ⟨⟨by rw [hc]; rfl, by rw [hc]; rfl, by rw [hc]; rfl, by rw [hc]; rfl⟩, d⟩))
  clear x0 x1 x2 x3 y0 y1 y2 y3 hw1 hblk
  refine hfew.out.mono ?_
  rintro e w3 ⟨f, rfl, hf, hb3⟩
  have hs3 := hide (hs2.out.keep hb3)
  clear hs1 hs2 hb3 hfew hf
  cases f with
  | false =>
    go_wp2_with fail
    go_ret
    exact ⟨rfl, hs3.out.out.2.2.2.2⟩
  | true =>
    have H1 := fun W (hW : t.In W) (hW' : u.In W) => hide (same_any _ t u (Nat.le_refl _) W hW hW')
    have H2 := fun W (hW : t.In W) (hW' : u.In W) => hide (rsame_any _ t u (Nat.le_refl _) W hW hW')
    have H3 := fun W (hW : t.In W) => hide (same_any _ t t (Nat.le_refl _) W hW hW)
    have H4 := fun W (hW : u.In W) => hide (same_any _ u u (Nat.le_refl _) W hW hW)
    rw [same_refl] at H3 H4
    generalize t.same u = sm at *
    go_wp2_with fail
    go_region_held3 (fun w' => w'.cell? ⟨w.heap.size, 0, none⟩ = some (.int .i64 t.kind) ∧ w'.cell? ⟨w.heap.size, 1, none⟩ = some (.int .i64 t.num) ∧ w'.cell? ⟨w.heap.size, 2, none⟩ = some (.string t.str) ∧ w'.cell? ⟨w.heap.size, 3, none⟩ = some t.sl ∧
        w'.cell? ⟨w.heap.size + 1, 0, none⟩ = some (.int .i64 u.kind) ∧ w'.cell? ⟨w.heap.size + 1, 1, none⟩ = some (.int .i64 u.num) ∧ w'.cell? ⟨w.heap.size + 1, 2, none⟩ = some (.string u.str) ∧ w'.cell? ⟨w.heap.size + 1, 3, none⟩ = some u.sl ∧
        Hid (Box w' w.heap.size t ∧ Box w' (w.heap.size + 1) u ∧ t.In w' ∧ u.In w' ∧ Below w.heap.size w w'))
      (first | exact hs3.out.drew | exact hs3.out | exact SB.keep (by assumption) (by assumption))
      (first | (go_at_call_of 21 (u.kind); go_at_call_of 21 (t.kind); refine (H1 _ (SB.out (by assumption)).2.2.1 (SB.out (by assumption)).2.2.2.1).out.mono ?_; rintro e w5 ⟨rfl, hb5⟩) | (go_at_call 20; refine (H2 _ (SB.out (by assumption)).2.2.1 (SB.out (by assumption)).2.2.2.1).out.mono ?_; rintro e w6 ⟨rfl, hb6⟩) | (go_at_call_of 21 (t.kind); refine (H3 _ (SB.out (by assumption)).2.2.1).out.mono ?_; rintro e w7 ⟨rfl, hb7⟩) | (go_at_call_of 21 (u.kind); refine (H4 _ (SB.out (by assumption)).2.2.2.1).out.mono ?_; rintro e w8 ⟨rfl, hb8⟩))
    have hB := hide (SB.out (t := t) (u := u) (X := w.heap.size) (w0 := w) (by assumption)).2.2.2.2
    go_wp2_with fail
    go_ret
    exact ⟨rfl, hB.out⟩
end Go.Proofs.Ytccdencaidopnaa
