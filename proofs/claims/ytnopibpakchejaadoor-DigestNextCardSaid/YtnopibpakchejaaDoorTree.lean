/- Tree. -/
import Derived.Test.YtnopibpakchejaaDoorTr
import Derived.Deep.RegionHeld3
namespace Go.Proofs.YtnopibpakchejaaDoor
open Go.RowKit

def z32 : List Value := List.replicate 32 (.int .u8 0)
theorem z32_len : z32.length = 32 := by simp [z32]
theorem setCells_blk {X T : Nat} : ∀ (vs pre post : List Value) (old : List Value) (w : World), Blk w X T (pre ++ old ++ post) → old.length = vs.length → Blk (w.setCells X pre.length vs) X T (pre ++ vs ++ post)
  | [], pre, post, old, w, h, hl => by
    have : old = [] := List.length_eq_zero_iff.1 hl
    subst this
    exact h
  | v :: vs, pre, post, old, w, h, hl => by
    match old, hl with
    | o :: old, hl =>
      have h1 := h.set pre.length v
      have e : (pre ++ o :: old ++ post).set pre.length v = (pre ++ [v]) ++ old ++ post := by simp
      rw [e] at h1
      have := setCells_blk vs (pre ++ [v]) post old _ h1 (by simpa using hl)
      simp only [List.length_append, List.length_cons, List.length_nil, Nat.zero_add] at this
      simpa [World.setCells] using this
theorem Blk.setAll {w : World} {X T : Nat} {old vs : List Value} (h : Blk w X T old) (hl : old.length = vs.length) : Blk (w.setCells X 0 vs) X T vs := by
  have := setCells_blk vs [] [] old w (by simpa using h) hl
  simpa using this
theorem setCells_other (w : World) (b : Nat) : ∀ (vs : List Value) (o k : Nat), k ≠ b → (w.setCells b o vs).heap[k]? = w.heap[k]? := by
  intro vs
  induction vs generalizing w with
  | nil => intro o k _; rfl
  | cons v vs ih => intro o k hk; exact (ih (w.setCell ⟨b, o, none⟩ v) (o + 1) k hk).trans (heap_setCell_other w ⟨b, o, none⟩ k v hk)
theorem below_setCells {B : Nat} {a w : World} (h : Below B a w) {g : Nat} (hg : B ≤ g) (vs : List Value) (o : Nat) : Below B a (w.setCells g o vs) := by
  induction vs generalizing w o with
  | nil => exact h
  | cons v vs ih => exact ih (h.setCell hg v) (o + 1)
theorem Blk.there {w : World} {X T : Nat} {cs : List Value} (h : Blk w X T cs) (hl : cs.length = 32) : w.there X 0 32 := fun j hj => by
  refine ⟨?_, h.free _⟩
  rw [Nat.zero_add, h.cell, List.getElem?_eq_getElem (by omega)]
  rfl
attribute [irreducible] z32

/-- A list of digests in memory. -/
def Ds (w : World) (a : Option Addr) (l : List (List UInt8)) : Prop := Sb w a l.flatten
theorem Ds.below {w w' : World} {a : Option Addr} {l : List (List UInt8)} (h : Ds w a l) (hb : Below w.heap.size w w') : Ds w' a l := Sb.below h hb
theorem Ds.at {w : World} {a : Option Addr} {l : List (List UInt8)} (h : Ds w a l) (hd : D32 l) (hl : 1 ≤ l.length) : ∃ b o, a = some ⟨b, o, none⟩ ∧ Bs w b o l.flatten :=
  h fun e => by
    have := hd.flat
    rw [e] at this
    simp at this
    omega
theorem Ds.of {w : World} {b o : Nat} {l : List (List UInt8)} (h : Bs w b o l.flatten) : Ds w (some ⟨b, o, none⟩) l := Sb.of h
theorem bs_take {w : World} {b o : Nat} {l : List (List UInt8)} (hd : D32 l) (h : Bs w b o l.flatten) (k : Nat) : Bs w b o (l.take k).flatten := by
  rw [hd.flat_take]; exact h.take _
theorem bs_drop {w : World} {b o : Nat} {l : List (List UInt8)} (hd : D32 l) (h : Bs w b o l.flatten) (k : Nat) : Bs w b (o + 32 * k) (l.drop k).flatten := by
  rw [hd.flat_drop]; exact h.drop _
theorem bs_range {w : World} {b o : Nat} {l : List UInt8} (h : Bs w b o l) : w.rangeAt b o (bc l) := fun j v hv => by
  have hj : j < l.length := by rw [← bc_len l]; exact (List.getElem?_eq_some_iff.1 hv).1
  rw [h j hj, ← hv, bc_get hj]
theorem bs_one {w : World} {b o : Nat} {l : List (List UInt8)} (hd : D32 l) (h : Bs w b o l.flatten) (k : Nat) (hk : k < l.length) : Bs w b (o + 32 * k) l[k] := by
  have h1 := (bs_drop hd h k).take 32
  rw [List.drop_eq_getElem_cons hk, List.flatten_cons, List.take_append_of_le_length (by rw [hd _ (List.getElem_mem hk)]; omega), List.take_of_length_le (by rw [hd _ (List.getElem_mem hk)]; omega)] at h1
  exact h1

theorem tag_empty (w : World) (hT : Tab w) : Calls Tryd.prog 14 #[.string ⟨#[101, 109, 112, 116, 121]⟩, .slice none 0 0] w fun e w' => e = .returned (dv (tagd tEmpty [])) ∧ Below w.heap.size w w' :=
  tagged_any _ _ _ _ [] w hT (fun h => absurd rfl h) rfl (by decide) (by decide) (fun _ => rfl)

theorem z32_eq : List.replicate 32 (Value.int .u8 0) = z32 := by unfold z32; rfl

set_option maxRecDepth 10000 in
set_option maxHeartbeats 800000 in
theorem tree_zero (a : Option Addr) (cap : Nat) (w : World) (hT : Tab w) :
    Calls Tryd.prog 17 #[.slice a 0 cap] w fun e w' => e = .returned (dv (treeL [])) ∧ Below w.heap.size w w' := by
  have HT := hide hT
  have HE := hide treeL_nil
  clear hT
  go_enter Tryd.func17, Tryd.ntmps17
  go_wp2_with fail
  refine name_world ?_
  intro W1 HW1
  have HA : Hid (Blk W1 w.heap.size 26 z32 ∧ Below w.heap.size w W1) := by
    have e : W1 = w.alloc (.cells (List.replicate 32 (.int .u8 0)).toArray 26) := HW1.out
    subst e
    rw [z32_eq]
    exact hide ⟨Blk.new _ _ _, below_new w _⟩
  clear HW1
  with_reducible refine (tag_empty W1 (HT.out.below HA.out.2)).mono ?_
  rintro e w2 ⟨rfl, hb2⟩
  have HR := hide (HA.out.1.below hb2 HA.out.1.lt)
  have HB := hide (below_one HA.out.2 hb2)
  clear HA hb2
  have HS := hide (dv_size _ (tagd_len tEmpty []))
  have HZ := hide (show (Tryd.prog.info? 26).map (·.size) = some ((bc (tagd tEmpty [])).toArray).size by rw [HS.out]; exact Tryd.size26)
  have HO := hide (all_oneCell_toArray (bc_one (tagd tEmpty [])))
  go_wp2_with (refine wpList_store_row rfl 26 (.tmp 2) (.tmp 8) rfl (w.heap.size) _ rfl rfl 26 _ HR.out HZ.out (by rw [HS.out, List.size_toArray, z32_len]) HO.out ?_)
  rw [HE.out]
  refine bodyPost_ret (v := dv (tagd tEmpty [])) (results_cell_row rfl _ _ (w.heap.size) 26 _ (0, 0) _ rfl (setRow_heap _ _ _ _ _ _ HR.out) Tryd.underlying26 rfl HZ.out) rfl ⟨rfl, below_setRow HB.out (by omega) _⟩

set_option maxRecDepth 10000 in
set_option maxHeartbeats 800000 in
theorem tree_one (d : List UInt8) (b o cap : Nat) (w : World) (hT : Tab w) (hd : d.length = 32) (hl : Bs w b o d) :
    Calls Tryd.prog 17 #[.slice (some ⟨b, o, none⟩) 1 cap] w fun e w' => e = .returned (dv (treeL [d])) ∧ Below w.heap.size w w' := by
  have HT := hide hT
  have HL := hide (And.intro hd (bs_range (hl.below (below_new w (.cells (List.replicate 32 (.int .u8 0)).toArray 26)) (hl.lt (by omega)))))
  have HE := hide (treeL_one d)
  clear hT hd hl
  go_enter Tryd.func17, Tryd.ntmps17
  go_wp2_with (refine wpList_load_mid rfl 26 (.tmp 12) rfl b o rfl (bc d) _ HL.out.2 Tryd.underlying26 rfl (by rw [bc_len, HL.out.1]; exact Tryd.size26) ?_)
  refine name_world ?_
  intro W1 HW1
  have HA : Hid (Blk W1 w.heap.size 26 z32 ∧ Below w.heap.size w W1) := by
    have e : W1 = w.alloc (.cells (List.replicate 32 (.int .u8 0)).toArray 26) := HW1.out
    subst e
    rw [z32_eq]
    exact hide ⟨Blk.new _ _ _, below_new w _⟩
  clear HW1
  with_reducible refine (leaf_any d W1 (HT.out.below HA.out.2) HL.out.1).mono ?_
  rintro e w2 ⟨rfl, hb2⟩
  have HR := hide (HA.out.1.below hb2 HA.out.1.lt)
  have HB := hide (below_one HA.out.2 hb2)
  clear HA hb2
  have HS := hide (dv_size _ (tagd_len tLeaf d))
  have HZ := hide (show (Tryd.prog.info? 26).map (·.size) = some ((bc (tagd tLeaf d)).toArray).size by rw [HS.out]; exact Tryd.size26)
  have HO := hide (all_oneCell_toArray (bc_one (tagd tLeaf d)))
  go_wp2_with (refine wpList_store_row rfl 26 (.tmp 2) (.tmp 14) rfl (w.heap.size) _ rfl rfl 26 _ HR.out HZ.out (by rw [HS.out, List.size_toArray, z32_len]) HO.out ?_)
  rw [HE.out]
  refine bodyPost_ret (v := dv (tagd tLeaf d)) (results_cell_row rfl _ _ (w.heap.size) 26 _ (0, 0) _ rfl (setRow_heap _ _ _ _ _ _ HR.out) Tryd.underlying26 rfl HZ.out) rfl ⟨rfl, below_setRow HB.out (by omega) _⟩
end Go.Proofs.YtnopibpakchejaaDoor
