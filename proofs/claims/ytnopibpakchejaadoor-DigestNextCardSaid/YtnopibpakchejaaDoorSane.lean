/- sane. -/
import Derived.Test.YtnopibpakchejaaDoorEql
import Derived.Lib.SlBytesConst
namespace Go.Proofs.YtnopibpakchejaaDoor
open Go.RowKit

def z64 : List UInt8 := List.replicate 64 0
theorem Sb.nil (w : World) (a : Option Addr) : Sb w a [] := fun h => absurd rfl h
theorem two_run (w W : World) (T U : Nat) (y z : Array Value) (a b : List Value) (h : W = (((w.alloc (.cells y T)).alloc (.cells z U)).setRow w.heap.size a.toArray).setRow (w.heap.size + 1) b.toArray) :
    Blk W w.heap.size T a ∧ Blk W (w.heap.size + 1) U b ∧ Below w.heap.size w W := by
  subst h
  have h1 : ((w.alloc (.cells y T)).alloc (.cells z U)).heap[w.heap.size]? = some (.cells y T (0, 0)) := (Below.heap_alloc _ _ _ (by simp)).trans (heap_alloc_new w _)
  have h2 : ((w.alloc (.cells y T)).alloc (.cells z U)).heap[w.heap.size + 1]? = some (.cells z U (0, 0)) := heap_alloc2_new w _ _
  refine ⟨?_, ?_, ?_⟩
  · exact (setRow_other _ _ _ _ (by omega)).trans (setRow_heap _ _ _ _ _ _ h1)
  · exact setRow_heap _ _ _ _ _ _ ((setRow_other _ _ _ _ (by omega)).trans h2)
  · exact below_setRow (below_setRow ((below_new w _).alloc (by simp) _) (Nat.le_refl _) _) (by omega) _

def one1 : List UInt8 := 1 :: List.replicate 31 0
theorem one1_len : one1.length = 32 := by simp [one1]
theorem climb02 (w : World) : Calls Tryd.prog 22 #[.agg #[Value.int IntKind.u8 0, Value.int IntKind.u8 0, Value.int IntKind.u8 0, Value.int IntKind.u8 0, Value.int IntKind.u8 0, Value.int IntKind.u8 0, Value.int IntKind.u8 0, Value.int IntKind.u8 0, Value.int IntKind.u8 0, Value.int IntKind.u8 0, Value.int IntKind.u8 0, Value.int IntKind.u8 0, Value.int IntKind.u8 0, Value.int IntKind.u8 0, Value.int IntKind.u8 0, Value.int IntKind.u8 0, Value.int IntKind.u8 0, Value.int IntKind.u8 0, Value.int IntKind.u8 0, Value.int IntKind.u8 0, Value.int IntKind.u8 0, Value.int IntKind.u8 0, Value.int IntKind.u8 0, Value.int IntKind.u8 0, Value.int IntKind.u8 0, Value.int IntKind.u8 0, Value.int IntKind.u8 0, Value.int IntKind.u8 0, Value.int IntKind.u8 0, Value.int IntKind.u8 0, Value.int IntKind.u8 0, Value.int IntKind.u8 0], .int .i64 0, .int .i64 2, .slice none 0 0] w fun e w' => e = .returned (.tuple #[dv zd, .int .i64 1]) ∧ Below w.heap.size w w' :=
  Climb_no5 zd 0 0 0 2 none w 0 2 rfl rfl (by decide) (by decide) (by decide) (by
    have h : hp 2 = 1 := by unfold hp; decide
    rw [stepsL_left (by decide) (by rw [h]; decide), h]
    omega)
theorem climb01 (w : World) (hT : Tab w) : Calls Tryd.prog 22 #[.agg #[Value.int IntKind.u8 1, Value.int IntKind.u8 0, Value.int IntKind.u8 0, Value.int IntKind.u8 0, Value.int IntKind.u8 0, Value.int IntKind.u8 0, Value.int IntKind.u8 0, Value.int IntKind.u8 0, Value.int IntKind.u8 0, Value.int IntKind.u8 0, Value.int IntKind.u8 0, Value.int IntKind.u8 0, Value.int IntKind.u8 0, Value.int IntKind.u8 0, Value.int IntKind.u8 0, Value.int IntKind.u8 0, Value.int IntKind.u8 0, Value.int IntKind.u8 0, Value.int IntKind.u8 0, Value.int IntKind.u8 0, Value.int IntKind.u8 0, Value.int IntKind.u8 0, Value.int IntKind.u8 0, Value.int IntKind.u8 0, Value.int IntKind.u8 0, Value.int IntKind.u8 0, Value.int IntKind.u8 0, Value.int IntKind.u8 0, Value.int IntKind.u8 0, Value.int IntKind.u8 0, Value.int IntKind.u8 0, Value.int IntKind.u8 0], .int .i64 0, .int .i64 1, .slice none 0 0] w fun e w' => e = .returned (.tuple #[dv (tagd tLeaf one1), .int .i64 0]) ∧ Below w.heap.size w w' := by
  have := Climb_yes one1 [] 0 0 0 1 none w one1_len rfl (stepsL_one (by decide) 0).symm (by decide) (by decide) hT D32.nil (fun h => absurd rfl h) (by decide) (by decide)
  rw [climbL_one (by decide)] at this
  exact this
theorem tree_nil (w : World) (hT : Tab w) : Calls Tryd.prog 17 #[.slice none 0 0] w fun e w' => e = .returned (dv (tagd tEmpty [])) ∧ Below w.heap.size w w' := by
  have := tree_any [] 0 0 none w hT D32.nil (fun h => absurd rfl h) rfl (by decide) (by decide) (by decide)
  rwa [treeL_nil] at this
theorem tree_one1 (g : Nat) (w : World) (hT : Tab w) (hl : Bs w g 0 one1) : Calls Tryd.prog 17 #[.slice (some ⟨g, 0, none⟩) 1 1] w fun e w' => e = .returned (dv (tagd tLeaf one1)) ∧ Below w.heap.size w w' := by
  have := tree_any [one1] 1 1 (some ⟨g, 0, none⟩) w hT (D32.one one1_len) (Ds.of (by simpa using hl)) rfl (by decide) (by decide) (by decide)
  rwa [treeL_one] at this
theorem chain00 (w : World) (hT : Tab w) : Calls Tryd.prog 25 #[.agg #[Value.int IntKind.u8 0, Value.int IntKind.u8 0, Value.int IntKind.u8 0, Value.int IntKind.u8 0, Value.int IntKind.u8 0, Value.int IntKind.u8 0, Value.int IntKind.u8 0, Value.int IntKind.u8 0, Value.int IntKind.u8 0, Value.int IntKind.u8 0, Value.int IntKind.u8 0, Value.int IntKind.u8 0, Value.int IntKind.u8 0, Value.int IntKind.u8 0, Value.int IntKind.u8 0, Value.int IntKind.u8 0, Value.int IntKind.u8 0, Value.int IntKind.u8 0, Value.int IntKind.u8 0, Value.int IntKind.u8 0, Value.int IntKind.u8 0, Value.int IntKind.u8 0, Value.int IntKind.u8 0, Value.int IntKind.u8 0, Value.int IntKind.u8 0, Value.int IntKind.u8 0, Value.int IntKind.u8 0, Value.int IntKind.u8 0, Value.int IntKind.u8 0, Value.int IntKind.u8 0, Value.int IntKind.u8 0, Value.int IntKind.u8 0], .agg #[Value.int IntKind.u8 0, Value.int IntKind.u8 0, Value.int IntKind.u8 0, Value.int IntKind.u8 0, Value.int IntKind.u8 0, Value.int IntKind.u8 0, Value.int IntKind.u8 0, Value.int IntKind.u8 0, Value.int IntKind.u8 0, Value.int IntKind.u8 0, Value.int IntKind.u8 0, Value.int IntKind.u8 0, Value.int IntKind.u8 0, Value.int IntKind.u8 0, Value.int IntKind.u8 0, Value.int IntKind.u8 0, Value.int IntKind.u8 0, Value.int IntKind.u8 0, Value.int IntKind.u8 0, Value.int IntKind.u8 0, Value.int IntKind.u8 0, Value.int IntKind.u8 0, Value.int IntKind.u8 0, Value.int IntKind.u8 0, Value.int IntKind.u8 0, Value.int IntKind.u8 0, Value.int IntKind.u8 0, Value.int IntKind.u8 0, Value.int IntKind.u8 0, Value.int IntKind.u8 0, Value.int IntKind.u8 0, Value.int IntKind.u8 0]] w fun e w' => e = .returned (dv (tagd tChain z64)) ∧ Below w.heap.size w w' := by
  have := chain_any zd zd w hT zd_len zd_len
  rwa [show zd ++ zd = z64 by unfold zd z64; simp] at this
theorem tag_chain64 (g : Nat) (w : World) (hT : Tab w) (hl : Bs w g 0 z64) : Calls Tryd.prog 14 #[.string ⟨#[99, 104, 97, 105, 110]⟩, .slice (some ⟨g, 0, none⟩) 64 64] w fun e w' => e = .returned (dv (tagd tChain z64)) ∧ Below w.heap.size w w' :=
  tag_chain g 64 64 _ w hT hl (by simp [z64]) (by decide)

abbrev SS (w : World) (X : Nat) (L : List UInt8) (W : World) : Prop := W.rangeAt X 0 (bc L) ∧ Hid (Blk W X 26 (bc L) ∧ Below w.heap.size w W)
theorem SS.mk {w W : World} {X : Nat} {L : List UInt8} (h : Blk W X 26 (bc L)) (hb : Below w.heap.size w W) : SS w X L W := ⟨h.range, hide ⟨h, hb⟩⟩
theorem SS.keep {w W W' : World} {X : Nat} {L : List UInt8} (hb : Below W.heap.size W W') (h : SS w X L W) : SS w X L W' := SS.mk (h.2.1.below hb h.2.1.lt) (below_one h.2.2 hb)
theorem SS.bel {w W : World} {X : Nat} {L : List UInt8} (h : SS w X L W) : Below w.heap.size w W := h.2.2

theorem make64 (w : World) : (Instr.makeSlice 22 (.int .i64 64) (.int .i64 64)).run Tryd.prog w = .ok (.slice (some ⟨w.heap.size, 0, none⟩) 64 64) (w.alloc (.cells (bc z64).toArray 5)) := by kernel_rfl
theorem first4 {l : List UInt8} {a b c d : UInt8} (h : l.take 4 = [a, b, c, d]) {w : World} {X T : Nat} (hB : Blk w X T (bc l)) :
    w.cell? ⟨X, 0, none⟩ = some (.int .u8 (a.toNat : Nat)) ∧ w.cell? ⟨X, 1, none⟩ = some (.int .u8 (b.toNat : Nat)) ∧ w.cell? ⟨X, 2, none⟩ = some (.int .u8 (c.toNat : Nat)) ∧ w.cell? ⟨X, 3, none⟩ = some (.int .u8 (d.toNat : Nat)) := by
  match l, h with
  | e :: f :: g :: i :: r, h =>
    simp at h
    obtain ⟨rfl, rfl, rfl, rfl⟩ := h
    exact ⟨(hB.cell 0).trans rfl, (hB.cell 1).trans rfl, (hB.cell 2).trans rfl, (hB.cell 3).trans rfl⟩

set_option maxRecDepth 10000 in
set_option maxHeartbeats 800000 in
theorem sane_any (w : World) (hT : Tab w) : Calls Tryd.prog 11 #[] w fun e w' => e = .returned (.bool true) ∧ Below w.heap.size w w' := by
  have HT := hide hT
  clear hT
  have kc := fun (w : World) (C : Array Value) (n c : Nat) => Lib.run_convert_bytes_const (P := Tryd.prog) w 22 5 C n c Tryd.underlying22 Tryd.underlying5
  go_enter Tryd.func11, Tryd.ntmps11
  go_wp2_with fail
  refine name_world ?_
  intro W1 HW1
  clear kc
  have HA : Hid (Bs W1 w.heap.size 0 [97, 98, 99] ∧ Below w.heap.size w W1) := by
    have e := HW1.out
    subst e
    refine hide ⟨fun i hi => ?_, below_new w _⟩
    rw [cell_of_row _ _ _ _ _ _ (heap_alloc_new w _)]
    match i, hi with
    | 0, _ => rfl
    | 1, _ => rfl
    | 2, _ => rfl
    | i + 3, hi => simp at hi; omega
  clear HW1
  with_reducible refine (sum_is (some ⟨w.heap.size, 0, none⟩) 3 3 [97, 98, 99] W1 (HT.out.below HA.out.2) (Sb.of HA.out.1) rfl (by decide) (by decide) (by decide)).mono ?_
  rintro e w2 ⟨rfl, hb⟩
  have HB2 := hide (below_one HA.out.2 hb)
  clear HA hb
  go_wp2_with fail
  with_reducible refine (sum_is none 0 0 [] w2 (HT.out.below HB2.out) (Sb.nil _ _) rfl (by decide) (by decide) (by decide)).mono ?_
  rintro e w3 ⟨rfl, hb⟩
  have HB3 := hide (below_one HB2.out hb)
  clear HB2 hb
  have HSA := hide sha_abc
  have HSN := hide sha_nil
  have HLA := hide (sha_len [97, 98, 99])
  have HLN := hide (sha_len [])
  generalize sha [97, 98, 99] = A at *
  generalize sha [] = N at *
  have HZA := hide (show (Tryd.prog.info? 26).map (·.size) = some (bc A).toArray.size by rw [dv_size _ HLA.out]; exact Tryd.size26)
  have HZN := hide (show (Tryd.prog.info? 26).map (·.size) = some (bc N).toArray.size by rw [dv_size _ HLN.out]; exact Tryd.size26)
  have HOA := hide (all_oneCell_toArray (bc_one A))
  have HON := hide (all_oneCell_toArray (bc_one N))
  have HSZA := hide (dv_size _ HLA.out)
  have HSZN := hide (dv_size _ HLN.out)
  go_wp2_with (first | (refine wpList_store_row rfl 26 (.tmp 1) (.tmp 12) rfl w3.heap.size _ rfl rfl 26 _ (heap_alloc2_old w3 _ _) HZA.out (by rw [HSZA.out]; rfl) HOA.out ?_) | (refine wpList_store_row rfl 26 (.tmp 2) (.tmp 13) rfl (w3.heap.size + 1) _ rfl rfl 26 _ ((setRow_other _ _ _ _ (by omega)).trans (heap_alloc2_new w3 _ _)) HZN.out (by rw [HSZN.out]; rfl) HON.out ?_))
  refine name_world ?_
  intro W4 HW4
  have HA : Hid (Blk W4 w3.heap.size 26 (bc A) ∧ Blk W4 (w3.heap.size + 1) 26 (bc N) ∧ Below w.heap.size w W4) := by
    obtain ⟨h1, h2, h3⟩ := two_run w3 W4 26 26 _ _ (bc A) (bc N) HW4.out
    exact hide ⟨h1, h2, below_one HB3.out h3⟩
  clear HW4 HB3 HZA HZN HOA HON HSZA HSZN
  with_reducible refine (Path_no 0 0 0 none W4 (by decide)).mono ?_
  rintro e w5 ⟨rfl, hb⟩
  have HA5 := hide (And.intro (HA.out.1.below hb HA.out.1.lt) (And.intro (HA.out.2.1.below hb HA.out.2.1.lt) (below_one HA.out.2.2 hb)))
  clear HA hb
  go_wp2_with fail
  with_reducible refine (climb02 w5).mono ?_
  rintro e w6 ⟨rfl, hb⟩
  have HA6 := hide (And.intro (HA5.out.1.below hb HA5.out.1.lt) (And.intro (HA5.out.2.1.below hb HA5.out.2.1.lt) (below_one HA5.out.2.2 hb)))
  clear HA5 hb
  have HZD := hide (show (Tryd.prog.info? 26).map (·.size) = some (bc zd).toArray.size by rw [dv_size _ zd_len]; exact Tryd.size26)
  have HOD := hide (all_oneCell_toArray (bc_one zd))
  have HSD := hide (dv_size _ zd_len)
  go_wp2_with (refine wpList_store_row rfl 26 (.tmp 5) (.tmp 21) rfl w6.heap.size _ rfl rfl 26 _ (heap_alloc_new w6 _) HZD.out (by rw [HSD.out]; rfl) HOD.out ?_)
  refine name_world ?_
  intro W7 HW7
  have HA7 : Hid (Blk W7 w3.heap.size 26 (bc A) ∧ Blk W7 (w3.heap.size + 1) 26 (bc N) ∧ Below w.heap.size w W7) := by
    have h : Below w6.heap.size w6 W7 := by
      rw [HW7.out]
      exact below_setRow (below_new w6 _) (Nat.le_refl _) _
    exact hide ⟨HA6.out.1.below h HA6.out.1.lt, HA6.out.2.1.below h HA6.out.2.1.lt, below_one HA6.out.2.2 h⟩
  clear HW7 HA6 HZD HOD HSD
  with_reducible refine (climb01 W7 (HT.out.below HA7.out.2.2)).mono ?_
  rintro e w8 ⟨rfl, hb⟩
  have HA8 := hide (And.intro (HA7.out.1.below hb HA7.out.1.lt) (And.intro (HA7.out.2.1.below hb HA7.out.2.1.lt) (below_one HA7.out.2.2 hb)))
  clear HA7 hb
  have HLL := hide (tagd_len tLeaf one1)
  have HT1 := hide (fun W hW => tree_nil W hW)
  have HT2 := hide (fun g W hW hl => tree_one1 g W hW hl)
  have HT3 := hide (fun W hW => chain00 W hW)
  have HT4 := hide (fun W hW => tag_empty W hW)
  have HT5 := hide (fun g W hW hl => tag_chain64 g W hW hl)
  generalize tagd tLeaf one1 = L at *
  have HZD := hide (show (Tryd.prog.info? 26).map (·.size) = some (bc L).toArray.size by rw [dv_size _ HLL.out]; exact Tryd.size26)
  have HOD := hide (all_oneCell_toArray (bc_one L))
  have HSD := hide (dv_size _ HLL.out)
  have HF := hide (show ∀ W, Hid (W = (w8.alloc (.cells (List.replicate 32 (.int .u8 0)).toArray 26)).setRow w8.heap.size (bc L).toArray) → Hid (Blk W w3.heap.size 26 (bc A) ∧ Blk W (w3.heap.size + 1) 26 (bc N) ∧ Blk W w8.heap.size 26 (bc L) ∧ Below w.heap.size w W) from fun W hW => by
    rw [hW.out]
    have h : Below w8.heap.size w8 ((w8.alloc (.cells (List.replicate 32 (.int .u8 0)).toArray 26)).setRow w8.heap.size (bc L).toArray) := below_setRow (below_new w8 _) (Nat.le_refl _) _
    exact hide ⟨HA8.out.1.below h HA8.out.1.lt, HA8.out.2.1.below h HA8.out.2.1.lt, setRow_heap _ _ _ _ _ _ (heap_alloc_new w8 _), below_one HA8.out.2.2 h⟩)
  go_wp2_with (refine wpList_store_row rfl 26 (.tmp 7) (.tmp 26) rfl w8.heap.size _ rfl rfl 26 _ (heap_alloc_new w8 _) HZD.out (by rw [HSD.out]; rfl) HOD.out ?_; refine name_list ?_; intro W9 HW9; (have HA9 := HF.out W9 HW9); (obtain ⟨ca0, ca1, ca2, ca3⟩ := first4 HSA.out HA9.out.1); (obtain ⟨cn0, cn1, cn2, cn3⟩ := first4 HSN.out HA9.out.2.1); clear HW9 HF)
  clear ca0 ca1 ca2 ca3 cn0 cn1 cn2 cn3 HZD HOD HSD
  have HSS := hide (SS.mk HA9.out.2.2.1.drew HA9.out.2.2.2.drew)
  have HS9 := hide (SS.mk HA9.out.2.2.1 HA9.out.2.2.2)
  have hU := Tryd.underlying26
  have hLS : (Tryd.prog.info? 26).map (·.size) = some (bc L).length := by rw [bc_len, HLL.out]; exact Tryd.size26
  have hmk := make64
  have q1 := equalIn_same L HLL.out
  have q2 := equalIn_same (tagd tEmpty []) (tagd_len _ _)
  have q3 := equalIn_same (tagd tChain z64) (tagd_len _ _)
  go_region_held3 (fun w' => w'.rangeAt w8.heap.size 0 (bc L) ∧ Hid (Blk w' w8.heap.size 26 (bc L) ∧ Below w.heap.size w w'))
    (first | exact HSS.out | (apply SS.keep (below_new _ _).drew; exact HS9.out) | (apply SS.keep (below_new _ _); assumption) | (apply SS.keep; assumption; assumption))
    (first
      | (go_at_call 17; ((with_reducible refine (HT1.out _ (HT.out.below (SS.bel (X := w8.heap.size) (L := L) (by assumption)))).mono ?_); rintro e w1 ⟨rfl, hb⟩))
      | (go_at_call 17; ((refine (HT2.out _ _ (HT.out.below (SS.bel (X := w8.heap.size) (L := L) (by assumption))) (Blk.bs (Blk.new W9 26 (bc one1)).drew)).mono ?_); rintro e w1 ⟨rfl, hb⟩))
      | (go_at_call 14; ((with_reducible refine (HT4.out _ (HT.out.below (SS.bel (X := w8.heap.size) (L := L) (by assumption)))).mono ?_); rintro e w1 ⟨rfl, hb⟩))
      | (go_at_call 25; ((refine (HT3.out _ (HT.out.below (SS.bel (X := w8.heap.size) (L := L) (by assumption)))).mono ?_); rintro e w1 ⟨rfl, hb⟩))
      | (go_at_call 14; ((refine (HT5.out _ _ (HT.out.below (SS.bel (X := w8.heap.size) (L := L) (by assumption))) (Blk.bs (Blk.new _ 5 (bc z64)))).mono ?_); rintro e w1 ⟨rfl, hb⟩))
      | (go_at_call 14; ((refine (HT5.out _ _ (HT.out.below (SS.bel (X := w8.heap.size) (L := L) (by assumption))) (Blk.bs ((Blk.new _ 5 (bc z64)).below hb (by simp)))).mono ?_); rintro e w1 ⟨rfl, hb⟩)))
  all_goals
    have HB := hide (SS.bel (w := w) (X := w8.heap.size) (L := L) (by assumption))
    clear q1 q2 q3
    go_wp2_with fail
    go_ret
    exact ⟨rfl, HB.out⟩
end Go.Proofs.YtnopibpakchejaaDoor
