/- leaf, node, Chain. -/
import Derived.Test.YtnopibpakchejaaDoorTag
namespace Go.Proofs.YtnopibpakchejaaDoor
open Go.RowKit

def tLeaf : List UInt8 := [108, 101, 97, 102]
def tNode : List UInt8 := [110, 111, 100, 101]
def tEmpty : List UInt8 := [101, 109, 112, 116, 121]
def tChain : List UInt8 := [99, 104, 97, 105, 110]

theorem tag_leaf (b n cap : Nat) (l : List UInt8) (w : World) (hT : Tab w) (hl : Bs w b 0 l) (he : n = l.length) (hn : n ≤ 10000000) :
    Calls Tryd.prog 14 #[.string ⟨#[108, 101, 97, 102]⟩, .slice (some ⟨b, 0, none⟩) n cap] w fun e w' => e = .returned (dv (tagd tLeaf l)) ∧ Below w.heap.size w w' :=
  tagged_any _ _ _ _ l w hT (Sb.of hl) he hn (by decide) (fun h => by cases h)

set_option maxRecDepth 10000 in
set_option maxHeartbeats 800000 in
theorem leaf_any (d : List UInt8) (w : World) (hT : Tab w) (hd : d.length = 32) :
    Calls Tryd.prog 35 #[dv d] w fun e w' => e = .returned (dv (tagd tLeaf d)) ∧ Below w.heap.size w w' := by
  have HT := hide hT
  have HD := hide hd
  clear hT hd
  go_enter Tryd.func35, Tryd.ntmps35
  go_wp2_with fail
  refine name_world ?_
  intro W1 HW1
  have HA : Hid (Blk W1 w.heap.size 26 (bc d) ∧ Blk W1 (w.heap.size + 1) 26 (List.replicate 32 (.int .u8 0)) ∧ Below w.heap.size w W1) := by
    have h1 := Blk.new w 26 (bc d)
    have h2 := Blk.new (w.alloc (.cells (bc d).toArray 26)) 26 (List.replicate 32 (.int .u8 0))
    rw [World.size_alloc] at h2
    have e : W1 = (w.alloc (.cells (bc d).toArray 26)).alloc (.cells (List.replicate 32 (.int .u8 0)).toArray 26) := HW1.out
    subst e
    exact hide ⟨h1.alloc _, h2, (below_new w _).alloc (by simp) _⟩
  clear HW1
  with_reducible refine (tag_leaf w.heap.size 32 32 d W1 (HT.out.below HA.out.2.2) HA.out.1.bs HD.out.symm (by decide)).mono ?_
  rintro e w2 ⟨rfl, hb2⟩
  have HR := hide (HA.out.2.1.below hb2 HA.out.2.1.lt)
  have HB := hide (below_one HA.out.2.2 hb2)
  clear HA hb2
  have HS := hide (dv_size _ (tagd_len tLeaf d))
  have HZ := hide (show (Tryd.prog.info? 26).map (·.size) = some ((bc (tagd tLeaf d)).toArray).size by rw [HS.out]; exact Tryd.size26)
  have HO := hide (all_oneCell_toArray (bc_one (tagd tLeaf d)))
  go_wp2_with (refine wpList_store_row rfl 26 (.tmp 2) (.tmp 4) rfl (w.heap.size + 1) _ rfl rfl 26 _ HR.out HZ.out (by rw [HS.out]; rfl) HO.out ?_)
  refine bodyPost_ret (v := dv (tagd tLeaf d)) (results_cell_row rfl _ _ (w.heap.size + 1) 26 _ (0, 0) _ rfl (setRow_heap _ _ _ _ _ _ HR.out) Tryd.underlying26 rfl HZ.out) rfl ⟨rfl, below_setRow HB.out (by omega) _⟩

theorem name_list {P : Program} {ops : Array Oper} {Q : Exit → Act → World → Prop} {os : List Oper} {a : Act} {w : World} (h : ∀ W, Hid (W = w) → wpList P ops Q os a W) : wpList P ops Q os a w := h w rfl
theorem three_new (w : World) (A B C : Nat) (a b c : List Value) :
    Blk (((w.alloc (.cells a.toArray A)).alloc (.cells b.toArray B)).alloc (.cells c.toArray C)).drew w.heap.size A a ∧ Blk (((w.alloc (.cells a.toArray A)).alloc (.cells b.toArray B)).alloc (.cells c.toArray C)).drew (w.heap.size + 1) B b ∧
    Blk (((w.alloc (.cells a.toArray A)).alloc (.cells b.toArray B)).alloc (.cells c.toArray C)).drew (w.heap.size + 2) C c ∧ Below w.heap.size w (((w.alloc (.cells a.toArray A)).alloc (.cells b.toArray B)).alloc (.cells c.toArray C)).drew ∧ (((w.alloc (.cells a.toArray A)).alloc (.cells b.toArray B)).alloc (.cells c.toArray C)).drew.heap.size = w.heap.size + 3 := by
  have h1 := Blk.new w A a
  have h2 := Blk.new (w.alloc (.cells a.toArray A)) B b
  have h3 := Blk.new ((w.alloc (.cells a.toArray A)).alloc (.cells b.toArray B)) C c
  simp only [World.size_alloc] at h2 h3
  refine ⟨((h1.alloc _).alloc _).drew, (h2.alloc _).drew, h3.drew, (((below_new w _).alloc (by simp) _).alloc (by simp; omega) _).drew, by simp⟩

theorem tag_node (g n cap : Nat) (l : List UInt8) (w : World) (hT : Tab w) (hl : Bs w g 0 l) (he : n = l.length) (hn : n ≤ 10000000) :
    Calls Tryd.prog 14 #[.string ⟨#[110, 111, 100, 101]⟩, .slice (some ⟨g, 0, none⟩) n cap] w fun e w' => e = .returned (dv (tagd tNode l)) ∧ Below w.heap.size w w' :=
  tagged_any _ _ _ _ l w hT (Sb.of hl) he hn (by decide) (fun h => by cases h)

set_option maxRecDepth 10000 in
set_option maxHeartbeats 800000 in
theorem node_any (a b : List UInt8) (w : World) (hT : Tab w) (ha : a.length = 32) (hb : b.length = 32) :
    Calls Tryd.prog 37 #[dv a, dv b] w fun e w' => e = .returned (dv (tagd tNode (a ++ b))) ∧ Below w.heap.size w w' := by
  have HT := hide hT
  have HD := hide (And.intro ha hb)
  clear hT ha hb
  go_enter Tryd.func37, Tryd.ntmps37
  go_wp2_with fail
  go_still_tail 2, (by kernel_rfl)
  refine name_list ?_
  intro W1 HW1
  have HA : Hid (Blk W1 w.heap.size 26 (bc a) ∧ Blk W1 (w.heap.size + 1) 26 (bc b) ∧ Blk W1 (w.heap.size + 2) 26 (List.replicate 32 (.int .u8 0)) ∧ Below w.heap.size w W1 ∧ W1.heap.size = w.heap.size + 3) := by
    have e : W1 = (((w.alloc (.cells (bc a).toArray 26)).alloc (.cells (bc b).toArray 26)).alloc (.cells (List.replicate 32 (.int .u8 0)).toArray 26)).drew := HW1.out
    subst e
    exact hide (three_new w 26 26 26 _ _ _)
  clear HW1
  go_wp2_with fail
  refine name_world ?_
  intro W2 HW2
  have HA2 : Hid (Blk W2 w.heap.size 26 (bc a) ∧ Blk W2 (w.heap.size + 1) 26 (bc b) ∧ Blk W2 (w.heap.size + 2) 26 (List.replicate 32 (.int .u8 0)) ∧ Below w.heap.size w W2 ∧ Blk W2 W1.heap.size 22 [.slice (some ⟨w.heap.size, 0, none⟩) 32 32, .slice (some ⟨w.heap.size + 1, 0, none⟩) 32 32]) := by
    have e : W2 = W1.alloc (.cells [.slice (some ⟨w.heap.size, 0, none⟩) 32 32, .slice (some ⟨w.heap.size + 1, 0, none⟩) 32 32].toArray 22) := HW2.out
    subst e
    exact hide ⟨HA.out.1.alloc _, HA.out.2.1.alloc _, HA.out.2.2.1.alloc _, HA.out.2.2.2.1.alloc HA.out.2.2.2.1.size _, Blk.new _ _ _⟩
  clear HW2 HA
  with_reducible refine (concat_any W1.heap.size 22 w.heap.size 0 32 32 32 32 (some ⟨w.heap.size + 1, 0, none⟩) a b W2 HA2.out.2.2.2.2 HA2.out.1.bs (Sb.of HA2.out.2.1.bs) HD.out.1.symm HD.out.2.symm (by decide) (by decide) (fun h => by cases h)).mono ?_
  rintro e w3 ⟨g, c3, rfl, hB3, _, _, hb3⟩
  have HA3 := hide (And.intro (HA2.out.2.2.1.below hb3 HA2.out.2.2.1.lt) (And.intro (below_one HA2.out.2.2.2.1 hb3) hB3))
  have hlen : (a ++ b).length = 64 := by rw [List.length_append, HD.out.1, HD.out.2]
  rw [hlen]
  have HLEN := hide hlen
  clear HA2 hb3 hB3 hlen
  go_wp2_with fail
  with_reducible refine (tag_node g 64 c3 (a ++ b) w3 (HT.out.below HA3.out.2.1) HA3.out.2.2 HLEN.out.symm (by decide)).mono ?_
  rintro e w4 ⟨rfl, hb4⟩
  have HR := hide (HA3.out.1.below hb4 HA3.out.1.lt)
  have HB := hide (below_one HA3.out.2.1 hb4)
  clear HA3 hb4
  have HS := hide (dv_size _ (tagd_len tNode (a ++ b)))
  have HZ := hide (show (Tryd.prog.info? 26).map (·.size) = some ((bc (tagd tNode (a ++ b))).toArray).size by rw [HS.out]; exact Tryd.size26)
  have HO := hide (all_oneCell_toArray (bc_one (tagd tNode (a ++ b))))
  go_wp2_with (refine wpList_store_row rfl 26 (.tmp 4) (.tmp 9) rfl (w.heap.size + 2) _ rfl rfl 26 _ HR.out HZ.out (by rw [HS.out]; rfl) HO.out ?_)
  refine bodyPost_ret (v := dv (tagd tNode (a ++ b))) (results_cell_row rfl _ _ (w.heap.size + 2) 26 _ (0, 0) _ rfl (setRow_heap _ _ _ _ _ _ HR.out) Tryd.underlying26 rfl HZ.out) rfl ⟨rfl, below_setRow HB.out (by omega) _⟩

theorem tag_chain (g n cap : Nat) (l : List UInt8) (w : World) (hT : Tab w) (hl : Bs w g 0 l) (he : n = l.length) (hn : n ≤ 10000000) :
    Calls Tryd.prog 14 #[.string ⟨#[99, 104, 97, 105, 110]⟩, .slice (some ⟨g, 0, none⟩) n cap] w fun e w' => e = .returned (dv (tagd tChain l)) ∧ Below w.heap.size w w' :=
  tagged_any _ _ _ _ l w hT (Sb.of hl) he hn (by decide) (fun h => by cases h)

set_option maxRecDepth 10000 in
set_option maxHeartbeats 800000 in
theorem chain_any (a b : List UInt8) (w : World) (hT : Tab w) (ha : a.length = 32) (hb : b.length = 32) :
    Calls Tryd.prog 25 #[dv a, dv b] w fun e w' => e = .returned (dv (tagd tChain (a ++ b))) ∧ Below w.heap.size w w' := by
  have HT := hide hT
  have HD := hide (And.intro ha hb)
  clear hT ha hb
  go_enter Tryd.func25, Tryd.ntmps25
  go_wp2_with fail
  go_still_tail 2, (by kernel_rfl)
  refine name_list ?_
  intro W1 HW1
  have HA : Hid (Blk W1 w.heap.size 26 (bc a) ∧ Blk W1 (w.heap.size + 1) 26 (bc b) ∧ Blk W1 (w.heap.size + 2) 26 (List.replicate 32 (.int .u8 0)) ∧ Below w.heap.size w W1 ∧ W1.heap.size = w.heap.size + 3) := by
    have e : W1 = (((w.alloc (.cells (bc a).toArray 26)).alloc (.cells (bc b).toArray 26)).alloc (.cells (List.replicate 32 (.int .u8 0)).toArray 26)).drew := HW1.out
    subst e
    exact hide (three_new w 26 26 26 _ _ _)
  clear HW1
  go_wp2_with fail
  refine name_world ?_
  intro W2 HW2
  have HA2 : Hid (Blk W2 w.heap.size 26 (bc a) ∧ Blk W2 (w.heap.size + 1) 26 (bc b) ∧ Blk W2 (w.heap.size + 2) 26 (List.replicate 32 (.int .u8 0)) ∧ Below w.heap.size w W2 ∧ Blk W2 W1.heap.size 22 [.slice (some ⟨w.heap.size, 0, none⟩) 32 32, .slice (some ⟨w.heap.size + 1, 0, none⟩) 32 32]) := by
    have e : W2 = W1.alloc (.cells [.slice (some ⟨w.heap.size, 0, none⟩) 32 32, .slice (some ⟨w.heap.size + 1, 0, none⟩) 32 32].toArray 22) := HW2.out
    subst e
    exact hide ⟨HA.out.1.alloc _, HA.out.2.1.alloc _, HA.out.2.2.1.alloc _, HA.out.2.2.2.1.alloc HA.out.2.2.2.1.size _, Blk.new _ _ _⟩
  clear HW2 HA
  with_reducible refine (concat_any W1.heap.size 22 w.heap.size 0 32 32 32 32 (some ⟨w.heap.size + 1, 0, none⟩) a b W2 HA2.out.2.2.2.2 HA2.out.1.bs (Sb.of HA2.out.2.1.bs) HD.out.1.symm HD.out.2.symm (by decide) (by decide) (fun h => by cases h)).mono ?_
  rintro e w3 ⟨g, c3, rfl, hB3, _, _, hb3⟩
  have HA3 := hide (And.intro (HA2.out.2.2.1.below hb3 HA2.out.2.2.1.lt) (And.intro (below_one HA2.out.2.2.2.1 hb3) hB3))
  have hlen : (a ++ b).length = 64 := by rw [List.length_append, HD.out.1, HD.out.2]
  rw [hlen]
  have HLEN := hide hlen
  clear HA2 hb3 hB3 hlen
  go_wp2_with fail
  with_reducible refine (tag_chain g 64 c3 (a ++ b) w3 (HT.out.below HA3.out.2.1) HA3.out.2.2 HLEN.out.symm (by decide)).mono ?_
  rintro e w4 ⟨rfl, hb4⟩
  have HR := hide (HA3.out.1.below hb4 HA3.out.1.lt)
  have HB := hide (below_one HA3.out.2.1 hb4)
  clear HA3 hb4
  have HS := hide (dv_size _ (tagd_len tChain (a ++ b)))
  have HZ := hide (show (Tryd.prog.info? 26).map (·.size) = some ((bc (tagd tChain (a ++ b))).toArray).size by rw [HS.out]; exact Tryd.size26)
  have HO := hide (all_oneCell_toArray (bc_one (tagd tChain (a ++ b))))
  go_wp2_with (refine wpList_store_row rfl 26 (.tmp 4) (.tmp 9) rfl (w.heap.size + 2) _ rfl rfl 26 _ HR.out HZ.out (by rw [HS.out]; rfl) HO.out ?_)
  refine bodyPost_ret (v := dv (tagd tChain (a ++ b))) (results_cell_row rfl _ _ (w.heap.size + 2) 26 _ (0, 0) _ rfl (setRow_heap _ _ _ _ _ _ HR.out) Tryd.underlying26 rfl HZ.out) rfl ⟨rfl, below_setRow HB.out (by omega) _⟩

end Go.Proofs.YtnopibpakchejaaDoor
