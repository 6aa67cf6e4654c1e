/- The texts of a leaf and of a node; places. -/
import Derived.Test.YthjfeodclphgaaaDoorTy
import Derived.Test.YthjfeodclphgaaaDoorMk
namespace Go.Proofs.YthjfeodclphgaaaDoor
open Go.RowKit
def sLeaf : ByteArray := { data := #[108, 101, 97, 102] }
def sNode : ByteArray := { data := #[110, 111, 100, 101] }
abbrev tagL : List UInt8 := sha [108, 101, 97, 102]
abbrev tagN : List UInt8 := sha [110, 111, 100, 101]
/-- Concat of one part, empty or not. -/
theorem concat_1 (X T c1 n : Nat) (a1 : Option Addr) (l1 : List UInt8) (w : World) (hn0 : n = l1.length) (hX : Blk w X T [.slice a1 n c1]) (h1 : Sb w a1 l1) (hnil : a1 = none → c1 = 0) (hn : l1.length ≤ 1000000000) :
    Calls Tryd.prog 52 #[.slice (some ⟨X, 0, none⟩) 1 1] w (ByP l1 w) := by
  subst hn0
  by_cases h : l1 = []
  · subst h
    exact concat_nil X T c1 a1 w hX hnil
  · exact (concat_one X T c1 a1 l1 w hX h1 (List.length_pos_iff.2 h) hn).mono fun e w' h => h.by
set_option maxRecDepth 20000 in
set_option maxHeartbeats 800000 in
theorem leafText_any (a : Option Addr) (n cap : Nat) (l : List UInt8) (w : World) (hT : Tab w) (hl : Sb w a l) (he : n = l.length) (hnil : a = none → cap = 0) (hn : n ≤ 100000000) :
    Calls Tryd.prog 83 #[.slice a n cap] w (ByP (tagL ++ l) w) := by
  have HT := hide hT
  have HL := hide hl
  have HE := hide (And.intro he hnil)
  clear hT hl he hnil
  go_enter Tryd.func83, Tryd.ntmps83
  go_wp2_with fail
  have HX := hide (Blk.new w 22 [.slice a n cap])
  have HB := hide (below_new w (.cells #[.slice a n cap] 22))
  have HC := hide (text_any sLeaf (some ⟨w.heap.size, 0, none⟩) 1 1 l (w.alloc (.cells #[.slice a n cap] 22)) (HT.out.below HB.out) (by decide) (by have := HE.out.1; omega) (fun W hW => concat_1 w.heap.size 22 cap n a l W HE.out.1 (HX.out.below hW HX.out.lt) ((HL.out.below HB.out).below hW) HE.out.2 (by have := HE.out.1; omega)))
  refine HC.out.mono ?_
  rintro e w2 ⟨A, c, rfl, h1, h2, h3, h4, h5⟩
  have HR := hide (And.intro h1 (And.intro h2 (And.intro h3 (And.intro h4 (below_one HB.out h5)))))
  clear h1 h2 h3 h4 h5
  go_wp2_with fail
  go_ret
  exact ⟨A, c, by first | rfl | (simp; rfl), HR.out.1, HR.out.2.1, HR.out.2.2.1, HR.out.2.2.2.1, HR.out.2.2.2.2⟩
set_option maxRecDepth 20000 in
set_option maxHeartbeats 1600000 in
theorem nodeText_any (x y : List UInt8) (w : World) (hT : Tab w) (hx : x.length = 32) (hy : y.length = 32) :
    Calls Tryd.prog 99 #[dv x, dv y] w (ByP (nodeT tagN x y) w) := by
  have HT := hide hT
  have HD := hide (And.intro hx hy)
  have HBX : Hid (Blk ((w.alloc (.cells (bc x).toArray 26)).alloc (.cells (bc y).toArray 26)) w.heap.size 26 (bc x) ∧ Blk ((w.alloc (.cells (bc x).toArray 26)).alloc (.cells (bc y).toArray 26)) (w.heap.size + 1) 26 (bc y) ∧ Below w.heap.size w ((w.alloc (.cells (bc x).toArray 26)).alloc (.cells (bc y).toArray 26))) := by
    have h1 := Blk.new w 26 (bc x)
    have h2 := Blk.new (w.alloc (.cells (bc x).toArray 26)) 26 (bc y)
    simp only [World.size_alloc] at h2
    exact hide ⟨h1.alloc _, h2, (below_new _ _).alloc (by simp) _⟩
  clear hT hx hy
  unfold nodeT
  go_enter Tryd.func99, Tryd.ntmps99
  go_wp2_with fail
  refine name_code ?_
  intro W3 hW3
  have e : W3 = (w.alloc (.cells (bc x).toArray 26)).alloc (.cells (bc y).toArray 26) := hW3.out
  rw [← e] at HBX
  clear hW3 e
  refine wp_region_plan3 (fun w' => Below W3.heap.size W3 w') (.take 0 (.take 1 (.run 2 (.run 3 (.take 4 .done))))) (by kernel_rfl) (by kernel_rfl) ((Below.refl _ _).drew) ?_
  have HF0 := hide (show Below W3.heap.size W3 W3.drew from (Below.refl _ _).drew)
  generalize W3.drew = wD at HF0 ⊢
  (refine plan3_take (o := ?_) (v := ?_) (by simp only [List.getElem?_toArray, List.getElem?_cons_zero]; rfl) (yields_run (by rfl) ?_) ?_; rotate_left; (focus (intro w' hw'; go_simp <;> with_reducible rfl)); (simp only [Act.put, List.setIfInBounds_toArray, List.set_cons_zero, List.set_cons_succ]))
  (refine plan3_take (o := ?_) (v := ?_) (by simp only [List.getElem?_toArray, List.getElem?_cons_succ, List.getElem?_cons_zero]; rfl) (yields_run (by rfl) ?_) ?_; rotate_left; (focus (intro w' hw'; go_simp <;> with_reducible rfl)); (simp only [Act.put, List.setIfInBounds_toArray, List.set_cons_zero, List.set_cons_succ]))
  refine plan3_run (o := ?_) (by simp only [List.getElem?_toArray, List.getElem?_cons_succ, List.getElem?_cons_zero]; rfl) ?_
  intro R HR
  have HX := hide (Blk.new wD 22 [.slice (some ⟨w.heap.size, 0, none⟩) 32 32, .slice (some ⟨w.heap.size + 1, 0, none⟩) 32 32])
  have HF2 := hide (below_one HF0.out (below_new wD (.cells #[.slice (some ⟨w.heap.size, 0, none⟩) 32 32, .slice (some ⟨w.heap.size + 1, 0, none⟩) 32 32] 22)))
  go_wp2_with fail
  refine HR.out _ _ HF2.out ?_
  clear HR
  refine plan3_run (o := ?_) (by simp only [List.getElem?_toArray, List.getElem?_cons_succ, List.getElem?_cons_zero]; rfl) ?_
  intro R HR
  have HBW := hide (below_one HBX.out.2.2 HF2.out)
  have HC := hide (text_any sNode (some ⟨wD.heap.size, 0, none⟩) 2 2 (x ++ y) (wD.alloc (.cells #[.slice (some ⟨w.heap.size, 0, none⟩) 32 32, .slice (some ⟨w.heap.size + 1, 0, none⟩) 32 32] 22)) (HT.out.below HBW.out) (by decide) (by rw [List.length_append, HD.out.1, HD.out.2]; decide) (fun W hW => (concat_any wD.heap.size 22 w.heap.size 0 32 32 32 32 (some ⟨w.heap.size + 1, 0, none⟩) x y W (HX.out.below hW HX.out.lt) ((HBX.out.1.below (below_one HF2.out hW) HBX.out.1.lt).bs) (Sb.of ((HBX.out.2.1.below (below_one HF2.out hW) HBX.out.2.1.lt).bs)) HD.out.1.symm HD.out.2.symm (by decide) (by decide) (fun h => by cases h)).mono fun e w' h => h.by))
  go_wp2_with fail
  refine HC.out.mono ?_
  rintro e w5 ⟨A, c, rfl, h1, h2, h3, h4, h5⟩
  have HR5 := hide (And.intro h1 (And.intro h2 (And.intro h3 (And.intro h4 (below_one HBW.out h5)))))
  have HF5 := hide (below_one HF2.out h5)
  clear h1 h2 h3 h4 h5
  go_wp2_with fail
  refine HR.out _ _ HF5.out ?_
  clear HR
  (refine plan3_take (o := ?_) (v := ?_) (by simp only [List.getElem?_toArray, List.getElem?_cons_succ, List.getElem?_cons_zero]; rfl) (yields_run (by rfl) ?_) ?_; rotate_left; (focus (intro w' hw'; go_simp <;> with_reducible rfl)); (simp only [Act.put, List.setIfInBounds_toArray, List.set_cons_zero, List.set_cons_succ]))
  refine plan3_done ?_
  go_wp2_with fail
  go_ret
  exact ⟨A, c, by first | rfl | (simp; rfl), HR5.out.1, HR5.out.2.1, HR5.out.2.2.1, HR5.out.2.2.2.1, HR5.out.2.2.2.2⟩
end Go.Proofs.YthjfeodclphgaaaDoor
