/- Tagged, leaf, node, Chain. -/
import Derived.Test.YtalgceplcahgbaaDoorConcat
import Derived.Test.YtalgceplcahgbaaDoorSum
import Derived.Laws.IdiomStrings
namespace Go.Proofs.YtalgceplcahgbaaDoor
open Go.RowKit

def tagd (tag l : List UInt8) : List UInt8 := sha (sha tag ++ l)
set_option maxRecDepth 20000 in
theorem tagd_len (tag l : List UInt8) : (tagd tag l).length = 32 := sha_len _
set_option maxRecDepth 20000 in
theorem name_world {P : Program} {f : Nat} {args : Array Value} {w : World} {Q : Ending → World → Prop} (h : ∀ W, Hid (W = w) → Calls P f args W Q) : Calls P f args w Q := h w rfl

/-- '[]byte(s)': its capacity, and its world. -/
def cvC (s : ByteArray) (w : World) : Nat := grownCap w s.size 0 5
def cvW (s : ByteArray) (w : World) : World := w.drew.alloc (.cells (bytesRow s (grownCap w s.size 0 5)) 5 ((bytesRow s (grownCap w s.size 0 5)).size, (bytesRow s (grownCap w s.size 0 5)).size + 1))
set_option maxRecDepth 20000 in
theorem cv_run (s : ByteArray) (w : World) : (convert 9 22 (.string s)).run Tryd.prog w = .ok (.slice (some ⟨w.heap.size, 0, none⟩) s.size (cvC s w)) (cvW s w) :=
  run_bytes_of_string w 9 22 5 s Tryd.underlying9 Tryd.underlying22 Tryd.underlying5
set_option maxRecDepth 20000 in
theorem cv_post (s : ByteArray) (w : World) (h : s.size ≤ 1000000000) : s.size ≤ cvC s w ∧ cvC s w ≤ 9223372036854775807 ∧ Bs (cvW s w) w.heap.size 0 s.data.toList ∧ Below w.heap.size w (cvW s w) ∧ (cvW s w).heap.size = w.heap.size + 1 := by
  refine ⟨grownCap_ge _ _ _ _, grownCap_le_maxLen _ _ _ _ (by unfold maxLen; omega), ?_, (Below.refl _ _).drew.alloc (Nat.le_refl _) _, by simp [cvW]⟩
  intro i hi
  unfold cvW
  rw [cell_of_row _ w.heap.size (0 + i) _ _ _ (heap_alloc_new w.drew _), Nat.zero_add, bytesRow_at s _ i (by simpa using hi)]
  rfl
set_option maxRecDepth 20000 in
theorem cvC_alloc (s : ByteArray) (w : World) (o : Obj) : cvC s (w.alloc o) = cvC s w := rfl
attribute [irreducible] cvC cvW tagd

set_option maxRecDepth 20000 in
theorem sum_is (a : Option Addr) (n cap : Nat) (l : List UInt8) (w : World) (hT : Tab w) (hl : Sb w a l) (he : n = l.length) (hle : n ≤ cap) (hcap : cap ≤ 9223372036854775807) (hn : n ≤ 100000000) :
    Calls Tryd.prog 18 #[.slice a n cap] w fun e w' => e = .returned (dv (sha l)) ∧ Below w.heap.size w w' := by
  subst he
  exact sum_any a cap l w hT hl hle hcap hn
set_option maxRecDepth 20000 in
theorem Blk.bs {w : World} {X T : Nat} {l : List UInt8} (h : Blk w X T (bc l)) : Bs w X 0 l := Bs.blk h
set_option maxRecDepth 20000 in
theorem Sb.of {w : World} {b o : Nat} {l : List UInt8} (h : Bs w b o l) : Sb w (some ⟨b, o, none⟩) l := fun _ => ⟨b, o, rfl, h⟩
set_option maxRecDepth 20000 in
theorem dv_size (l : List UInt8) (h : l.length = 32) : (bc l).toArray.size = 32 := by simp [bc_len, h]

set_option maxRecDepth 20000 in
/-- A row that is made, filled, and named in a list. -/
theorem row_then (w W : World) (T U : Nat) (zs : Array Value) (cs vs : List Value) (h : W = ((w.alloc (.cells zs T)).setRow w.heap.size cs.toArray).alloc (.cells vs.toArray U)) :
    Blk W w.heap.size T cs ∧ Blk W (w.heap.size + 1) U vs ∧ Below w.heap.size w W := by
  subst h
  have h1 : Blk ((w.alloc (.cells zs T)).setRow w.heap.size cs.toArray) w.heap.size T cs := setRow_heap _ w.heap.size _ _ T _ (heap_alloc_new w _)
  have hs : ((w.alloc (.cells zs T)).setRow w.heap.size cs.toArray).heap.size = w.heap.size + 1 := by simp
  have h2 := Blk.new ((w.alloc (.cells zs T)).setRow w.heap.size cs.toArray) U vs
  rw [hs] at h2
  exact ⟨h1.alloc _, h2, (below_setRow (below_new w _) (Nat.le_refl _) _).alloc (by rw [hs]; omega) _⟩

set_option maxRecDepth 20000 in
set_option maxHeartbeats 800000 in
theorem tagged_any (s : ByteArray) (a : Option Addr) (n cap : Nat) (l : List UInt8) (w : World) (hT : Tab w) (hl : Sb w a l) (he : n = l.length) (hn : n ≤ 10000000) (hs : s.size ≤ 10000000) (hnil : a = none → cap = 0) :
    Calls Tryd.prog 20 #[.string s, .slice a n cap] w fun e w' => e = .returned (dv (tagd s.data.toList l)) ∧ Below w.heap.size w w' := by
  have HT := hide hT
  have HL := hide hl
  have HE := hide (And.intro he hnil)
  have HCP := hide (fun W => cv_post s W (by omega))
  have hcv := cv_run s
  have hca := cvC_alloc s
  clear hT hl he hnil
  go_enter Tryd.func20, Tryd.ntmps20
  go_wp2_with fail
  refine name_world ?_
  intro W1 HW1
  clear hcv hca
  have HA : Hid (Blk W1 w.heap.size 26 (List.replicate 32 (.int .u8 0)) ∧ Below w.heap.size w W1 ∧ Bs W1 (w.heap.size + 1) 0 s.data.toList ∧ s.size ≤ cvC s w ∧ cvC s w ≤ 9223372036854775807) := by
    have h := HCP.out (w.alloc (.cells (List.replicate 32 (.int .u8 0)).toArray 26))
    rw [cvC_alloc] at h
    have e : W1 = cvW s (w.alloc (.cells (List.replicate 32 (.int .u8 0)).toArray 26)) := HW1.out
    rw [e]
    have hb := Blk.new w 26 (List.replicate 32 (.int .u8 0))
    refine hide ⟨hb.below h.2.2.2.1 (by simp), below_one (below_new w _) h.2.2.2.1, ?_, h.1, h.2.1⟩
    have := h.2.2.1
    simpa using this
  clear HW1
  with_reducible refine (sum_is (some ⟨w.heap.size + 1, 0, none⟩) s.size (cvC s w) s.data.toList W1 (HT.out.below HA.out.2.1) (Sb.of HA.out.2.2.1) (by simp) HA.out.2.2.2.1 HA.out.2.2.2.2 (by omega)).mono ?_
  rintro e w2 ⟨rfl, hb2⟩
  have HR := hide (Blk.below HA.out.1 hb2 HA.out.1.lt)
  have HB2 := hide (below_one HA.out.2.1 hb2)
  have hz2 : w.heap.size + 1 ≤ w2.heap.size := Nat.le_trans HA.out.1.lt hb2.size
  clear HA
  have hsz : (Tryd.prog.info? 26).map (·.size) = some ((bc (sha s.data.toList)).toArray).size := by rw [dv_size _ (sha_len _)]; exact Tryd.size26
  have HZ := hide hsz
  have HO := hide (all_oneCell_toArray (bc_one (sha s.data.toList)))
  have HZ2 := hide (dv_size _ (sha_len s.data.toList))
  clear hsz hb2
  go_wp2_with (refine wpList_store_row rfl 26 (.tmp 5) (.tmp 8) rfl w2.heap.size _ rfl rfl 26 _ (heap_alloc_new w2 _) HZ.out (by rw [HZ2.out]; rfl) HO.out ?_)
  refine name_world ?_
  intro W3 HW3
  have HA : Hid (Blk W3 w.heap.size 26 (List.replicate 32 (.int .u8 0)) ∧ Below w.heap.size w W3 ∧ Blk W3 w2.heap.size 26 (bc (sha s.data.toList)) ∧ Blk W3 (w2.heap.size + 1) 22 [.slice (some ⟨w2.heap.size, 0, none⟩) 32 32, .slice a n cap]) := by
    obtain ⟨h1, h2, h3⟩ := row_then w2 W3 26 22 _ _ [.slice (some ⟨w2.heap.size, 0, none⟩) 32 32, .slice a n cap] HW3.out
    exact hide ⟨HR.out.below h3 HR.out.lt, below_one HB2.out h3, h1, h2⟩
  clear HW3 HR HB2
  have HL3 := hide (HL.out.below HA.out.2.1)
  with_reducible refine (concat_any (w2.heap.size + 1) 22 w2.heap.size 0 32 cap 32 n a (sha s.data.toList) l W3 HA.out.2.2.2 HA.out.2.2.1.bs HL3.out (by rw [sha_len]) HE.out.1 (by decide) (by omega) HE.out.2).mono ?_
  rintro e w4 ⟨g, c4, rfl, hB4, hle4, hcap4, hb4⟩
  have HB4 := hide hB4
  have HR4 := hide (HA.out.1.below hb4 HA.out.1.lt)
  have HBL4 := hide (below_one HA.out.2.1 hb4)
  have hlen : (sha s.data.toList ++ l).length = 32 + n := by rw [List.length_append, sha_len, HE.out.1]
  rw [hlen] at hle4 ⊢
  have HLEN := hide hlen
  clear hb4 hB4 hlen HA
  have HT4 := hide (HT.out.below HBL4.out)
  go_wp2_with fail
  with_reducible refine (sum_is (some ⟨g, 0, none⟩) (32 + n) c4 (sha s.data.toList ++ l) w4 HT4.out (Sb.of HB4.out) HLEN.out.symm hle4 hcap4 (by omega)).mono ?_
  rintro e w5 ⟨rfl, hb5⟩
  have HR5 := hide (HR4.out.below hb5 HR4.out.lt)
  have HBL5 := hide (below_one HBL4.out hb5)
  clear HR4 HBL4 HT4 HB4 hb5 HLEN HZ HO HZ2
  have HDEF : Hid (sha (sha s.data.toList ++ l) = tagd s.data.toList l) := hide (by unfold tagd; rfl)
  rw [HDEF.out]
  clear HDEF
  have HS := hide (dv_size _ (tagd_len s.data.toList l))
  have HZ := hide (show (Tryd.prog.info? 26).map (·.size) = some ((bc (tagd s.data.toList l)).toArray).size by rw [HS.out]; exact Tryd.size26)
  have HO := hide (all_oneCell_toArray (bc_one (tagd s.data.toList l)))
  go_wp2_with (refine wpList_store_row rfl 26 (.tmp 4) (.tmp 13) rfl w.heap.size _ rfl rfl 26 _ HR5.out HZ.out (by rw [HS.out]; rfl) HO.out ?_)
  refine bodyPost_ret (v := dv (tagd s.data.toList l)) (results_cell_row rfl _ _ w.heap.size 26 _ (0, 0) _ rfl (setRow_heap _ _ _ _ _ _ HR5.out) Tryd.underlying26 rfl HZ.out) rfl ⟨rfl, below_setRow HBL5.out (Nat.le_refl _) _⟩
end Go.Proofs.YtalgceplcahgbaaDoor
