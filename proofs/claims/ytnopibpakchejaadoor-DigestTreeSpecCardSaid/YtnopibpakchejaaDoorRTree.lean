/- The reference's Tree. -/
import Derived.Test.YtnopibpakchejaaDoorRHalf
import Derived.Test.YtnopibpakchejaaDoorTree2
namespace Go.Proofs.YtnopibpakchejaaDoor
open Go.RowKit

theorem rtag_empty (w : World) : Calls Tryd.prog 15 #[.string ⟨#[101, 109, 112, 116, 121]⟩, .slice none 0 0] w fun e w' => e = .returned (dv (tagd tEmpty [])) ∧ Below w.heap.size w w' :=
  rtagged_any _ _ 0 _ [] w ⟨rfl, fun h => absurd rfl h, fun _ => rfl⟩ (by decide) (by decide)
theorem rtag_leaf (b o : Nat) (l : List UInt8) (w : World) (hl : Bs w b o l) (he : 32 = l.length) :
    Calls Tryd.prog 15 #[.string ⟨#[108, 101, 97, 102]⟩, .slice (some ⟨b, o, none⟩) (32 : Nat) 32] w fun e w' => e = .returned (dv (tagd tLeaf l)) ∧ Below w.heap.size w w' :=
  rtagged_any _ _ _ _ l w ⟨he, Sb.of hl, fun h => by cases h⟩ (by decide) (by decide)

set_option maxRecDepth 10000 in
set_option maxHeartbeats 800000 in
theorem rtree_zero (a : Option Addr) (cap : Nat) (w : World) :
    Calls Tryd.prog 18 #[.slice a 0 cap] w fun e w' => e = .returned (dv (treeL [])) ∧ Below w.heap.size w w' := by
  have HE := hide treeL_nil
  go_enter Tryd.func18, Tryd.ntmps18
  go_wp2_with fail
  refine name_world ?_
  intro W1 HW1
  have HA : Hid (Blk W1 w.heap.size 26 z32 ∧ Below w.heap.size w W1) := by
    have e : W1 = w.alloc (.cells (List.replicate 32 (.int .u8 0)).toArray 26) := HW1.out
    subst e
    rw [z32_eq]
    exact hide ⟨Blk.new _ _ _, below_new w _⟩
  clear HW1
  with_reducible refine (rtag_empty W1).mono ?_
  rintro e w2 ⟨rfl, hb2⟩
  have HR := hide (HA.out.1.below hb2 HA.out.1.lt)
  have HB := hide (below_one HA.out.2 hb2)
  clear HA hb2
  have HS := hide (dv_size _ (tagd_len tEmpty []))
  have HZ := hide (show (Tryd.prog.info? 26).map (·.size) = some ((bc (tagd tEmpty [])).toArray).size by rw [HS.out]; exact Tryd.size26)
  have HO := hide (all_oneCell_toArray (bc_one (tagd tEmpty [])))
  go_wp2_with (refine wpList_store_row rfl 26 (.tmp 2) (.tmp 7) rfl (w.heap.size) _ rfl rfl 26 _ HR.out HZ.out (by rw [HS.out, List.size_toArray, z32_len]) HO.out ?_)
  rw [HE.out]
  refine bodyPost_ret (v := dv (tagd tEmpty [])) (results_cell_row rfl _ _ (w.heap.size) 26 _ (0, 0) _ rfl (setRow_heap _ _ _ _ _ _ HR.out) Tryd.underlying26 rfl HZ.out) rfl ⟨rfl, below_setRow HB.out (by omega) _⟩

set_option maxRecDepth 10000 in
set_option maxHeartbeats 800000 in
theorem rtree_one (d : List UInt8) (b o cap : Nat) (w : World) (hd : d.length = 32) (hl : Bs w b o d) :
    Calls Tryd.prog 18 #[.slice (some ⟨b, o, none⟩) 1 cap] w fun e w' => e = .returned (dv (treeL [d])) ∧ Below w.heap.size w w' := by
  have HL := hide (And.intro hd hl)
  have HBL := hide (hl.lt (by omega))
  have HE := hide (treeL_one d)
  clear hd hl
  go_enter Tryd.func18, Tryd.ntmps18
  go_wp2_with fail
  refine name_world ?_
  intro W1 HW1
  have HA : Hid (Blk W1 w.heap.size 26 z32 ∧ Below w.heap.size w W1) := by
    have e : W1 = w.alloc (.cells (List.replicate 32 (.int .u8 0)).toArray 26) := HW1.out
    subst e
    rw [z32_eq]
    exact hide ⟨Blk.new _ _ _, below_new w _⟩
  clear HW1
  with_reducible refine (rtag_leaf b o d W1 (HL.out.2.below HA.out.2 HBL.out) HL.out.1.symm).mono ?_
  rintro e w2 ⟨rfl, hb2⟩
  have HR := hide (HA.out.1.below hb2 HA.out.1.lt)
  have HB := hide (below_one HA.out.2 hb2)
  clear HA hb2
  have HS := hide (dv_size _ (tagd_len tLeaf d))
  have HZ := hide (show (Tryd.prog.info? 26).map (·.size) = some ((bc (tagd tLeaf d)).toArray).size by rw [HS.out]; exact Tryd.size26)
  have HO := hide (all_oneCell_toArray (bc_one (tagd tLeaf d)))
  go_wp2_with (refine wpList_store_row rfl 26 (.tmp 2) (.tmp 14) rfl (w.heap.size) _ rfl rfl 26 _ HR.out HZ.out (by rw [HS.out, List.size_toArray, z32_len]) HO.out ?_)
  rw [HE.out]
  refine bodyPost_ret (v := dv (tagd tLeaf d)) (results_cell_row rfl _ _ (w.heap.size) 26 _ (0, 0) _ rfl (setRow_heap _ _ _ _ _ _ HR.out) Tryd.underlying26 rfl HZ.out) rfl ⟨rfl, below_setRow HB.out (by omega) _⟩

/-- What the reference's Tree promises of lists of n elements. -/
def RTreeAt (n : Nat) : Prop := ∀ (l : List (List UInt8)) (m cap : Nat) (a : Option Addr) (w : World), l.length = n → m = n → D32 l → Ds w a l → n ≤ cap → cap ≤ 9223372036854775807 →
  Calls Tryd.prog 18 #[.slice a m cap] w fun e w' => e = .returned (dv (treeL l)) ∧ Below w.heap.size w w'

set_option maxRecDepth 10000 in
set_option maxHeartbeats 800000 in
theorem rtree_step (n : Nat) (h2 : 2 ≤ n) (hn : n ≤ 1000) (ih : ∀ k, k < n → RTreeAt k) : RTreeAt n := by
  intro l m cap a w hl hm hD hL hcap hcap'
  subst hm
  obtain ⟨b, o, rfl, hB⟩ := hL.at hD (by omega)
  have hp1 := hp_pos m
  have hp2 := hp_lt h2
  have HTB := hide (hB)
  have blt : b < w.heap.size := hB.lt (by rw [hD.flat]; omega)
  have HTL := hide (fun (W : World) (hW : Below w.heap.size w W) => ih (hp m) hp2 (l.take (hp m)) (hp m) cap (some ⟨b, o, none⟩) W (by simp; omega) rfl (hD.take _) (Ds.of (bs_take hD (hB.below hW blt) _)) (by omega) (by omega))
  have HTR := hide (fun (W : World) (hW : Below w.heap.size w W) => ih (m - hp m) (by omega) (l.drop (hp m)) (m - hp m) (cap - hp m) (some ⟨b, o + hp m * 32, none⟩) W (by simp; omega) rfl (hD.drop _) (Ds.of (by rw [Nat.mul_comm]; exact bs_drop hD (hB.below hW blt) _)) (by omega) (by omega))
  have HND := hide (fun (W : World) (hW : Below w.heap.size w W) => rnode_any (treeL (l.take (hp m))) (treeL (l.drop (hp m))) W (treeL_len _) (treeL_len _))
  have HMO := hide (show treeL l = tagd tNode (treeL (l.take (hp m)) ++ treeL (l.drop (hp m))) by rw [treeL_more (by omega), hl])
  have HFP := hide (fun (W : World) => rhalf_any m W (by omega))
  generalize hp m = k at *
  clear hL hB ih hl hD
  go_enter Tryd.func18, Tryd.ntmps18
  go_wp2_with (go_at_call 38; refine (HFP.out _).mono ?_; rintro e w' ⟨rfl, rfl⟩)
  have HKZ := hide (Res.zero w)
  have HV := hide (tagd_len tNode (treeL (List.take k l) ++ treeL (List.drop k l)))
  have HVL : (bc (tagd tNode (treeL (List.take k l) ++ treeL (List.drop k l)))).length = 32 := by rw [bc_len, HV.out]
  have HVS : (Tryd.prog.info? 26).map (·.size) = some (bc (tagd tNode (treeL (List.take k l) ++ treeL (List.drop k l)))).length := by rw [HVL]; exact Tryd.size26
  have HVO := bc_one (tagd tNode (treeL (List.take k l) ++ treeL (List.drop k l)))
  have i1 : (0 : Int) ≤ (k : Int) := by omega
  have i2 : (k : Int) ≤ (m : Int) := by omega
  have i3 : (k : Int) ≤ (cap : Int) := by omega
  have i4 : (m : Int) ≤ (cap : Int) := by omega
  go_region_held3 (fun w' => w'.there w.heap.size 0 32 ∧ Hid ((∃ cs, Blk w' w.heap.size 26 cs ∧ cs.length = 32) ∧ w.heap.size ≤ w.heap.size ∧ Below w.heap.size w w'))
    (first | exact HKZ.out | exact Res.keep (by assumption) (by assumption) | exact (Res.put (w := w) (X := w.heap.size) (by assumption) HVL).2)
    (first | (go_at_call 18; with_reducible refine (HTL.out _ (Res.bel (X := w.heap.size) (by assumption))).mono ?_; (rintro e w1 ⟨rfl, hb⟩)) | (go_at_call 18; with_reducible refine (HTR.out _ (Res.bel (X := w.heap.size) (by assumption))).mono ?_; (rintro e w1 ⟨rfl, hb⟩)) | (go_at_call 39; with_reducible refine (HND.out _ (Res.bel (X := w.heap.size) (by assumption))).mono ?_; (rintro e w1 ⟨rfl, hb⟩)))
  have HF := hide (Res.stored (w := w) (X := w.heap.size) (by assumption) HVL)
  have HVS' := hide HVS
  clear HVS HVO
  go_wp2_with fail
  rw [HMO.out]
  refine bodyPost_ret (v := dv (tagd tNode (treeL (List.take k l) ++ treeL (List.drop k l)))) (results_cell_row rfl _ _ (w.heap.size) 26 _ (0, 0) _ rfl HF.out.1 Tryd.underlying26 rfl (by rw [List.size_toArray]; exact HVS'.out)) rfl ⟨rfl, HF.out.2⟩

theorem rtree_all (n : Nat) : n ≤ 1000 → RTreeAt n := by
  induction n using Nat.strongRecOn with
  | _ n ih =>
    intro hn
    by_cases h2 : 2 ≤ n
    · exact rtree_step n h2 hn fun k hk => ih k hk (by omega)
    · intro l m cap a w hl hm hD hL hcap hcap'
      subst hm
      match l, hl with
      | [], hl => simp at hl; subst hl; exact rtree_zero a cap w
      | [d], hl =>
        simp at hl
        subst hl
        obtain ⟨b, o, rfl, hB⟩ := hL.at hD (by simp)
        exact rtree_one d b o cap w (hD d (by simp)) (by simpa using hB)
      | _ :: _ :: _, hl => simp at hl; omega

theorem rtree_any (l : List (List UInt8)) (m cap : Nat) (a : Option Addr) (w : World) (hD : D32 l) (hL : Ds w a l) (hm : m = l.length) (hn : m ≤ 1000) (hcap : m ≤ cap) (hcap' : cap ≤ 9223372036854775807) :
    Calls Tryd.prog 18 #[.slice a m cap] w fun e w' => e = .returned (dv (treeL l)) ∧ Below w.heap.size w w' :=
  rtree_all m hn l m cap a w hm.symm rfl hD hL hcap hcap'
end Go.Proofs.YtnopibpakchejaaDoor
