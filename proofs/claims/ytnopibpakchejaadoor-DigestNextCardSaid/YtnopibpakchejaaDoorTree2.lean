/- Tree, by halves. -/
import Derived.Test.YtnopibpakchejaaDoorTree
namespace Go.Proofs.YtnopibpakchejaaDoor
open Go.RowKit

/-- A block of 32 cells of the call's own at X. -/
abbrev Res (w : World) (X : Nat) (w' : World) : Prop := w'.there X 0 32 ∧ Hid ((∃ cs, Blk w' X 26 cs ∧ cs.length = 32) ∧ w.heap.size ≤ X ∧ Below w.heap.size w w')
theorem Res.new {w W : World} {X : Nat} {cs : List Value} (h : Blk W X 26 cs) (hl : cs.length = 32) (hX : w.heap.size ≤ X) (hb : Below w.heap.size w W) : Res w X W := ⟨h.there hl, hide ⟨⟨cs, h, hl⟩, hX, hb⟩⟩
theorem Res.bel {w W : World} {X : Nat} (h : Res w X W) : Below w.heap.size w W := h.2.2.2
theorem Res.keep {w W W' : World} {X : Nat} (h : Res w X W) (hb : Below W.heap.size W W') : Res w X W' := by
  obtain ⟨_, ⟨cs, hc, hl⟩, hX, hbel⟩ := h
  exact Res.new (hc.below hb hc.lt) hl hX (below_one hbel hb)
theorem Res.put {w W : World} {X : Nat} (h : Res w X W) {vs : List Value} (hv : vs.length = 32) : Blk (W.setCells X 0 vs) X 26 vs ∧ Res w X (W.setCells X 0 vs) := by
  obtain ⟨_, ⟨cs, hc, hl⟩, hX, hbel⟩ := h
  have := hc.setAll (vs := vs) (by rw [hl, hv])
  exact ⟨this, Res.new this hv hX (below_setCells hbel hX _ _)⟩
theorem blk_before1 {w : World} {X i T : Nat} {v : Value} {cs : List Value} (h : Blk (w.setCell ⟨X, i, none⟩ v) X T cs) : ∃ old, Blk w X T old ∧ old.length = cs.length := by
  unfold Blk World.setCell at h
  simp only [Array.getElem?_modify, if_true] at h
  cases hx : w.heap[X]? with
  | none => rw [hx] at h; cases h
  | some ob =>
    rw [hx] at h
    cases ob with
    | cells c e f =>
      simp only [Option.map_some, Option.isSome_none, Bool.false_eq_true, if_false, Option.some.injEq, Obj.cells.injEq] at h
      obtain ⟨h1, rfl, rfl⟩ := h
      refine ⟨c.toList, by unfold Blk; rw [hx], ?_⟩
      have := congrArg Array.size h1
      simpa using this
    | _ => simp at h
theorem blk_before {X T : Nat} : ∀ (vs : List Value) (o : Nat) (w : World) {cs : List Value}, Blk (w.setCells X o vs) X T cs → ∃ old, Blk w X T old ∧ old.length = cs.length
  | [], _, _, cs, h => ⟨cs, h, rfl⟩
  | v :: vs, o, w, cs, h => by
    obtain ⟨o1, h1, e1⟩ := blk_before vs (o + 1) (w.setCell ⟨X, o, none⟩ v) h
    obtain ⟨o2, h2, e2⟩ := blk_before1 h1
    exact ⟨o2, h2, e2.trans e1⟩
/-- Behind the store of a digest the block holds it. -/
theorem Res.stored {w W : World} {X : Nat} {vs : List Value} (h : Res w X (W.setCells X 0 vs)) (hv : vs.length = 32) : Blk (W.setCells X 0 vs) X 26 vs ∧ Below w.heap.size w (W.setCells X 0 vs) := by
  refine ⟨?_, h.bel⟩
  obtain ⟨_, ⟨cs, hc, hl⟩, _, _⟩ := h
  obtain ⟨old, ho, hlo⟩ := blk_before _ _ _ hc
  exact ho.setAll (by rw [hlo, hl, hv])
theorem Res.zero (w : World) : Res w w.heap.size (w.alloc (.cells (List.replicate 32 (.int .u8 0)).toArray 26)).drew := by
  rw [z32_eq]
  exact Res.new (Blk.new w 26 z32).drew z32_len (Nat.le_refl _) (below_new w _).drew

/-- What Tree promises of lists of n elements. -/
def TreeAt (n : Nat) : Prop := ∀ (l : List (List UInt8)) (m cap : Nat) (a : Option Addr) (w : World), l.length = n → m = n → Tab w → D32 l → Ds w a l → n ≤ cap → cap ≤ 9223372036854775807 →
  Calls Tryd.prog 17 #[.slice a m cap] w fun e w' => e = .returned (dv (treeL l)) ∧ Below w.heap.size w w'

set_option maxRecDepth 10000 in
set_option maxHeartbeats 800000 in
theorem tree_step (n : Nat) (h2 : 2 ≤ n) (hn : n ≤ 1000) (ih : ∀ k, k < n → TreeAt k) : TreeAt n := by
  intro l m cap a w hl hm hT hD hL hcap hcap'
  subst hm
  obtain ⟨b, o, rfl, hB⟩ := hL.at hD (by omega)
  have hp1 := hp_pos m
  have hp2 := hp_lt h2
  have HTB := hide (And.intro hT hB)
  have blt : b < w.heap.size := hB.lt (by rw [hD.flat]; omega)
  have HTL := hide (fun (W : World) (hW : Below w.heap.size w W) => ih (hp m) hp2 (l.take (hp m)) (hp m) cap (some ⟨b, o, none⟩) W (by simp; omega) rfl (hT.below hW) (hD.take _) (Ds.of (bs_take hD (hB.below hW blt) _)) (by omega) (by omega))
  have HTR := hide (fun (W : World) (hW : Below w.heap.size w W) => ih (m - hp m) (by omega) (l.drop (hp m)) (m - hp m) (cap - hp m) (some ⟨b, o + hp m * 32, none⟩) W (by simp; omega) rfl (hT.below hW) (hD.drop _) (Ds.of (by rw [Nat.mul_comm]; exact bs_drop hD (hB.below hW blt) _)) (by omega) (by omega))
  have HND := hide (fun (W : World) (hW : Below w.heap.size w W) => node_any (treeL (l.take (hp m))) (treeL (l.drop (hp m))) W (hT.below hW) (treeL_len _) (treeL_len _))
  have HMO := hide (show treeL l = tagd tNode (treeL (l.take (hp m)) ++ treeL (l.drop (hp m))) by rw [treeL_more (by omega), hl])
  have HFP := hide (fun (W : World) => firstPart_any m W h2 (by omega))
  generalize hp m = k at *
  clear hT hL hB ih hl hD
  go_enter Tryd.func17, Tryd.ntmps17
  go_wp2_with (go_at_call 36; refine (HFP.out _).mono ?_; rintro e w' ⟨rfl, rfl⟩)
  have HKZ := hide (Res.zero w)
  have HV := hide (tagd_len tNode (treeL (List.take k l) ++ treeL (List.drop k l)))
  have HVL : (bc (tagd tNode (treeL (List.take k l) ++ treeL (List.drop k l)))).length = 32 := by rw [bc_len, HV.out]
  have HVS : (Tryd.prog.info? 26).map (·.size) = some (bc (tagd tNode (treeL (List.take k l) ++ treeL (List.drop k l)))).length := by rw [HVL]; exact Tryd.size26
  have HVO := bc_one (tagd tNode (treeL (List.take k l) ++ treeL (List.drop k l)))
  have i1 : (0 : Int) ≤ (k : Int) := by omega
  have i2 : (k : Int) ≤ (m : Int) := by omega
  have i3 : (k : Int) ≤ (cap : Int) := by omega
  have i4 : (m : Int) ≤ (cap : Int) := by omega
  go_region_held3 (fun w' => w'.there w.heap.size 0 32 ∧ Hid ((∃ cs, Blk w' w.heap.size 26 cs ∧ cs.length = 32) ∧ w.heap.size ≤ w.heap.size ∧ Below w.heap.size w w'))
    (first | exact HKZ.out | exact Res.keep (by assumption) (by assumption) | exact (Res.put (w := w) (X := w.heap.size) (by assumption) HVL).2)
    (first | (go_at_call 17; with_reducible refine (HTL.out _ (Res.bel (X := w.heap.size) (by assumption))).mono ?_; (rintro e w1 ⟨rfl, hb⟩)) | (go_at_call 17; with_reducible refine (HTR.out _ (Res.bel (X := w.heap.size) (by assumption))).mono ?_; (rintro e w1 ⟨rfl, hb⟩)) | (go_at_call 37; with_reducible refine (HND.out _ (Res.bel (X := w.heap.size) (by assumption))).mono ?_; (rintro e w1 ⟨rfl, hb⟩)))
  have HF := hide (Res.stored (w := w) (X := w.heap.size) (by assumption) HVL)
  have HVS' := hide HVS
  clear HVS HVO
  go_wp2_with fail
  rw [HMO.out]
  refine bodyPost_ret (v := dv (tagd tNode (treeL (List.take k l) ++ treeL (List.drop k l)))) (results_cell_row rfl _ _ (w.heap.size) 26 _ (0, 0) _ rfl HF.out.1 Tryd.underlying26 rfl (by rw [List.size_toArray]; exact HVS'.out)) rfl ⟨rfl, HF.out.2⟩

theorem tree_all (n : Nat) : n ≤ 1000 → TreeAt n := by
  induction n using Nat.strongRecOn with
  | _ n ih =>
    intro hn
    by_cases h2 : 2 ≤ n
    · exact tree_step n h2 hn fun k hk => ih k hk (by omega)
    · intro l m cap a w hl hm hT hD hL hcap hcap'
      subst hm
      match l, hl with
      | [], hl => simp at hl; subst hl; exact tree_zero a cap w hT
      | [d], hl =>
        simp at hl
        subst hl
        obtain ⟨b, o, rfl, hB⟩ := hL.at hD (by simp)
        exact tree_one d b o cap w hT (hD d (by simp)) (by simpa using hB)
      | _ :: _ :: _, hl => simp at hl; omega

theorem tree_any (l : List (List UInt8)) (m cap : Nat) (a : Option Addr) (w : World) (hT : Tab w) (hD : D32 l) (hL : Ds w a l) (hm : m = l.length) (hn : m ≤ 1000) (hcap : m ≤ cap) (hcap' : cap ≤ 9223372036854775807) :
    Calls Tryd.prog 17 #[.slice a m cap] w fun e w' => e = .returned (dv (treeL l)) ∧ Below w.heap.size w w' :=
  tree_all m hn l m cap a w hm.symm rfl hT hD hL hcap hcap'
end Go.Proofs.YtnopibpakchejaaDoor
