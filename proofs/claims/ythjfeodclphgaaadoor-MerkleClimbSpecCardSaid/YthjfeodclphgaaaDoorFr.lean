/- firstRow: the digests of leaves. -/
import Derived.Test.YthjfeodclphgaaaDoorTg
import Derived.Deep.CutRange
import Derived.Deep.Cut
namespace Go.Proofs.YthjfeodclphgaaaDoor
open Go.RowKit
/-- A leaf in memory. -/
structure Lf where
  A : Option Addr
  l : List UInt8
  cap : Nat
/-- Leaves in memory. -/
structure LvIn (w : World) (PA : Option Addr) (pl : List Lf) : Prop where
  cel : ∀ k (h : k < pl.length), ∃ b o, PA = some ⟨b, o, none⟩ ∧ b < w.heap.size ∧ w.cell? ⟨b, o + k, none⟩ = some (.slice (pl[k]).A (pl[k]).l.length (pl[k]).cap)
  sb : ∀ x ∈ pl, Sb w x.A x.l
  nil : ∀ x ∈ pl, x.A = none → x.cap = 0
  few : ∀ x ∈ pl, x.l.length ≤ 10000000
theorem LvIn.below {w w' : World} {PA : Option Addr} {pl : List Lf} (h : LvIn w PA pl) (hb : Below w.heap.size w w') : LvIn w' PA pl :=
  ⟨fun k hk => by
    obtain ⟨b, o, e, hlt, hc⟩ := h.cel k hk
    exact ⟨b, o, e, Nat.lt_of_lt_of_le hlt hb.size, (hb.cell (p := ⟨b, o + k, none⟩) hlt).trans hc⟩, fun x hx => (h.sb x hx).below hb, h.nil, h.few⟩
/-- The first row. -/
def rowF (pl : List Lf) : List (List UInt8) := pl.map fun x => sha (tagL ++ x.l)
theorem rowF_len (pl : List Lf) : (rowF pl).length = pl.length := by simp [rowF]
theorem rowF_take {pl : List Lf} {k : Nat} (h : k < pl.length) : rowF (pl.take (k + 1)) = rowF (pl.take k) ++ [sha (tagL ++ (pl[k]).l)] := by
  unfold rowF
  rw [List.take_succ_eq_append_getElem h, List.map_append]
  rfl
theorem rowF_32 (pl : List Lf) : D32 (rowF pl) := fun d hd => by
  obtain ⟨x, _, rfl⟩ := List.mem_map.1 hd
  exact sha_len _
theorem below_grow {B : Nat} {a w w' : World} {e size n : Nat} {v : Value} {xs : List Value} (h : Below B a w) (hB : B ≤ w.heap.size) (hown : w.ownsRow B e size v n xs) (hg : w.grownBy w' v.ownBlock) : Below B a w' := by
  rcases hown.2 with ⟨rfl, _⟩ | ⟨g, cap, cur, rfl, hb, hlt, _⟩
  · exact h.grown hg hB (fun k e => by cases e)
  · exact h.grown hg hB (fun k e => by
      have h1 : g = k := by simpa [Value.ownBlock] using e
      omega)
/-- Digests that a call hands back in a row of its own. -/
def RowP (L : List (List UInt8)) (w : World) (e : Ending) (w' : World) : Prop :=
  ∃ (A : Option Addr) (cap : Nat), e = .returned (.slice A L.length cap) ∧ w'.ownsRow w.heap.size 26 32 (.slice A L.length cap) L.length (bc L.flatten) ∧ Below w.heap.size w w'

set_option maxRecDepth 20000 in
set_option maxHeartbeats 1600000 in
theorem firstRow_any (PA : Option Addr) (pl : List Lf) (pc : Nat) (w : World) (hT : Tab w) (hl : LvIn w PA pl) (hn : pl.length ≤ 70000) :
    Calls Tryd.prog 65 #[.slice PA pl.length pc] w (RowP (rowF pl) w) := by
  have HT := hide hT
  have HL := hide hl
  have HST := hide (show w.ownsRow w.heap.size 26 32 (.slice none 0 0) 0 (bc (rowF (pl.take 0)).flatten) from ⟨rfl, .inl ⟨rfl, rfl⟩⟩)
  clear hT hl
  go_enter Tryd.func65, Tryd.ntmps65
  go_wp2_with fail
  go_loopw [2, 7] (fun v i wr => ∃ (k : Nat) (A : Option Addr) (cap : Nat), k ≤ pl.length ∧ i = .int .i64 k ∧ v = .slice A k cap ∧ Hid (wr.ownsRow w.heap.size 26 32 (.slice A k cap) k (bc (rowF (pl.take k)).flatten)) ∧ Hid (Below w.heap.size w wr)) (fun _ i _ => pl.length - (intOf i).toNat)
  case atStart => exact ⟨0, none, 0, Nat.zero_le _, rfl, rfl, HST, hide (Below.refl _ _)⟩
  case round =>
    clear HST
    obtain ⟨k, A, cap, hk, rfl, rfl, HO, HB⟩ := hrel
    by_cases hlt : k < pl.length
    · have hlt' : (k : Int) < (pl.length : Int) := by omega
      obtain ⟨b, o, hA, _, e0⟩ := (HL.out.below HB.out).cel k hlt
      have HX := hide (And.intro ((HL.out.below HB.out).sb _ (List.getElem_mem hlt)) (And.intro (HL.out.nil _ (List.getElem_mem hlt)) (HL.out.few _ (List.getElem_mem hlt))))
      have HTK := hide (rowF_take hlt)
      subst hA
      generalize pl[k] = x at e0 HX HTK
      have HTW := hide (HT.out.below HB.out)
      have HLT := hide (leafText_any x.A x.l.length x.cap x.l wr HTW.out HX.out.1 rfl HX.out.2.1 (by have := HX.out.2.2; omega))
      have HLN := hide (show (tagL ++ x.l).length ≤ 100000000 by rw [List.length_append, sha_len]; have := HX.out.2.2; omega)
      generalize tagL ++ x.l = tx at HLT HLN HTK
      go_wp2_with fail
      with_reducible refine HLT.out.mono ?_
      rintro e w2 ⟨A2, c2, rfl, h1, h2, h3, h4, h5⟩
      have HS2 := hide (And.intro h1 (And.intro h2 h3))
      have HB2 := hide (below_one HB.out h5)
      have HO2 := hide (own_below HO.out h5)
      have HT2 := hide (HTW.out.below h5)
      clear h1 h2 h3 h4 h5 e0 HO HLT
      go_wp2_with fail
      with_reducible refine (sum_is A2 tx.length c2 tx w2 HT2.out HS2.out.1 rfl HS2.out.2.1 HS2.out.2.2 HLN.out).mono ?_
      rintro e w3 ⟨rfl, h5⟩
      have HB3 := hide (below_one HB2.out h5)
      have HO3 := hide (own_below HO2.out h5)
      have hd : (sha tx).length = 32 := sha_len _
      clear h5 HO2
      generalize sha tx = d at *
      have HDL := hide hd
      have hbl : (bc d).length = 32 := by rw [bc_len]; exact hd
      clear hd
      have HBN := hide (Blk.new w3 26 (bc d))
      have HB4 := hide (HB3.out.alloc HB3.out.size (.cells (bc d).toArray 26))
      have HO4 := hide (own_below HO3.out (below_new w3 (.cells (bc d).toArray 26)))
      have hbase := HB4.out.size
      clear HO3
      go_wp2_with (at_builtin; (first | rw [fold_dv d HDL.out] | skip); (refine wpList_plain rfl ?_; intro K' hK'; refine wp_app26 (.tmp 11) (.tmp 15) rfl w.heap.size _ k (rowF (pl.take k)) rfl HO4.out (some ⟨w3.heap.size, 0, none⟩) 1 1 [d] rfl (DSrc.one_of HBN.out HDL.out) (by omega) hbase (k + 1) (rowF (pl.take k) ++ [d]) rfl rfl ?_; intro v6 w6 hown hg; refine hK' _ _ ?_; have HO6 := hide hown; have HB6 := hide (below_grow HB4.out hbase HO4.out hg); clear hown hg))
      obtain ⟨A6, c6, rfl⟩ := own_form0 HO6.out
      go_roundw
      case rel => exact ⟨k + 1, A6, c6, by omega, by go_num, rfl, hide (by rw [HTK.out]; exact HO6.out), HB6⟩
      case measure => simp [intOf]; omega
    · have hlt' : ¬ (k : Int) < (pl.length : Int) := by omega
      obtain rfl : k = pl.length := by omega
      go_wp2_with fail
      go_ret
      rw [List.take_length] at HO
      have e := rowF_len pl
      exact ⟨A, cap, by rw [e]; rfl, by rw [e]; exact HO.out, HB.out⟩
end Go.Proofs.YthjfeodclphgaaaDoor
