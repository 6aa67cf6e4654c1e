/- DigestChains. -/
import Derived.Test.YtnopibpakchejaaDoorAppD
import Derived.Test.YtnopibpakchejaaDoorPlanT
import Derived.Test.YtnopibpakchejaaDoorRChain
namespace Go.Proofs.YtnopibpakchejaaDoor
open Go.RowKit
theorem plan3_name {P : Program} {ops : Array Oper} {Q : Exit → Act → World → Prop} {S : World → Prop} {p : Plan3} {a : Act} {w : World} (h : ∀ W, Hid (W = w) → wpPlan3 P ops Q S p a W) : wpPlan3 P ops Q S p a w := h w rfl


theorem DSrc.move {w w' : World} {A : Option Addr} {m c : Nat} {L : List (List UInt8)} (h : DSrc w A m c L) (hm : ∀ b o, A = some ⟨b, o, none⟩ → w'.heap[b]? = w.heap[b]?) : DSrc w' A m c L := by
  refine ⟨h.len, ?_, h.d32, h.le, h.top, h.nil⟩
  by_cases h0 : 1 ≤ L.length
  · obtain ⟨b, o, e', hB⟩ := h.ds.at h.d32 h0
    have := hm b o e'
    rw [e']
    exact Ds.of (hB.move this)
  · have : L = [] := List.length_eq_zero_iff.1 (by omega)
    subst this
    exact fun h => absurd rfl h
theorem own_dsrc2 {w : World} {base n : Nat} {v : Value} {L : List (List UInt8)} (h : w.ownsRow base 26 32 v n (bc L.flatten)) (hD : D32 L) (hn : n = L.length) : ∃ A c, v = .slice A n c ∧ DSrc w A n c L ∧ (∀ b o, A = some ⟨b, o, none⟩ → base ≤ b) := by
  have h2 := own_dsrc h hD hn
  rcases h.2 with ⟨rfl, h0⟩ | ⟨g, cap, cur, rfl, hg, hB, hc, hm, hs, ht⟩
  · obtain ⟨A, c, e, h3⟩ := h2
    refine ⟨A, c, e, h3, fun b o e2 => ?_⟩
    rw [e2] at e
    cases e
  · obtain ⟨A, c, e, h3⟩ := h2
    refine ⟨A, c, e, h3, fun b o e2 => ?_⟩
    rw [e2] at e
    cases e
    exact hg
/-- What the rounds keep. -/
structure CI (w : World) (X5 X6 : Nat) (A : Option Addr) (N c : Nat) (L : List (List UInt8)) (E : List UInt8) (W : World) : Prop where
  k5 : Blk W X5 26 (bc E)
  k6 : Blk W X6 26 (bc E)
  bel : Below w.heap.size w W
  src : DSrc W A N c L
  len : E.length = 32
theorem CI.below {w W W' : World} {X5 X6 : Nat} {A : Option Addr} {N c : Nat} {L : List (List UInt8)} {E : List UInt8} (h : CI w X5 X6 A N c L E W) (hb : Below W.heap.size W W') : CI w X5 X6 A N c L E W' :=
  ⟨h.k5.below hb h.k5.lt, h.k6.below hb h.k6.lt, below_one h.bel hb, h.src.below hb, h.len⟩

/-- What the round's regions keep. -/
structure C8 (w : World) (X8 X9 : Nat) (A : Option Addr) (N c : Nat) (L : List (List UInt8)) (d E : List UInt8) (W : World) : Prop where
  k8 : Blk W X8 26 (bc d)
  k9 : Blk W X9 26 (bc E)
  bel : Below w.heap.size w W
  src : DSrc W A N c L
theorem C8.below {w W W' : World} {X8 X9 : Nat} {A : Option Addr} {N c : Nat} {L : List (List UInt8)} {d E : List UInt8} (h : C8 w X8 X9 A N c L d E W) (hb : Below W.heap.size W W') : C8 w X8 X9 A N c L d E W' :=
  ⟨h.k8.below hb h.k8.lt, h.k9.below hb h.k9.lt, below_one h.bel hb, h.src.below hb⟩
theorem C8.set {w W : World} {X8 X9 X : Nat} {A : Option Addr} {N c : Nat} {L : List (List UInt8)} {d E : List UInt8} (h : C8 w X8 X9 A N c L d E W) (h8 : ¬ X8 = X) (h9 : ¬ X9 = X) (hA : ∀ b o, A = some ⟨b, o, none⟩ → ¬ b = X) (hX : w.heap.size ≤ X) (vs : List Value) : C8 w X8 X9 A N c L d E (W.setCells X 0 vs) :=
  ⟨h.k8.setCellsOther h8 _ _, h.k9.setCellsOther h9 _ _, below_setCells h.bel hX _ _, h.src.move fun b o e => setCells_other W X vs 0 b (hA b o e)⟩

set_option maxRecDepth 10000 in
set_option maxHeartbeats 4000000 in
theorem chains_walk (a : Option Addr) (n cap : Nat) (l : List UInt8) (f : List UInt8) (w : World) (hT : Tab w) (hS : Src w a n cap l) (hn : n ≤ 9223372036854775807) (hf : f.length = 32) :
    Calls Tryd.prog 10 #[dv f, .slice a n cap] w (LawPost w) := by
  have HT := hide hT
  have HF := hide hf
  have HSA := hide (fun (W : World) (hW : Below w.heap.size w W) => sane_any W (hT.below hW))
  have HDG := hide (fun (W : World) (hW : Below w.heap.size w W) => digestsOf_any a n cap l W (hS.sb.below hW) hS.len hn)
  have HDL := hide (And.intro (digsOf_len l) (digsOf_d32 l))
  have hk24 := digsOf_len l
  have HSF := hide (show (Tryd.prog.info? 26).map (·.size) = some (bc f).length by rw [bc_len, hf]; exact Tryd.size26)
  clear hT hS
  generalize digsOf l = L at *
  obtain ⟨N, hN⟩ : ∃ N, L.length = N := ⟨_, rfl⟩
  have HN := hide hN
  rw [hN] at hk24
  clear hN hf
  go_enter Tryd.func10, Tryd.ntmps10
  go_wp2_with fail
  with_reducible refine (HSA.out _ (below_new w _)).mono ?_
  rintro e w1 ⟨rfl, hb⟩
  have HB1 : Hid (Blk w1 w.heap.size 26 (bc f) ∧ Below w.heap.size w w1) := hide ⟨(Blk.new w 26 (bc f)).below hb (Blk.new w 26 (bc f)).lt, below_one (below_new w _) hb⟩
  clear hb
  go_wp2_with fail
  refine wp_cutD (fun ac W => ∃ X5 X6 : Nat, ac = ⟨#[dv f, Value.slice a n cap, Value.pointer (some { block := w.heap.size, off := 0 }), undef, Value.bool false, Value.pointer (some { block := X5, off := 0 }), Value.pointer (some { block := X6, off := 0 }), undef, undef, undef, Value.bool true, Value.bool false, dv f, dv f, undef, undef, undef, undef, undef, undef, undef, undef, undef, undef, undef, undef, undef, undef, undef, undef, undef, undef, undef, undef, undef, undef, undef, undef, undef, undef, undef, undef], []⟩ ∧ Hid (Blk W X5 26 (bc f) ∧ Blk W X6 26 (bc f) ∧ Below w.heap.size w W ∧ w.heap.size < X5 ∧ w.heap.size < X6 ∧ ¬ X5 = X6)) ?_ ?_
  · have HS0 : Hid (Hid (Blk w1.drew w.heap.size 26 (bc f) ∧ Below w.heap.size w w1.drew)) := hide (hide ⟨HB1.out.1.drew, HB1.out.2.drew⟩)
    refine wp_region_plan3 (fun W => Hid (Blk W w.heap.size 26 (bc f) ∧ Below w.heap.size w W)) (.take 0 (.take 1 (.both 2 (.run 3 (.run 4 (.run 5 .done))) 3 (.run 2 (.run 4 (.run 5 .done)))))) (by kernel_rfl) (by kernel_rfl) HS0.out ?_
    refine plan3_name ?_
    intro Wd HWd
    have HS : Hid (Hid (Blk Wd w.heap.size 26 (bc f) ∧ Below w.heap.size w Wd)) := by
      have e : Wd = w1.drew := HWd.out
      subst e
      exact HS0
    clear HWd HS0
    (refine plan3_take (o := ?_) (by simp only [List.getElem?_toArray, List.getElem?_cons_zero]; rfl) (yieldsIf_load_mid (by rfl) 26 (.tmp 2) rfl w.heap.size 0 rfl (bc f) _ (fun _ h => bs_range h.out.1.bs) Tryd.underlying26 rfl HSF.out) ?_; (simp only [Act.put, List.setIfInBounds_toArray, List.set_cons_zero, List.set_cons_succ]))
    (refine plan3_take (o := ?_) (by simp only [List.getElem?_toArray, List.getElem?_cons_succ, List.getElem?_cons_zero]; rfl) (yieldsIf_load_mid (by rfl) 26 (.tmp 2) rfl w.heap.size 0 rfl (bc f) _ (fun _ h => bs_range h.out.1.bs) Tryd.underlying26 rfl HSF.out) ?_; (simp only [Act.put, List.setIfInBounds_toArray, List.set_cons_zero, List.set_cons_succ]))
    refine plan3_both (o1 := ?_) (o2 := ?_) (by simp only [List.getElem?_toArray, List.getElem?_cons_succ, List.getElem?_cons_zero]; rfl) (by simp only [List.getElem?_toArray, List.getElem?_cons_succ, List.getElem?_cons_zero]; rfl) ?_ ?_
    · intro R HR
      go_wp2_with fail
      refine HR.out _ _ (show Hid (Blk (Wd.alloc (.cells (List.replicate 32 (.int .u8 0)).toArray 26)) w.heap.size 26 (bc f) ∧ Below w.heap.size w (Wd.alloc (.cells (List.replicate 32 (.int .u8 0)).toArray 26))) from hide ⟨HS.out.out.1.alloc _, below_one HS.out.out.2 (below_new _ _)⟩) ?_
      clear HR
      refine plan3_name ?_
      intro Wx1 HWn
      have HS' : Hid (Hid (Blk Wx1 w.heap.size 26 (bc f) ∧ Below w.heap.size w Wx1)) := by
              have e : Wx1 = Wd.alloc (.cells (List.replicate 32 (.int .u8 0)).toArray 26) := HWn.out
              subst e
              exact hide (hide ⟨HS.out.out.1.alloc _, below_one HS.out.out.2 (below_new _ _)⟩)
      have HK5 : Hid (Blk Wx1 Wd.heap.size 26 (List.replicate 32 (.int .u8 0)) ∧ w.heap.size < Wd.heap.size) := by
              have e : Wx1 = Wd.alloc (.cells (List.replicate 32 (.int .u8 0)).toArray 26) := HWn.out
              subst e
              exact hide ⟨Blk.new _ _ _, HS.out.out.1.lt⟩
      clear HWn HS
      have HS := HS'
      clear HS'
      refine plan3_run (o := ?_) (by simp only [List.getElem?_toArray, List.getElem?_cons_succ, List.getElem?_cons_zero]; rfl) ?_
      intro R HR
      go_wp2_with fail
      refine HR.out _ _ (show Hid (Blk (Wx1.alloc (.cells (List.replicate 32 (.int .u8 0)).toArray 26)) w.heap.size 26 (bc f) ∧ Below w.heap.size w (Wx1.alloc (.cells (List.replicate 32 (.int .u8 0)).toArray 26))) from hide ⟨HS.out.out.1.alloc _, below_one HS.out.out.2 (below_new _ _)⟩) ?_
      clear HR
      refine plan3_name ?_
      intro Wx2 HWn
      have HS' : Hid (Hid (Blk Wx2 w.heap.size 26 (bc f) ∧ Below w.heap.size w Wx2)) := by
              have e : Wx2 = Wx1.alloc (.cells (List.replicate 32 (.int .u8 0)).toArray 26) := HWn.out
              subst e
              exact hide (hide ⟨HS.out.out.1.alloc _, below_one HS.out.out.2 (below_new _ _)⟩)
      have HK6 : Hid (Blk Wx2 Wx1.heap.size 26 (List.replicate 32 (.int .u8 0)) ∧ w.heap.size < Wx1.heap.size) := by
              have e : Wx2 = Wx1.alloc (.cells (List.replicate 32 (.int .u8 0)).toArray 26) := HWn.out
              subst e
              exact hide ⟨Blk.new _ _ _, HS.out.out.1.lt⟩
      have HK5' : Hid (Blk Wx2 Wd.heap.size 26 (List.replicate 32 (.int .u8 0)) ∧ w.heap.size < Wd.heap.size) := by
              have e : Wx2 = Wx1.alloc (.cells (List.replicate 32 (.int .u8 0)).toArray 26) := HWn.out
              subst e
              exact hide ⟨HK5.out.1.alloc _, HK5.out.2⟩
      have HNE : Hid (¬ Wd.heap.size = Wx1.heap.size) := hide (by have := HK5.out.1.lt; omega)
      clear HK5
      have HK5 := HK5'
      clear HK5'
      clear HWn HS
      have HS := HS'
      clear HS'
      refine plan3_run (o := ?_) (by simp only [List.getElem?_toArray, List.getElem?_cons_succ, List.getElem?_cons_zero]; rfl) ?_
      intro R HR
      refine wpList_store_mid rfl 26 (.tmp 5) (.tmp 12) rfl Wd.heap.size 0 (bc f).toArray rfl rfl (by rw [dv_size f HF.out]; exact HK5.out.1.there (by simp)) (by rw [dv_size f HF.out]; exact Tryd.size26) (all_oneCell_toArray (bc_one f)) ?_
      have HS' : Hid (Hid (Blk (Wx2.setCells Wd.heap.size 0 (bc f).toArray.toList) w.heap.size 26 (bc f) ∧ Below w.heap.size w (Wx2.setCells Wd.heap.size 0 (bc f).toArray.toList))) := hide (hide ⟨HS.out.out.1.setCellsOther (fun h => by have := HK5.out.2; omega) _ _, below_setCells HS.out.out.2 (Nat.le_of_lt HK5.out.2) _ _⟩)
      have HK5' : Hid (Blk (Wx2.setCells Wd.heap.size 0 (bc f).toArray.toList) Wd.heap.size 26 (bc f) ∧ w.heap.size < Wd.heap.size) := hide ⟨HK5.out.1.setAll (by rw [bc_len, HF.out]; simp), HK5.out.2⟩
      have HK6' : Hid (Blk (Wx2.setCells Wd.heap.size 0 (bc f).toArray.toList) Wx1.heap.size 26 (List.replicate 32 (.int .u8 0)) ∧ w.heap.size < Wx1.heap.size) := hide ⟨HK6.out.1.setCellsOther (fun h => HNE.out h.symm) _ _, HK6.out.2⟩
      refine HR.out _ _ HS'.out ?_
      clear HR HS HK5 HK6
      have HS := HS'
      have HK5 := HK5'
      have HK6 := HK6'
      clear HS' HK5' HK6'
      (simp only [Act.put])
      refine plan3_name ?_
      intro Wx3 HWn
      obtain rfl : Wx3 = Wx2.setCells Wd.heap.size 0 (bc f).toArray.toList := HWn.out
      clear HWn
      refine plan3_run (o := ?_) (by simp only [List.getElem?_toArray, List.getElem?_cons_succ, List.getElem?_cons_zero]; rfl) ?_
      intro R HR
      refine wpList_store_mid rfl 26 (.tmp 6) (.tmp 13) rfl Wx1.heap.size 0 (bc f).toArray rfl rfl (by rw [dv_size f HF.out]; exact HK6.out.1.there (by simp)) (by rw [dv_size f HF.out]; exact Tryd.size26) (all_oneCell_toArray (bc_one f)) ?_
      have HS' : Hid (Hid (Blk ((Wx2.setCells Wd.heap.size 0 (bc f).toArray.toList).setCells Wx1.heap.size 0 (bc f).toArray.toList) w.heap.size 26 (bc f) ∧ Below w.heap.size w ((Wx2.setCells Wd.heap.size 0 (bc f).toArray.toList).setCells Wx1.heap.size 0 (bc f).toArray.toList))) := hide (hide ⟨HS.out.out.1.setCellsOther (fun h => by have := HK6.out.2; omega) _ _, below_setCells HS.out.out.2 (Nat.le_of_lt HK6.out.2) _ _⟩)
      have HK6' : Hid (Blk ((Wx2.setCells Wd.heap.size 0 (bc f).toArray.toList).setCells Wx1.heap.size 0 (bc f).toArray.toList) Wx1.heap.size 26 (bc f) ∧ w.heap.size < Wx1.heap.size) := hide ⟨HK6.out.1.setAll (by rw [bc_len, HF.out]; simp), HK6.out.2⟩
      have HK5' : Hid (Blk ((Wx2.setCells Wd.heap.size 0 (bc f).toArray.toList).setCells Wx1.heap.size 0 (bc f).toArray.toList) Wd.heap.size 26 (bc f) ∧ w.heap.size < Wd.heap.size) := hide ⟨HK5.out.1.setCellsOther HNE.out _ _, HK5.out.2⟩
      refine HR.out _ _ HS'.out ?_
      clear HR HS HK5 HK6
      have HS := HS'
      have HK5 := HK5'
      have HK6 := HK6'
      clear HS' HK5' HK6'
      (simp only [Act.put])
      refine plan3_name ?_
      intro Wx4 HWn
      obtain rfl : Wx4 = (Wx2.setCells Wd.heap.size 0 (bc f).toArray.toList).setCells Wx1.heap.size 0 (bc f).toArray.toList := HWn.out
      clear HWn
      refine plan3_done ?_
      exact ⟨Wd.heap.size, Wx1.heap.size, rfl, hide ⟨HK5.out.1, HK6.out.1, HS.out.out.2, HK5.out.2, HK6.out.2, HNE.out⟩⟩
    · intro R HR
      go_wp2_with fail
      refine HR.out _ _ (show Hid (Blk (Wd.alloc (.cells (List.replicate 32 (.int .u8 0)).toArray 26)) w.heap.size 26 (bc f) ∧ Below w.heap.size w (Wd.alloc (.cells (List.replicate 32 (.int .u8 0)).toArray 26))) from hide ⟨HS.out.out.1.alloc _, below_one HS.out.out.2 (below_new _ _)⟩) ?_
      clear HR
      refine plan3_name ?_
      intro Wx5 HWn
      have HS' : Hid (Hid (Blk Wx5 w.heap.size 26 (bc f) ∧ Below w.heap.size w Wx5)) := by
              have e : Wx5 = Wd.alloc (.cells (List.replicate 32 (.int .u8 0)).toArray 26) := HWn.out
              subst e
              exact hide (hide ⟨HS.out.out.1.alloc _, below_one HS.out.out.2 (below_new _ _)⟩)
      have HK6 : Hid (Blk Wx5 Wd.heap.size 26 (List.replicate 32 (.int .u8 0)) ∧ w.heap.size < Wd.heap.size) := by
              have e : Wx5 = Wd.alloc (.cells (List.replicate 32 (.int .u8 0)).toArray 26) := HWn.out
              subst e
              exact hide ⟨Blk.new _ _ _, HS.out.out.1.lt⟩
      clear HWn HS
      have HS := HS'
      clear HS'
      refine plan3_run (o := ?_) (by simp only [List.getElem?_toArray, List.getElem?_cons_succ, List.getElem?_cons_zero]; rfl) ?_
      intro R HR
      go_wp2_with fail
      refine HR.out _ _ (show Hid (Blk (Wx5.alloc (.cells (List.replicate 32 (.int .u8 0)).toArray 26)) w.heap.size 26 (bc f) ∧ Below w.heap.size w (Wx5.alloc (.cells (List.replicate 32 (.int .u8 0)).toArray 26))) from hide ⟨HS.out.out.1.alloc _, below_one HS.out.out.2 (below_new _ _)⟩) ?_
      clear HR
      refine plan3_name ?_
      intro Wx6 HWn
      have HS' : Hid (Hid (Blk Wx6 w.heap.size 26 (bc f) ∧ Below w.heap.size w Wx6)) := by
              have e : Wx6 = Wx5.alloc (.cells (List.replicate 32 (.int .u8 0)).toArray 26) := HWn.out
              subst e
              exact hide (hide ⟨HS.out.out.1.alloc _, below_one HS.out.out.2 (below_new _ _)⟩)
      have HK5 : Hid (Blk Wx6 Wx5.heap.size 26 (List.replicate 32 (.int .u8 0)) ∧ w.heap.size < Wx5.heap.size) := by
              have e : Wx6 = Wx5.alloc (.cells (List.replicate 32 (.int .u8 0)).toArray 26) := HWn.out
              subst e
              exact hide ⟨Blk.new _ _ _, HS.out.out.1.lt⟩
      have HK6' : Hid (Blk Wx6 Wd.heap.size 26 (List.replicate 32 (.int .u8 0)) ∧ w.heap.size < Wd.heap.size) := by
              have e : Wx6 = Wx5.alloc (.cells (List.replicate 32 (.int .u8 0)).toArray 26) := HWn.out
              subst e
              exact hide ⟨HK6.out.1.alloc _, HK6.out.2⟩
      have HNE : Hid (¬ Wx5.heap.size = Wd.heap.size) := hide (by have := HK6.out.1.lt; omega)
      clear HK6
      have HK6 := HK6'
      clear HK6'
      clear HWn HS
      have HS := HS'
      clear HS'
      refine plan3_run (o := ?_) (by simp only [List.getElem?_toArray, List.getElem?_cons_succ, List.getElem?_cons_zero]; rfl) ?_
      intro R HR
      refine wpList_store_mid rfl 26 (.tmp 5) (.tmp 12) rfl Wx5.heap.size 0 (bc f).toArray rfl rfl (by rw [dv_size f HF.out]; exact HK5.out.1.there (by simp)) (by rw [dv_size f HF.out]; exact Tryd.size26) (all_oneCell_toArray (bc_one f)) ?_
      have HS' : Hid (Hid (Blk (Wx6.setCells Wx5.heap.size 0 (bc f).toArray.toList) w.heap.size 26 (bc f) ∧ Below w.heap.size w (Wx6.setCells Wx5.heap.size 0 (bc f).toArray.toList))) := hide (hide ⟨HS.out.out.1.setCellsOther (fun h => by have := HK5.out.2; omega) _ _, below_setCells HS.out.out.2 (Nat.le_of_lt HK5.out.2) _ _⟩)
      have HK5' : Hid (Blk (Wx6.setCells Wx5.heap.size 0 (bc f).toArray.toList) Wx5.heap.size 26 (bc f) ∧ w.heap.size < Wx5.heap.size) := hide ⟨HK5.out.1.setAll (by rw [bc_len, HF.out]; simp), HK5.out.2⟩
      have HK6' : Hid (Blk (Wx6.setCells Wx5.heap.size 0 (bc f).toArray.toList) Wd.heap.size 26 (List.replicate 32 (.int .u8 0)) ∧ w.heap.size < Wd.heap.size) := hide ⟨HK6.out.1.setCellsOther (fun h => HNE.out h.symm) _ _, HK6.out.2⟩
      refine HR.out _ _ HS'.out ?_
      clear HR HS HK5 HK6
      have HS := HS'
      have HK5 := HK5'
      have HK6 := HK6'
      clear HS' HK5' HK6'
      (simp only [Act.put])
      refine plan3_name ?_
      intro Wx7 HWn
      obtain rfl : Wx7 = Wx6.setCells Wx5.heap.size 0 (bc f).toArray.toList := HWn.out
      clear HWn
      refine plan3_run (o := ?_) (by simp only [List.getElem?_toArray, List.getElem?_cons_succ, List.getElem?_cons_zero]; rfl) ?_
      intro R HR
      refine wpList_store_mid rfl 26 (.tmp 6) (.tmp 13) rfl Wd.heap.size 0 (bc f).toArray rfl rfl (by rw [dv_size f HF.out]; exact HK6.out.1.there (by simp)) (by rw [dv_size f HF.out]; exact Tryd.size26) (all_oneCell_toArray (bc_one f)) ?_
      have HS' : Hid (Hid (Blk ((Wx6.setCells Wx5.heap.size 0 (bc f).toArray.toList).setCells Wd.heap.size 0 (bc f).toArray.toList) w.heap.size 26 (bc f) ∧ Below w.heap.size w ((Wx6.setCells Wx5.heap.size 0 (bc f).toArray.toList).setCells Wd.heap.size 0 (bc f).toArray.toList))) := hide (hide ⟨HS.out.out.1.setCellsOther (fun h => by have := HK6.out.2; omega) _ _, below_setCells HS.out.out.2 (Nat.le_of_lt HK6.out.2) _ _⟩)
      have HK6' : Hid (Blk ((Wx6.setCells Wx5.heap.size 0 (bc f).toArray.toList).setCells Wd.heap.size 0 (bc f).toArray.toList) Wd.heap.size 26 (bc f) ∧ w.heap.size < Wd.heap.size) := hide ⟨HK6.out.1.setAll (by rw [bc_len, HF.out]; simp), HK6.out.2⟩
      have HK5' : Hid (Blk ((Wx6.setCells Wx5.heap.size 0 (bc f).toArray.toList).setCells Wd.heap.size 0 (bc f).toArray.toList) Wx5.heap.size 26 (bc f) ∧ w.heap.size < Wx5.heap.size) := hide ⟨HK5.out.1.setCellsOther HNE.out _ _, HK5.out.2⟩
      refine HR.out _ _ HS'.out ?_
      clear HR HS HK5 HK6
      have HS := HS'
      have HK5 := HK5'
      have HK6 := HK6'
      clear HS' HK5' HK6'
      (simp only [Act.put])
      refine plan3_name ?_
      intro Wx8 HWn
      obtain rfl : Wx8 = (Wx6.setCells Wx5.heap.size 0 (bc f).toArray.toList).setCells Wd.heap.size 0 (bc f).toArray.toList := HWn.out
      clear HWn
      refine plan3_done ?_
      exact ⟨Wx5.heap.size, Wd.heap.size, rfl, hide ⟨HK5.out.1, HK6.out.1, HS.out.out.2, HK5.out.2, HK6.out.2, HNE.out⟩⟩
  rintro ac W2 ⟨X5, X6, rfl, HQ⟩
  go_wp2_with fail
  with_reducible refine (HDG.out _ HQ.out.2.2.1).mono ?_
  rintro e w3 ⟨v, rfl, hown, hb⟩
  obtain ⟨A, c, rfl, hD, hA⟩ := own_dsrc2 hown HDL.out.2 rfl
  rw [HN.out]
  rw [HN.out] at hD
  have HA := hide (show ∀ b o, A = some ⟨b, o, none⟩ → ¬ b = X5 ∧ ¬ b = X6 from fun b o e => by have := hA b o e; have h5 := HQ.out.1.lt; have h6 := HQ.out.2.1.lt; omega)
  have HX := hide (And.intro HQ.out.2.2.2.1 (And.intro HQ.out.2.2.2.2.1 HQ.out.2.2.2.2.2))
  have HC0 : Hid (CI w X5 X6 A N c L f w3) := hide ⟨HQ.out.1.below hb HQ.out.1.lt, HQ.out.2.1.below hb HQ.out.2.1.lt, below_one HQ.out.2.2.1 hb, hD, HF.out⟩
  clear hown hb hD hA HQ HB1 HSA HDG
  go_wp2_with fail
  go_loopw [17] (fun i wr => ∃ k : Nat, k ≤ N ∧ i = .int .i64 k ∧ Hid (∃ E, CI w X5 X6 A N c L E wr)) (fun i _ => N - (intOf i).toNat)
  case atStart => exact ⟨0, by omega, rfl, hide ⟨f, HC0.out⟩⟩
  case round =>
    clear HC0
    obtain ⟨k, hk, rfl, HJ⟩ := hrel
    by_cases hlt : k < N
    · obtain ⟨E, hC⟩ := HJ.out
      have HC := hide hC
      clear hC HJ
      have hltI : (k : Int) < (N : Int) := by omega
      have hkL : k < L.length := by rw [HN.out]; exact hlt
      obtain ⟨b, o, rfl, _⟩ := HC.out.src.ds.at HC.out.src.d32 (by omega)
      have HAb := hide (HA.out b o rfl)
      have HRG := hide (HC.out.src.one k hkL)
      have HDk := hide (HDL.out.2 _ (List.getElem_mem hkL))
      generalize L[k] = d at *
      have HSD := hide (show (Tryd.prog.info? 26).map (·.size) = some (bc d).length by rw [bc_len, HDk.out]; exact Tryd.size26)
      have HSE := hide (show (Tryd.prog.info? 26).map (·.size) = some (bc E).length by rw [bc_len, HC.out.len]; exact Tryd.size26)
      have HZd := hide (show (Tryd.prog.info? 26).map (·.size) = some ((bc d).toArray).size by rw [dv_size d HDk.out]; exact Tryd.size26)
      have HZe := hide (show (Tryd.prog.info? 26).map (·.size) = some ((bc E).toArray).size by rw [dv_size E HC.out.len]; exact Tryd.size26)
      have HOd := hide (all_oneCell_toArray (bc_one d))
      have HOe := hide (all_oneCell_toArray (bc_one E))
      have HLd := hide (dv_size d HDk.out)
      have HLe := hide (dv_size E HC.out.len)
      have HC8 : Hid (Blk ((wr.alloc (.cells (List.replicate 32 (.int .u8 0)).toArray 26)).setRow wr.heap.size (bc d).toArray) wr.heap.size 26 (bc d) ∧ CI w X5 X6 (some ⟨b, o, none⟩) N c L E ((wr.alloc (.cells (List.replicate 32 (.int .u8 0)).toArray 26)).setRow wr.heap.size (bc d).toArray)) := by
        have h : Below wr.heap.size wr ((wr.alloc (.cells (List.replicate 32 (.int .u8 0)).toArray 26)).setRow wr.heap.size (bc d).toArray) := below_setRow (below_new wr _) (Nat.le_refl _) _
        exact hide ⟨(Blk.new wr 26 _).row _, HC.out.below h⟩
      have HS8 := hide (show ((wr.alloc (.cells (List.replicate 32 (.int .u8 0)).toArray 26)).setRow wr.heap.size (bc d).toArray).heap.size = wr.heap.size + 1 by simp [World.setRow])
      have HH9 := hide (show (((wr.alloc (.cells (List.replicate 32 (.int .u8 0)).toArray 26)).setRow wr.heap.size (bc d).toArray).alloc (.cells (List.replicate 32 (.int .u8 0)).toArray 26)).heap[wr.heap.size + 1]? = some (.cells (List.replicate 32 (.int .u8 0)).toArray 26 (0, 0)) by
        have := heap_alloc_new ((wr.alloc (.cells (List.replicate 32 (.int .u8 0)).toArray 26)).setRow wr.heap.size (bc d).toArray) (.cells (List.replicate 32 (.int .u8 0)).toArray 26)
        rwa [HS8.out] at this)
      have HC9 : Hid (Blk ((((wr.alloc (.cells (List.replicate 32 (.int .u8 0)).toArray 26)).setRow wr.heap.size (bc d).toArray).alloc (.cells (List.replicate 32 (.int .u8 0)).toArray 26)).setRow (wr.heap.size + 1) (bc E).toArray) wr.heap.size 26 (bc d) ∧ Blk ((((wr.alloc (.cells (List.replicate 32 (.int .u8 0)).toArray 26)).setRow wr.heap.size (bc d).toArray).alloc (.cells (List.replicate 32 (.int .u8 0)).toArray 26)).setRow (wr.heap.size + 1) (bc E).toArray) (wr.heap.size + 1) 26 (bc E) ∧ CI w X5 X6 (some ⟨b, o, none⟩) N c L E ((((wr.alloc (.cells (List.replicate 32 (.int .u8 0)).toArray 26)).setRow wr.heap.size (bc d).toArray).alloc (.cells (List.replicate 32 (.int .u8 0)).toArray 26)).setRow (wr.heap.size + 1) (bc E).toArray)) := by
        have h : Below ((wr.alloc (.cells (List.replicate 32 (.int .u8 0)).toArray 26)).setRow wr.heap.size (bc d).toArray).heap.size ((wr.alloc (.cells (List.replicate 32 (.int .u8 0)).toArray 26)).setRow wr.heap.size (bc d).toArray) ((((wr.alloc (.cells (List.replicate 32 (.int .u8 0)).toArray 26)).setRow wr.heap.size (bc d).toArray).alloc (.cells (List.replicate 32 (.int .u8 0)).toArray 26)).setRow (wr.heap.size + 1) (bc E).toArray) := below_setRow (below_new _ _) (by rw [HS8.out]; exact Nat.le_refl _) _
        exact hide ⟨HC8.out.1.below h HC8.out.1.lt, setRow_heap _ _ _ _ _ _ HH9.out, HC8.out.2.below h⟩
      clear hkL
      go_wp2_with (first | (refine wpList_load_mid rfl 26 (.tmp 19) rfl b (o + k * 32) rfl (bc d) _ HRG.out Tryd.underlying26 rfl HSD.out ?_) | (refine wpList_store_row rfl 26 (.tmp 8) (.tmp 20) rfl wr.heap.size _ rfl rfl 26 _ (heap_alloc_new wr _) HZd.out (by rw [HLd.out]; rfl) HOd.out ?_) | (refine wpList_load_mid rfl 26 (.tmp 5) rfl X5 0 rfl (bc E) _ (bs_range HC8.out.2.k5.bs) Tryd.underlying26 rfl HSE.out ?_) | (refine wpList_store_row rfl 26 (.tmp 9) (.tmp 21) rfl (wr.heap.size + 1) _ rfl rfl 26 _ HH9.out HZe.out (by rw [HLe.out]; rfl) HOe.out ?_))
      (try simp only [Act.put])
      have HE1 := hide (tagd_len tChain (E ++ d))
      refine name_code ?_
      intro Wr HWr
      have HS0 : Hid (Hid (C8 w wr.heap.size (wr.heap.size + 1) (some ⟨b, o, none⟩) N c L d E Wr.drew) ∧ Blk Wr X5 26 (bc E) ∧ Blk Wr X6 26 (bc E)) := by
        have e : Wr = ((((wr.alloc (.cells (List.replicate 32 (.int .u8 0)).toArray 26)).setRow wr.heap.size (bc d).toArray).alloc (.cells (List.replicate 32 (.int .u8 0)).toArray 26)).setRow (wr.heap.size + 1) (bc E).toArray) := HWr.out
        subst e
        exact hide ⟨hide ⟨HC9.out.1.drew, HC9.out.2.1.drew, HC9.out.2.2.bel.drew, HC9.out.2.2.src.below (Below.refl _ _).drew⟩, HC9.out.2.2.k5, HC9.out.2.2.k6⟩
      have HNE := hide (show (¬ wr.heap.size = X5 ∧ ¬ wr.heap.size = X6) ∧ (¬ wr.heap.size + 1 = X5 ∧ ¬ wr.heap.size + 1 = X6) by have h5 := HC.out.k5.lt; have h6 := HC.out.k6.lt; omega)
      clear HWr HC8 HS8 HH9 HC9 HRG HZd HZe HOd HOe HLd HLe
      generalize wr.heap.size + 1 = Z9 at *
      generalize wr.heap.size = Z8 at *
      refine wp_cutD (fun ac W => ac = ⟨#[dv f, Value.slice a n cap, Value.pointer (some { block := w.heap.size, off := 0 }), undef, u4, Value.pointer (some { block := X5, off := 0 }), Value.pointer (some { block := X6, off := 0 }), undef, Value.pointer (some { block := Z8, off := 0 }), Value.pointer (some { block := Z9, off := 0 }), Value.bool true, Value.bool false, dv f, dv f, Value.slice a n cap, Value.slice (some { block := b, off := o }) N c, Value.int IntKind.i64 (N : Int), Value.int IntKind.i64 (k : Int), Value.bool true, Value.pointer (some { block := b, off := o + k * 32 }), Value.agg (bc d).toArray, Value.agg (bc E).toArray, dv E, dv d, dv (tagd tChain (E ++ d)), dv E, dv d, dv (tagd tChain (E ++ d)), u28, u29, u30, u31, u32, u33, u34, u35, u36, u37, u38, u39, u40, u41], []⟩ ∧ Hid (C8 w Z8 Z9 (some ⟨b, o, none⟩) N c L d E W ∧ Blk W X5 26 (bc (tagd tChain (E ++ d))) ∧ Blk W X6 26 (bc (tagd tChain (E ++ d))))) ?_ ?_
      · refine wp_region_plan3 (fun W => Hid (C8 w Z8 Z9 (some ⟨b, o, none⟩) N c L d E W)) (.take 1 (.take 4 (.both 0 (.both 2 (.run 3 (.run 5 (.run 6 (.run 7 .done)))) 3 (.run 2 (.run 5 (.run 6 (.run 7 .done))))) 3 (.run 0 (.run 2 (.run 5 (.run 6 (.run 7 .done)))))))) (by kernel_rfl) (by kernel_rfl) HS0.out.1 ?_
        refine plan3_name ?_
        intro Wd HWd
        have HS : Hid (Hid (C8 w Z8 Z9 (some ⟨b, o, none⟩) N c L d E Wd)) := by
          have e : Wd = Wr.drew := HWd.out
          subst e
          exact hide HS0.out.1
        have HK5 : Hid (Blk Wd X5 26 (bc E)) := by
          have e : Wd = Wr.drew := HWd.out
          subst e
          exact hide HS0.out.2.1.drew
        have HK6 : Hid (Blk Wd X6 26 (bc E)) := by
          have e : Wd = Wr.drew := HWd.out
          subst e
          exact hide HS0.out.2.2.drew
        clear HWd HS0
        (refine plan3_take (o := ?_) (by simp only [List.getElem?_toArray, List.getElem?_cons_succ, List.getElem?_cons_zero]; rfl) (yieldsIf_load_mid (by rfl) 26 (.tmp 8) rfl Z8 0 rfl (bc d) _ (fun _ h => bs_range h.out.k8.bs) Tryd.underlying26 rfl HSD.out) ?_; (simp only [Act.put, List.setIfInBounds_toArray, List.set_cons_zero, List.set_cons_succ]))
        (refine plan3_take (o := ?_) (by simp only [List.getElem?_toArray, List.getElem?_cons_succ, List.getElem?_cons_zero]; rfl) (yieldsIf_load_mid (by rfl) 26 (.tmp 8) rfl Z8 0 rfl (bc d) _ (fun _ h => bs_range h.out.k8.bs) Tryd.underlying26 rfl HSD.out) ?_; (simp only [Act.put, List.setIfInBounds_toArray, List.set_cons_zero, List.set_cons_succ]))
        refine plan3_both (o1 := ?_) (o2 := ?_) (by simp only [List.getElem?_toArray, List.getElem?_cons_zero]; rfl) (by simp only [List.getElem?_toArray, List.getElem?_cons_succ, List.getElem?_cons_zero]; rfl) ?_ ?_
        · intro R HR
          refine wpList_load_mid rfl 26 (.tmp 5) rfl X5 0 rfl (bc E) _ (bs_range HK5.out.bs) Tryd.underlying26 rfl HSE.out ?_
          refine HR.out _ _ HS.out ?_
          clear HR
          (simp only [Act.put, List.setIfInBounds_toArray, List.set_cons_zero, List.set_cons_succ])
          refine plan3_both (o1 := ?_) (o2 := ?_) (by simp only [List.getElem?_toArray, List.getElem?_cons_succ, List.getElem?_cons_zero]; rfl) (by simp only [List.getElem?_toArray, List.getElem?_cons_succ, List.getElem?_cons_zero]; rfl) ?_ ?_
          · intro R HR
            go_wp2_with fail
            with_reducible refine (chain_any E d Wd (HT.out.below HS.out.out.bel) HC.out.len HDk.out).mono ?_
            rintro e Wy9 ⟨rfl, hb⟩
            have HS' : Hid (Hid (C8 w Z8 Z9 (some ⟨b, o, none⟩) N c L d E Wy9)) := hide (hide (HS.out.out.below hb))
            have HK5' : Hid (Blk Wy9 X5 26 (bc E)) := hide (HK5.out.below hb HK5.out.lt)
            have HK6' : Hid (Blk Wy9 X6 26 (bc E)) := hide (HK6.out.below hb HK6.out.lt)
            go_wp2_with fail
            refine HR.out _ _ HS'.out ?_
            clear HR HS HK5 HK6 hb
            have HS := HS'
            have HK5 := HK5'
            have HK6 := HK6'
            clear HS' HK5' HK6'
            refine plan3_run (o := ?_) (by simp only [List.getElem?_toArray, List.getElem?_cons_succ, List.getElem?_cons_zero]; rfl) ?_
            intro R HR
            refine wpList_load_mid rfl 26 (.tmp 6) rfl X6 0 rfl (bc E) _ (bs_range HK6.out.bs) Tryd.underlying26 rfl HSE.out ?_
            refine HR.out _ _ HS.out ?_
            clear HR
            (simp only [Act.put, List.setIfInBounds_toArray, List.set_cons_zero, List.set_cons_succ])
            refine plan3_run (o := ?_) (by simp only [List.getElem?_toArray, List.getElem?_cons_succ, List.getElem?_cons_zero]; rfl) ?_
            intro R HR
            go_wp2_with fail
            with_reducible refine (rchain_any E d Wy9 HC.out.len HDk.out).mono ?_
            rintro e Wy10 ⟨rfl, hb⟩
            have HS' : Hid (Hid (C8 w Z8 Z9 (some ⟨b, o, none⟩) N c L d E Wy10)) := hide (hide (HS.out.out.below hb))
            have HK5' : Hid (Blk Wy10 X5 26 (bc E)) := hide (HK5.out.below hb HK5.out.lt)
            have HK6' : Hid (Blk Wy10 X6 26 (bc E)) := hide (HK6.out.below hb HK6.out.lt)
            go_wp2_with fail
            refine HR.out _ _ HS'.out ?_
            clear HR HS HK5 HK6 hb
            have HS := HS'
            have HK5 := HK5'
            have HK6 := HK6'
            clear HS' HK5' HK6'
            refine plan3_run (o := ?_) (by simp only [List.getElem?_toArray, List.getElem?_cons_succ, List.getElem?_cons_zero]; rfl) ?_
            intro R HR
            refine wpList_store_mid rfl 26 (.tmp 5) (.tmp 24) rfl X5 0 (bc (tagd tChain (E ++ d))).toArray rfl rfl (by rw [dv_size _ HE1.out]; exact HK5.out.there (by rw [bc_len]; exact HC.out.len)) (by rw [dv_size _ HE1.out]; exact Tryd.size26) (all_oneCell_toArray (bc_one _)) ?_
            have HS' : Hid (Hid (C8 w Z8 Z9 (some ⟨b, o, none⟩) N c L d E (Wy10.setCells X5 0 (bc (tagd tChain (E ++ d))).toArray.toList))) := hide (hide (HS.out.out.set HNE.out.1.1 HNE.out.2.1 (fun b' o' e => (HA.out b' o' e).1) (Nat.le_of_lt HX.out.1) _))
            have HK5' : Hid (Blk (Wy10.setCells X5 0 (bc (tagd tChain (E ++ d))).toArray.toList) X5 26 (bc (tagd tChain (E ++ d)))) := hide (HK5.out.setAll (by simp [bc_len, HE1.out, HC.out.len]))
            have HK6' : Hid (Blk (Wy10.setCells X5 0 (bc (tagd tChain (E ++ d))).toArray.toList) X6 26 (bc E)) := hide (HK6.out.setCellsOther (fun h => HX.out.2.2 h.symm) _ _)
            refine HR.out _ _ HS'.out ?_
            clear HR HS HK5 HK6
            have HS := HS'
            have HK5 := HK5'
            have HK6 := HK6'
            clear HS' HK5' HK6'
            (simp only [Act.put])
            refine plan3_run (o := ?_) (by simp only [List.getElem?_toArray, List.getElem?_cons_succ, List.getElem?_cons_zero]; rfl) ?_
            intro R HR
            refine wpList_store_mid rfl 26 (.tmp 6) (.tmp 27) rfl X6 0 (bc (tagd tChain (E ++ d))).toArray rfl rfl (by rw [dv_size _ HE1.out]; exact HK6.out.there (by rw [bc_len]; exact HC.out.len)) (by rw [dv_size _ HE1.out]; exact Tryd.size26) (all_oneCell_toArray (bc_one _)) ?_
            have HS' : Hid (Hid (C8 w Z8 Z9 (some ⟨b, o, none⟩) N c L d E ((Wy10.setCells X5 0 (bc (tagd tChain (E ++ d))).toArray.toList).setCells X6 0 (bc (tagd tChain (E ++ d))).toArray.toList))) := hide (hide (HS.out.out.set HNE.out.1.2 HNE.out.2.2 (fun b' o' e => (HA.out b' o' e).2) (Nat.le_of_lt HX.out.2.1) _))
            have HK6' : Hid (Blk ((Wy10.setCells X5 0 (bc (tagd tChain (E ++ d))).toArray.toList).setCells X6 0 (bc (tagd tChain (E ++ d))).toArray.toList) X6 26 (bc (tagd tChain (E ++ d)))) := hide (HK6.out.setAll (by simp [bc_len, HE1.out, HC.out.len]))
            have HK5' : Hid (Blk ((Wy10.setCells X5 0 (bc (tagd tChain (E ++ d))).toArray.toList).setCells X6 0 (bc (tagd tChain (E ++ d))).toArray.toList) X5 26 (bc (tagd tChain (E ++ d)))) := hide (HK5.out.setCellsOther HX.out.2.2 _ _)
            refine HR.out _ _ HS'.out ?_
            clear HR HS HK5 HK6
            have HS := HS'
            have HK5 := HK5'
            have HK6 := HK6'
            clear HS' HK5' HK6'
            (simp only [Act.put])
            refine plan3_done ?_
            exact ⟨rfl, hide ⟨HS.out.out, HK5.out, HK6.out⟩⟩
          · intro R HR
            refine wpList_load_mid rfl 26 (.tmp 6) rfl X6 0 rfl (bc E) _ (bs_range HK6.out.bs) Tryd.underlying26 rfl HSE.out ?_
            refine HR.out _ _ HS.out ?_
            clear HR
            (simp only [Act.put, List.setIfInBounds_toArray, List.set_cons_zero, List.set_cons_succ])
            refine plan3_run (o := ?_) (by simp only [List.getElem?_toArray, List.getElem?_cons_succ, List.getElem?_cons_zero]; rfl) ?_
            intro R HR
            go_wp2_with fail
            with_reducible refine (chain_any E d Wd (HT.out.below HS.out.out.bel) HC.out.len HDk.out).mono ?_
            rintro e Wy11 ⟨rfl, hb⟩
            have HS' : Hid (Hid (C8 w Z8 Z9 (some ⟨b, o, none⟩) N c L d E Wy11)) := hide (hide (HS.out.out.below hb))
            have HK5' : Hid (Blk Wy11 X5 26 (bc E)) := hide (HK5.out.below hb HK5.out.lt)
            have HK6' : Hid (Blk Wy11 X6 26 (bc E)) := hide (HK6.out.below hb HK6.out.lt)
            go_wp2_with fail
            refine HR.out _ _ HS'.out ?_
            clear HR HS HK5 HK6 hb
            have HS := HS'
            have HK5 := HK5'
            have HK6 := HK6'
            clear HS' HK5' HK6'
            refine plan3_run (o := ?_) (by simp only [List.getElem?_toArray, List.getElem?_cons_succ, List.getElem?_cons_zero]; rfl) ?_
            intro R HR
            go_wp2_with fail
            with_reducible refine (rchain_any E d Wy11 HC.out.len HDk.out).mono ?_
            rintro e Wy12 ⟨rfl, hb⟩
            have HS' : Hid (Hid (C8 w Z8 Z9 (some ⟨b, o, none⟩) N c L d E Wy12)) := hide (hide (HS.out.out.below hb))
            have HK5' : Hid (Blk Wy12 X5 26 (bc E)) := hide (HK5.out.below hb HK5.out.lt)
            have HK6' : Hid (Blk Wy12 X6 26 (bc E)) := hide (HK6.out.below hb HK6.out.lt)
            go_wp2_with fail
            refine HR.out _ _ HS'.out ?_
            clear HR HS HK5 HK6 hb
            have HS := HS'
            have HK5 := HK5'
            have HK6 := HK6'
            clear HS' HK5' HK6'
            refine plan3_run (o := ?_) (by simp only [List.getElem?_toArray, List.getElem?_cons_succ, List.getElem?_cons_zero]; rfl) ?_
            intro R HR
            refine wpList_store_mid rfl 26 (.tmp 5) (.tmp 24) rfl X5 0 (bc (tagd tChain (E ++ d))).toArray rfl rfl (by rw [dv_size _ HE1.out]; exact HK5.out.there (by rw [bc_len]; exact HC.out.len)) (by rw [dv_size _ HE1.out]; exact Tryd.size26) (all_oneCell_toArray (bc_one _)) ?_
            have HS' : Hid (Hid (C8 w Z8 Z9 (some ⟨b, o, none⟩) N c L d E (Wy12.setCells X5 0 (bc (tagd tChain (E ++ d))).toArray.toList))) := hide (hide (HS.out.out.set HNE.out.1.1 HNE.out.2.1 (fun b' o' e => (HA.out b' o' e).1) (Nat.le_of_lt HX.out.1) _))
            have HK5' : Hid (Blk (Wy12.setCells X5 0 (bc (tagd tChain (E ++ d))).toArray.toList) X5 26 (bc (tagd tChain (E ++ d)))) := hide (HK5.out.setAll (by simp [bc_len, HE1.out, HC.out.len]))
            have HK6' : Hid (Blk (Wy12.setCells X5 0 (bc (tagd tChain (E ++ d))).toArray.toList) X6 26 (bc E)) := hide (HK6.out.setCellsOther (fun h => HX.out.2.2 h.symm) _ _)
            refine HR.out _ _ HS'.out ?_
            clear HR HS HK5 HK6
            have HS := HS'
            have HK5 := HK5'
            have HK6 := HK6'
            clear HS' HK5' HK6'
            (simp only [Act.put])
            refine plan3_run (o := ?_) (by simp only [List.getElem?_toArray, List.getElem?_cons_succ, List.getElem?_cons_zero]; rfl) ?_
            intro R HR
            refine wpList_store_mid rfl 26 (.tmp 6) (.tmp 27) rfl X6 0 (bc (tagd tChain (E ++ d))).toArray rfl rfl (by rw [dv_size _ HE1.out]; exact HK6.out.there (by rw [bc_len]; exact HC.out.len)) (by rw [dv_size _ HE1.out]; exact Tryd.size26) (all_oneCell_toArray (bc_one _)) ?_
            have HS' : Hid (Hid (C8 w Z8 Z9 (some ⟨b, o, none⟩) N c L d E ((Wy12.setCells X5 0 (bc (tagd tChain (E ++ d))).toArray.toList).setCells X6 0 (bc (tagd tChain (E ++ d))).toArray.toList))) := hide (hide (HS.out.out.set HNE.out.1.2 HNE.out.2.2 (fun b' o' e => (HA.out b' o' e).2) (Nat.le_of_lt HX.out.2.1) _))
            have HK6' : Hid (Blk ((Wy12.setCells X5 0 (bc (tagd tChain (E ++ d))).toArray.toList).setCells X6 0 (bc (tagd tChain (E ++ d))).toArray.toList) X6 26 (bc (tagd tChain (E ++ d)))) := hide (HK6.out.setAll (by simp [bc_len, HE1.out, HC.out.len]))
            have HK5' : Hid (Blk ((Wy12.setCells X5 0 (bc (tagd tChain (E ++ d))).toArray.toList).setCells X6 0 (bc (tagd tChain (E ++ d))).toArray.toList) X5 26 (bc (tagd tChain (E ++ d)))) := hide (HK5.out.setCellsOther HX.out.2.2 _ _)
            refine HR.out _ _ HS'.out ?_
            clear HR HS HK5 HK6
            have HS := HS'
            have HK5 := HK5'
            have HK6 := HK6'
            clear HS' HK5' HK6'
            (simp only [Act.put])
            refine plan3_done ?_
            exact ⟨rfl, hide ⟨HS.out.out, HK5.out, HK6.out⟩⟩
        · intro R HR
          refine wpList_load_mid rfl 26 (.tmp 6) rfl X6 0 rfl (bc E) _ (bs_range HK6.out.bs) Tryd.underlying26 rfl HSE.out ?_
          refine HR.out _ _ HS.out ?_
          clear HR
          (simp only [Act.put, List.setIfInBounds_toArray, List.set_cons_zero, List.set_cons_succ])
          refine plan3_run (o := ?_) (by simp only [List.getElem?_toArray, List.getElem?_cons_zero]; rfl) ?_
          intro R HR
          refine wpList_load_mid rfl 26 (.tmp 5) rfl X5 0 rfl (bc E) _ (bs_range HK5.out.bs) Tryd.underlying26 rfl HSE.out ?_
          refine HR.out _ _ HS.out ?_
          clear HR
          (simp only [Act.put, List.setIfInBounds_toArray, List.set_cons_zero, List.set_cons_succ])
          refine plan3_run (o := ?_) (by simp only [List.getElem?_toArray, List.getElem?_cons_succ, List.getElem?_cons_zero]; rfl) ?_
          intro R HR
          go_wp2_with fail
          with_reducible refine (chain_any E d Wd (HT.out.below HS.out.out.bel) HC.out.len HDk.out).mono ?_
          rintro e Wy13 ⟨rfl, hb⟩
          have HS' : Hid (Hid (C8 w Z8 Z9 (some ⟨b, o, none⟩) N c L d E Wy13)) := hide (hide (HS.out.out.below hb))
          have HK5' : Hid (Blk Wy13 X5 26 (bc E)) := hide (HK5.out.below hb HK5.out.lt)
          have HK6' : Hid (Blk Wy13 X6 26 (bc E)) := hide (HK6.out.below hb HK6.out.lt)
          go_wp2_with fail
          refine HR.out _ _ HS'.out ?_
          clear HR HS HK5 HK6 hb
          have HS := HS'
          have HK5 := HK5'
          have HK6 := HK6'
          clear HS' HK5' HK6'
          refine plan3_run (o := ?_) (by simp only [List.getElem?_toArray, List.getElem?_cons_succ, List.getElem?_cons_zero]; rfl) ?_
          intro R HR
          go_wp2_with fail
          with_reducible refine (rchain_any E d Wy13 HC.out.len HDk.out).mono ?_
          rintro e Wy14 ⟨rfl, hb⟩
          have HS' : Hid (Hid (C8 w Z8 Z9 (some ⟨b, o, none⟩) N c L d E Wy14)) := hide (hide (HS.out.out.below hb))
          have HK5' : Hid (Blk Wy14 X5 26 (bc E)) := hide (HK5.out.below hb HK5.out.lt)
          have HK6' : Hid (Blk Wy14 X6 26 (bc E)) := hide (HK6.out.below hb HK6.out.lt)
          go_wp2_with fail
          refine HR.out _ _ HS'.out ?_
          clear HR HS HK5 HK6 hb
          have HS := HS'
          have HK5 := HK5'
          have HK6 := HK6'
          clear HS' HK5' HK6'
          refine plan3_run (o := ?_) (by simp only [List.getElem?_toArray, List.getElem?_cons_succ, List.getElem?_cons_zero]; rfl) ?_
          intro R HR
          refine wpList_store_mid rfl 26 (.tmp 5) (.tmp 24) rfl X5 0 (bc (tagd tChain (E ++ d))).toArray rfl rfl (by rw [dv_size _ HE1.out]; exact HK5.out.there (by rw [bc_len]; exact HC.out.len)) (by rw [dv_size _ HE1.out]; exact Tryd.size26) (all_oneCell_toArray (bc_one _)) ?_
          have HS' : Hid (Hid (C8 w Z8 Z9 (some ⟨b, o, none⟩) N c L d E (Wy14.setCells X5 0 (bc (tagd tChain (E ++ d))).toArray.toList))) := hide (hide (HS.out.out.set HNE.out.1.1 HNE.out.2.1 (fun b' o' e => (HA.out b' o' e).1) (Nat.le_of_lt HX.out.1) _))
          have HK5' : Hid (Blk (Wy14.setCells X5 0 (bc (tagd tChain (E ++ d))).toArray.toList) X5 26 (bc (tagd tChain (E ++ d)))) := hide (HK5.out.setAll (by simp [bc_len, HE1.out, HC.out.len]))
          have HK6' : Hid (Blk (Wy14.setCells X5 0 (bc (tagd tChain (E ++ d))).toArray.toList) X6 26 (bc E)) := hide (HK6.out.setCellsOther (fun h => HX.out.2.2 h.symm) _ _)
          refine HR.out _ _ HS'.out ?_
          clear HR HS HK5 HK6
          have HS := HS'
          have HK5 := HK5'
          have HK6 := HK6'
          clear HS' HK5' HK6'
          (simp only [Act.put])
          refine plan3_run (o := ?_) (by simp only [List.getElem?_toArray, List.getElem?_cons_succ, List.getElem?_cons_zero]; rfl) ?_
          intro R HR
          refine wpList_store_mid rfl 26 (.tmp 6) (.tmp 27) rfl X6 0 (bc (tagd tChain (E ++ d))).toArray rfl rfl (by rw [dv_size _ HE1.out]; exact HK6.out.there (by rw [bc_len]; exact HC.out.len)) (by rw [dv_size _ HE1.out]; exact Tryd.size26) (all_oneCell_toArray (bc_one _)) ?_
          have HS' : Hid (Hid (C8 w Z8 Z9 (some ⟨b, o, none⟩) N c L d E ((Wy14.setCells X5 0 (bc (tagd tChain (E ++ d))).toArray.toList).setCells X6 0 (bc (tagd tChain (E ++ d))).toArray.toList))) := hide (hide (HS.out.out.set HNE.out.1.2 HNE.out.2.2 (fun b' o' e => (HA.out b' o' e).2) (Nat.le_of_lt HX.out.2.1) _))
          have HK6' : Hid (Blk ((Wy14.setCells X5 0 (bc (tagd tChain (E ++ d))).toArray.toList).setCells X6 0 (bc (tagd tChain (E ++ d))).toArray.toList) X6 26 (bc (tagd tChain (E ++ d)))) := hide (HK6.out.setAll (by simp [bc_len, HE1.out, HC.out.len]))
          have HK5' : Hid (Blk ((Wy14.setCells X5 0 (bc (tagd tChain (E ++ d))).toArray.toList).setCells X6 0 (bc (tagd tChain (E ++ d))).toArray.toList) X5 26 (bc (tagd tChain (E ++ d)))) := hide (HK5.out.setCellsOther HX.out.2.2 _ _)
          refine HR.out _ _ HS'.out ?_
          clear HR HS HK5 HK6
          have HS := HS'
          have HK5 := HK5'
          have HK6 := HK6'
          clear HS' HK5' HK6'
          (simp only [Act.put])
          refine plan3_done ?_
          exact ⟨rfl, hide ⟨HS.out.out, HK5.out, HK6.out⟩⟩
      rintro ac W5 ⟨rfl, HQ⟩
      go_wp2_with fail
      refine name_code ?_
      intro W6 HW6
      obtain rfl : W6 = W5 := HW6.out
      have HS0 : Hid (Hid (Below W6.heap.size W6 W6.drew)) := hide (hide (Below.refl _ _).drew)
      have HSP := hide (show (Tryd.prog.info? 26).map (·.size) = some (bc (tagd tChain (E ++ d))).length by rw [bc_len, HE1.out]; exact Tryd.size26)
      have HRw : Hid (Src W6 (some ⟨Z9, 0, none⟩) 32 32 E ∧ Src W6 (some ⟨Z8, 0, none⟩) 32 32 d) := hide ⟨⟨HC.out.len.symm, Sb.of HQ.out.1.k9.bs, fun h => by cases h⟩, ⟨HDk.out.symm, Sb.of HQ.out.1.k8.bs, fun h => by cases h⟩⟩
      have HLE := hide (show 64 = (E ++ d).length by rw [List.length_append, HC.out.len, HDk.out])
      refine wp_region_plan3 (fun W => Hid (Below W6.heap.size W6 W)) (.take 0 (.take 1 (.take 2 (.take 3 (.take 4 (.take 6 (.take 8 (.run 5 (.run 7 (.run 9 (.run 10 (.take 11 (.take 12 .done))))))))))))) (by kernel_rfl) (by kernel_rfl) HS0.out ?_
      (refine plan3_take (o := ?_) (by simp only [List.getElem?_toArray, List.getElem?_cons_zero]; rfl) (yieldsIf_load_mid (by rfl) 26 (.tmp 5) rfl X5 0 rfl (bc (tagd tChain (E ++ d))) _ (fun _ h => bs_range (HQ.out.2.1.below h.out HQ.out.2.1.lt).bs) Tryd.underlying26 rfl HSP.out) ?_; (simp only [Act.put, List.setIfInBounds_toArray, List.set_cons_zero, List.set_cons_succ]))
      (refine plan3_take (o := ?_) (by simp only [List.getElem?_toArray, List.getElem?_cons_succ, List.getElem?_cons_zero]; rfl) (yieldsIf_load_mid (by rfl) 26 (.tmp 6) rfl X6 0 rfl (bc (tagd tChain (E ++ d))) _ (fun _ h => bs_range (HQ.out.2.2.below h.out HQ.out.2.2.lt).bs) Tryd.underlying26 rfl HSP.out) ?_; (simp only [Act.put, List.setIfInBounds_toArray, List.set_cons_zero, List.set_cons_succ]))
      (refine plan3_take (o := ?_) (by simp only [List.getElem?_toArray, List.getElem?_cons_succ, List.getElem?_cons_zero]; rfl) (yields_neq (by rfl) (.tmp 28) (.tmp 29) 26 rfl (tagd tChain (E ++ d)) (tagd tChain (E ++ d)) rfl rfl HE1.out HE1.out false (by simp)) ?_; (simp only [Act.put, List.setIfInBounds_toArray, List.set_cons_zero, List.set_cons_succ]))
      (refine plan3_take (o := ?_) (v := ?_) (by simp only [List.getElem?_toArray, List.getElem?_cons_succ, List.getElem?_cons_zero]; rfl) (yields_run (by rfl) ?_) ?_; rotate_left; (focus (intro w' _; go_simp <;> with_reducible rfl)); (simp only [Act.put, List.setIfInBounds_toArray, List.set_cons_zero, List.set_cons_succ]))
      (refine plan3_take (o := ?_) (by simp only [List.getElem?_toArray, List.getElem?_cons_succ, List.getElem?_cons_zero]; rfl) (yieldsIf_load_mid (by rfl) 26 (.tmp 5) rfl X5 0 rfl (bc (tagd tChain (E ++ d))) _ (fun _ h => bs_range (HQ.out.2.1.below h.out HQ.out.2.1.lt).bs) Tryd.underlying26 rfl HSP.out) ?_; (simp only [Act.put, List.setIfInBounds_toArray, List.set_cons_zero, List.set_cons_succ]))
      (refine plan3_take (o := ?_) (v := ?_) (by simp only [List.getElem?_toArray, List.getElem?_cons_succ, List.getElem?_cons_zero]; rfl) (yields_run (by rfl) ?_) ?_; rotate_left; (focus (intro w' _; go_simp <;> with_reducible rfl)); (simp only [Act.put, List.setIfInBounds_toArray, List.set_cons_zero, List.set_cons_succ]))
      (refine plan3_take (o := ?_) (v := ?_) (by simp only [List.getElem?_toArray, List.getElem?_cons_succ, List.getElem?_cons_zero]; rfl) (yields_run (by rfl) ?_) ?_; rotate_left; (focus (intro w' _; go_simp <;> with_reducible rfl)); (simp only [Act.put, List.setIfInBounds_toArray, List.set_cons_zero, List.set_cons_succ]))
      refine plan3_run (o := ?_) (by simp only [List.getElem?_toArray, List.getElem?_cons_succ, List.getElem?_cons_zero]; rfl) ?_
      intro R HR
      go_wp2_with fail
      have HS2 : Hid (Hid (Below W6.heap.size W6 (W6.alloc (.cells #[] 5)).drew)) := hide (hide (below_new _ _).drew)
      have hown := (own_empty W6 W6.heap.size 5 5 1 rfl (Nat.le_refl _)).drew
      refine HR.out _ _ HS2.out ?_
      clear HR HS0
      refine plan3_run (o := ?_) (by simp only [List.getElem?_toArray, List.getElem?_cons_succ, List.getElem?_cons_zero]; rfl) ?_
      intro R HR
      refine wpList_of_wp (by rfl) (wp_app5 (.tmp 33) (.tmp 34) rfl W6.heap.size _ 0 [] rfl hown (some ⟨Z9, 0, none⟩) 32 32 E rfl (HRw.out.1.below HS2.out.out) (by decide) HS2.out.out.size 32 E rfl rfl ?_)
      intro v1 wA hA1 hgA
      have HS3 : Hid (Hid (Below W6.heap.size W6 wA)) := hide (hide (HS2.out.out.grown hgA HS2.out.out.size (fun k hk => (hown.lt k hk).1)))
      clear hgA hown HS2
      obtain ⟨gA, cA, rfl, hA2, _, _, _, _⟩ := own_form hA1 (by decide)
      refine HR.out _ _ HS3.out ?_
      clear HR
      (simp only [Act.put, List.setIfInBounds_toArray, List.set_cons_zero, List.set_cons_succ])
      refine plan3_run (o := ?_) (by simp only [List.getElem?_toArray, List.getElem?_cons_succ, List.getElem?_cons_zero]; rfl) ?_
      intro R HR
      refine wpList_of_wp (by rfl) (wp_app5 (.tmp 35) (.tmp 36) rfl W6.heap.size _ 32 E rfl hA2 (some ⟨Z8, 0, none⟩) 32 32 d rfl (HRw.out.2.below HS3.out.out) (by decide) HS3.out.out.size 64 (E ++ d) rfl rfl ?_)
      intro v2 wB hB1 hgB
      have HS4 : Hid (Hid (Below W6.heap.size W6 wB)) := hide (hide (HS3.out.out.grown hgB HS3.out.out.size (fun k hk => (hA2.lt k hk).1)))
      clear hgB hA1 hA2 HS3
      obtain ⟨gB, cB, rfl, hB2, hB3, _, hB4, hB5⟩ := own_form hB1 (by decide)
      refine HR.out _ _ HS4.out ?_
      clear HR
      (simp only [Act.put, List.setIfInBounds_toArray, List.set_cons_zero, List.set_cons_succ])
      have HB3 := hide hB3
      clear hB1 hB2 hB3 hB4 hB5
      refine plan3_run (o := ?_) (by simp only [List.getElem?_toArray, List.getElem?_cons_succ, List.getElem?_cons_zero]; rfl) ?_
      intro R HR
      go_wp2_with fail
      with_reducible refine (tag_chain gB 64 cB (E ++ d) _ (HT.out.below (below_one HQ.out.1.bel HS4.out.out)) HB3.out HLE.out (by decide)).mono ?_
      rintro e wC ⟨rfl, hbC⟩
      have HS5 : Hid (Hid (Below W6.heap.size W6 wC)) := hide (hide (below_one HS4.out.out hbC))
      clear hbC HS4 HB3
      go_wp2_with fail
      refine HR.out _ _ HS5.out ?_
      clear HR
      (refine plan3_take (o := ?_) (by simp only [List.getElem?_toArray, List.getElem?_cons_succ, List.getElem?_cons_zero]; rfl) (yields_neq (by rfl) (.tmp 32) (.tmp 38) 26 rfl (tagd tChain (E ++ d)) (tagd tChain (E ++ d)) rfl rfl HE1.out HE1.out false (by simp)) ?_; (simp only [Act.put, List.setIfInBounds_toArray, List.set_cons_zero, List.set_cons_succ]))
      (refine plan3_take (o := ?_) (v := ?_) (by simp only [List.getElem?_toArray, List.getElem?_cons_succ, List.getElem?_cons_zero]; rfl) (yields_run (by rfl) ?_) ?_; rotate_left; (focus (intro w' _; go_simp <;> with_reducible rfl)); (simp only [Act.put, List.setIfInBounds_toArray, List.set_cons_zero, List.set_cons_succ]))
      refine plan3_done ?_
      have HJ' : Hid (∃ E', CI w X5 X6 (some ⟨b, o, none⟩) N c L E' wC) := hide ⟨_, HQ.out.2.1.below HS5.out.out HQ.out.2.1.lt, HQ.out.2.2.below HS5.out.out HQ.out.2.2.lt, below_one HQ.out.1.bel HS5.out.out, HQ.out.1.src.below HS5.out.out, HE1.out⟩
      go_wp2_with fail
      go_roundw
      case rel => exact ⟨k + 1, by omega, by go_num, HJ'⟩
      case measure => simp [intOf]; omega
    · have hge : ¬ (k : Int) < (N : Int) := by omega
      go_wp2_with fail
      go_ret
      exact ⟨rfl, HJ.out.choose_spec.bel⟩

end Go.Proofs.YtnopibpakchejaaDoor
