/- The reference's text of the last link. -/
import Derived.Test.YtalgceplcahgbaaDoorRfs
import Derived.Test.YtalgceplcahgbaaDoorCREncL
namespace Go.Proofs.YtalgceplcahgbaaDoor
open Go.RowKit Go.Shelf

set_option maxRecDepth 20000 in
theorem rnumber_any (n : Int) (w : World) : Calls Tryd.prog 86 #[.int .i64 n] w fun e w' => e = .returned (.agg #[.int .i64 1, .int .i64 n, .string ⟨#[]⟩, .slice none 0 0]) ∧ Below w.heap.size w w' := by
  go_enter Tryd.func86, Tryd.ntmps86
  go_wp2_with fail
  exact bodyPost_ret (v := .agg #[.int .i64 1, .int .i64 n, .string ⟨#[]⟩, .slice none 0 0]) (by simp [results, Tryd.results86, go_sem]) rfl ⟨rfl, below_new _ _⟩

set_option maxRecDepth 20000 in
theorem rtextv_any (A : Option Addr) (l : List UInt8) (cap : Nat) (w : World) (h : Sb w A l) : Calls Tryd.prog 87 #[.slice A l.length cap] w fun e w' => e = .returned (.agg #[.int .i64 2, .int .i64 0, .string (str l), .slice none 0 0]) ∧ Below w.heap.size w w' := by
  have hcv := sb_conv (cap := cap) (h.below (below_new w (.cells #[.int .i64 0, .int .i64 0, .string ⟨#[]⟩, .slice none 0 0] 106)))
  clear h
  generalize str l = s at *
  go_enter Tryd.func87, Tryd.ntmps87
  go_wp2_with fail
  exact bodyPost_ret (v := .agg #[.int .i64 2, .int .i64 0, .string s, .slice none 0 0]) (by simp [results, Tryd.results87, go_sem]) rfl ⟨rfl, below_new _ _⟩


/-- What Text answers. -/
def TxP (l : List Lr) (w : World) (e : Ending) (w' : World) : Prop :=
  (l = [] → e = .returned (.tuple #[.string ⟨#[110, 111, 110, 101]⟩, .slice none 0 0])) ∧
  (∀ h : l ≠ [], ∃ (A : Option Addr) (cap : Nat), e = .returned (.tuple #[.string ⟨#[108, 105, 110, 107]⟩, .slice A (lenc (l.getLast h).x).length cap]) ∧ Sb w' A (lenc (l.getLast h).x) ∧ (lenc (l.getLast h).x).length ≤ cap ∧ cap ≤ 9223372036854775807 ∧ (A = none → cap = 0)) ∧ Below w.heap.size w w'

set_option maxRecDepth 20000 in
set_option maxHeartbeats 3200000 in
theorem rtext_any (A : Option Addr) (l : List Lr) (cap : Nat) (w : World) (hl : Lks w A l) (hc : l.length ≤ cap) (hc2 : cap ≤ 9223372036854775807) (hs : Short l) :
    Calls Tryd.prog 67 #[.slice A l.length cap] w (TxP l w) := by
  have HL := hide hl
  clear hl
  by_cases h0 : l = []
  · subst h0
    go_enter Tryd.func67, Tryd.ntmps67
    go_wp2_with fail
    go_ret2
    exact ⟨fun _ => rfl, fun h => absurd rfl h, Below.refl _ _⟩
  · have hp : 0 < l.length := List.length_pos_iff.2 h0
    have HNE := hide h0
    have hpb : (((l.length : Nat) : Int) == 0) = false := by simp; omega
    have hsub : IntKind.i64.wrap (((l.length : Nat) : Int) - 1) = ((l.length - 1 : Nat) : Int) := by rw [IntWalk.i64_in _ (by omega)]; omega
    have hlt : ((l.length - 1 : Nat) : Int) < ((l.length : Nat) : Int) := by omega
    have HLT := hide (show l.length - 1 < l.length by omega)
    have HLG := hide (show l[l.length - 1]'HLT.out = l.getLast h0 from (List.getLast_eq_getElem h0).symm)
    obtain ⟨b, o, rfl, hb0, hrg, hin⟩ := HL.out.at HLT.out
    have HSH := hide (hs _ (List.getElem_mem HLT.out))
    generalize hr : l[l.length - 1]'HLT.out = r at *
    clear hr
    have HR := hide hin
    have HRG := hide hrg
    clear hin hrg hb0
    have HZ60 := hide (size60 HR.out)
    have HX := hide (show Blk ((w.alloc (.cells z60.toArray 60)).setRow w.heap.size r.cs.toArray) w.heap.size 60 r.cs from (Blk.new w 60 z60).row _)
    have HB := hide (show Below w.heap.size w ((w.alloc (.cells z60.toArray 60)).setRow w.heap.size r.cs.toArray) from below_setRow (below_new w _) (Nat.le_refl _) _)
    go_enter Tryd.func67, Tryd.ntmps67
    go_wp2_with (first | (refine wpList_load_mid rfl 60 (.tmp 16) rfl b (o + (l.length - 1) * 35) rfl r.cs _ HRG.out Tryd.underlying60 rfl HZ60.out ?_) | (refine wpList_store_row rfl 60 (.tmp 4) (.tmp 17) rfl w.heap.size r.cs.toArray rfl rfl 60 _ (heap_alloc_new w _) HZ60.out (by rw [show r.cs.toArray.size = 35 from by rw [List.size_toArray, Lr.cs_len HR.out]]; rfl) (all_oneCell_toArray (Lr.cs_one r)) ?_))
    refine name_code ?_
    intro V hV
    have HXV := hide (show Blk V w.heap.size 60 r.cs from by rw [hV.out]; exact HX.out)
    have HBV := hide (show Below w.heap.size w V from by rw [hV.out]; exact HB.out)
    clear hV HX HB
    go_loopw [5, 6] (fun x i wr => ∃ k : Nat, k ≤ 32 ∧ i = .int .i64 k ∧ Hid (wr.ownsRow V.heap.size 5 1 x k (bc (r.x.prev.take k))) ∧ Hid (Below V.heap.size V wr)) (fun _ i _ => 32 - (intOf i).toNat)
    case atStart => exact ⟨0, by omega, rfl, hide ⟨rfl, .inl ⟨rfl, rfl⟩⟩, hide (Below.refl _ _)⟩
    case round =>
      obtain ⟨k, hk, rfl, HO, HBK⟩ := hrel
      have HXK := hide (HXV.out.below HBK.out HXV.out.lt)
      by_cases hk32 : k < 32
      · have hk32' : ((k : Nat) : Int) < 32 := by omega
        have hkp : k < r.x.prev.length := by rw [HR.out.p32]; exact hk32
        have hcl : wr.cell? ⟨w.heap.size, 2 + k, none⟩ = some (.int .u8 ((r.x.prev[k]'hkp).toNat : Nat)) := by
          rw [HXK.out.cell (2 + k), Lr.cp HR.out k hk32, bc_get hkp]
        have HTK := hide (List.take_succ_eq_append_getElem hkp)
        generalize r.x.prev[k] = c at *
        have HOA := hide (HO.out.alloc (.cells (bc [c]).toArray 5))
        have HBA := hide (below_one HBK.out (below_new wr (.cells (bc [c]).toArray 5)))
        have HSA := hide (show Src (wr.alloc (.cells (bc [c]).toArray 5)) (some ⟨wr.heap.size, 0, none⟩) 1 1 [c] from ⟨rfl, Sb.of (Blk.new wr 5 (bc [c])).bs, fun h => by cases h⟩)
        go_wp2_with (at_builtin; refine wpList_of_wp rfl (wp_app5 (.tmp 22) (.tmp 27) rfl V.heap.size _ k (r.x.prev.take k) rfl HOA.out (some ⟨wr.heap.size, 0, none⟩) 1 1 [c] rfl HSA.out (by omega) (by have := HBA.out.size; exact this) (k + 1) (r.x.prev.take (k + 1)) rfl HTK.out ?_))
        intro v2 W2 h2 h3
        have HO2 := hide h2
        have HB2 := hide (show Below V.heap.size V W2 from HBA.out.grown h3 HBA.out.size (fun q hq => (HOA.out.lt q hq).1))
        clear h2 h3 HOA HBA HSA
        go_wp2_with fail
        go_roundw
        case rel => exact ⟨k + 1, by omega, by go_num, HO2, HB2⟩
        case measure => simp [intOf]; omega
      · obtain rfl : k = 32 := by omega
        have hk32' : ¬ ((32 : Nat) : Int) < 32 := by omega
        go_wp2_with fail
        obtain ⟨Ap, cp, hxe, hp1, hp2, hp3, hp4⟩ := own_bytes (l := r.x.prev) (by
          have := HO.out
          rw [List.take_of_length_le (by rw [HR.out.p32]; exact Nat.le_refl _)] at this
          rw [HR.out.p32]
          exact this)
        subst hxe
        have HPV := hide hp1
        clear HO hp1 hp2 hp3 hp4
        have HFA := hide (fun (W : World) (h : Below wr.heap.size wr W) => show W.cell? ⟨w.heap.size, 0, none⟩ = some (.int .i64 r.x.node) ∧ W.cell? ⟨w.heap.size, 1, none⟩ = some (.int .i64 r.x.no) ∧ W.cell? ⟨w.heap.size, 34, none⟩ = some r.dv from
          have hx := HXK.out.below h HXK.out.lt
          ⟨(hx.cell 0).trans r.c0, (hx.cell 1).trans r.c1, (hx.cell 34).trans (Lr.c34 HR.out)⟩)
        have HRB := hide (HR.out.below (below_one HBV.out HBK.out))
        have HS0 := hide (show Below wr.heap.size wr wr.drew from (Below.refl _ _).drew)
        refine wp_region_plan4 (fun W' => Below wr.heap.size wr W') (.take 0 (.take 1 (.take 3 (.take 4 (.take 6 (.take 8 (.take 9 (.run 2 (.run 5 (.run 7 (.run 10 (.run 11 (.run 12 (.run 13 (.take 14 (.take 15 (.take 16 (.run 17 (.run 18 .done))))))))))))))))))) (by kernel_rfl) (by kernel_rfl) HS0.out ?_
        generalize wr.drew = wD at HS0 ⊢
        (refine plan4_take (o := ?_) (v := ?_) (by simp only [List.getElem?_toArray, List.getElem?_cons_zero]; rfl) (yields_run (by rfl) ?_) ?_; rotate_left; (focus (intro w' hw'; go_simp <;> with_reducible rfl)); (simp only [Act.put, List.setIfInBounds_toArray, List.set_cons_zero, List.set_cons_succ]))
        (refine plan4_take (o := ?_) (v := ?_) (by simp only [List.getElem?_toArray, List.getElem?_cons_succ, List.getElem?_cons_zero]; rfl) (yields_run (by rfl) ?_) ?_; rotate_left; (focus (intro w' hw'; have q0 := (HFA.out w' hw').1; have q1 := (HFA.out w' hw').2.1; have q2 := (HFA.out w' hw').2.2; go_simp <;> with_reducible rfl)); (simp only [Act.put, List.setIfInBounds_toArray, List.set_cons_zero, List.set_cons_succ]))
        (refine plan4_take (o := ?_) (v := ?_) (by simp only [List.getElem?_toArray, List.getElem?_cons_succ, List.getElem?_cons_zero]; rfl) (yields_run (by rfl) ?_) ?_; rotate_left; (focus (intro w' hw'; go_simp <;> with_reducible rfl)); (simp only [Act.put, List.setIfInBounds_toArray, List.set_cons_zero, List.set_cons_succ]))
        (refine plan4_take (o := ?_) (v := ?_) (by simp only [List.getElem?_toArray, List.getElem?_cons_succ, List.getElem?_cons_zero]; rfl) (yields_run (by rfl) ?_) ?_; rotate_left; (focus (intro w' hw'; have q0 := (HFA.out w' hw').1; have q1 := (HFA.out w' hw').2.1; have q2 := (HFA.out w' hw').2.2; go_simp <;> with_reducible rfl)); (simp only [Act.put, List.setIfInBounds_toArray, List.set_cons_zero, List.set_cons_succ]))
        (refine plan4_take (o := ?_) (v := ?_) (by simp only [List.getElem?_toArray, List.getElem?_cons_succ, List.getElem?_cons_zero]; rfl) (yields_run (by rfl) ?_) ?_; rotate_left; (focus (intro w' hw'; go_simp <;> with_reducible rfl)); (simp only [Act.put, List.setIfInBounds_toArray, List.set_cons_zero, List.set_cons_succ]))
        (refine plan4_take (o := ?_) (v := ?_) (by simp only [List.getElem?_toArray, List.getElem?_cons_succ, List.getElem?_cons_zero]; rfl) (yields_run (by rfl) ?_) ?_; rotate_left; (focus (intro w' hw'; go_simp <;> with_reducible rfl)); (simp only [Act.put, List.setIfInBounds_toArray, List.set_cons_zero, List.set_cons_succ]))
        (refine plan4_take (o := ?_) (v := ?_) (by simp only [List.getElem?_toArray, List.getElem?_cons_succ, List.getElem?_cons_zero]; rfl) (yields_run (by rfl) ?_) ?_; rotate_left; (focus (intro w' hw'; have q0 := (HFA.out w' hw').1; have q1 := (HFA.out w' hw').2.1; have q2 := (HFA.out w' hw').2.2; go_simp <;> with_reducible rfl)); (simp only [Act.put, List.setIfInBounds_toArray, List.set_cons_zero, List.set_cons_succ]))
        refine plan4_run (o := ?_) (by simp only [List.getElem?_toArray, List.getElem?_cons_succ, List.getElem?_cons_zero]; rfl) ?_
        intro R' HK
        go_wp2_with fail
        refine (rnumber_any r.x.node _).mono ?_
        rintro e wN ⟨rfl, hbn⟩
        have HSn := hide (below_one HS0.out hbn)
        clear hbn
        go_wp2_with fail
        refine HK.out _ _ HSn.out ?_
        clear HK HS0
        have HS0 := HSn
        clear HSn
        refine plan4_run (o := ?_) (by simp only [List.getElem?_toArray, List.getElem?_cons_succ, List.getElem?_cons_zero]; rfl) ?_
        intro R' HK
        go_wp2_with fail
        refine (rnumber_any r.x.no _).mono ?_
        rintro e wN ⟨rfl, hbn⟩
        have HSn := hide (below_one HS0.out hbn)
        clear hbn
        go_wp2_with fail
        refine HK.out _ _ HSn.out ?_
        clear HK HS0
        have HS0 := HSn
        clear HSn
        refine plan4_run (o := ?_) (by simp only [List.getElem?_toArray, List.getElem?_cons_succ, List.getElem?_cons_zero]; rfl) ?_
        intro R' HK
        go_wp2_with fail
        refine (rtextv_any Ap r.x.prev cp _ (HPV.out.below HS0.out)).mono ?_
        rintro e wN ⟨rfl, hbn⟩
        have HSn := hide (below_one HS0.out hbn)
        clear hbn
        go_wp2_with fail
        refine HK.out _ _ HSn.out ?_
        clear HK HS0
        have HS0 := HSn
        clear HSn
        refine plan4_run (o := ?_) (by simp only [List.getElem?_toArray, List.getElem?_cons_succ, List.getElem?_cons_zero]; rfl) ?_
        intro R' HK
        go_wp2_with fail
        refine (rtextv_any r.A r.x.data r.cap _ (HRB.out.src.sb.below HS0.out)).mono ?_
        rintro e wN ⟨rfl, hbn⟩
        have HSn := hide (below_one HS0.out hbn)
        clear hbn
        go_wp2_with fail
        refine HK.out _ _ HSn.out ?_
        clear HK HS0
        have HS0 := HSn
        clear HSn
        refine plan4_run (o := ?_) (by simp only [List.getElem?_toArray, List.getElem?_cons_succ, List.getElem?_cons_zero]; rfl) ?_
        intro R' HK
        have HB6 := hide (below_one HS0.out (below_new wN (.cells (lnkC r.x).toArray 106)))
        have HY6 := hide (Blk.new wN 106 (lnkC r.x))
        unfold lnkC at HB6 HY6
        go_wp2_with fail
        refine HK.out _ _ HB6.out ?_
        clear HK HS0
        have HS0 := HB6
        refine plan4_run (o := ?_) (by simp only [List.getElem?_toArray, List.getElem?_cons_succ, List.getElem?_cons_zero]; rfl) ?_
        intro R' HK
        go_wp2_with fail
        refine HK.out _ _ HS0.out ?_
        clear HK
        have HLC := hide (lenc_len r.x)
        have HEN := hide (Cdc.refEncode_any (lnkT r.x (some ⟨wN.heap.size, 0, none⟩) 4) _ (lnkT_in r.x wN.heap.size _ HY6.out HR.out.node HR.out.no (by rw [HR.out.p32]; omega) (by have := HSH.out; omega)) (lnkT_sz _ _ _) (by rw [lnkT_enc]; have := HLC.out; have := HSH.out; have := HR.out.p32; omega))
        unfold Cdc.EncPost at HEN
        rw [lnkT_chk, lnkT_enc] at HEN
        refine plan4_run (o := ?_) (by simp only [List.getElem?_toArray, List.getElem?_cons_succ, List.getElem?_cons_zero]; rfl) ?_
        intro R' HK
        go_wp2_with fail
        refine HEN.out.mono ?_
        rintro e w7 ⟨v, rfl, hbn, ho⟩
        rw [if_pos trivial, bs_bc] at ho
        obtain ⟨A7, c7, rfl, h1, h2, h3, h4⟩ := own_bytes ho
        have HS7 := hide (below_one HB6.out hbn)
        have HA7 := hide (And.intro h1 (And.intro h2 (And.intro h3 h4)))
        clear hbn ho HEN h1 h2 h3 h4 HS0
        go_wp2_with fail
        refine HK.out _ _ HS7.out ?_
        clear HK
        (refine plan4_take (o := ?_) (v := ?_) (by simp only [List.getElem?_toArray, List.getElem?_cons_succ, List.getElem?_cons_zero]; rfl) (yields_run (by rfl) ?_) ?_; rotate_left; (focus (intro w' hw'; go_simp <;> with_reducible rfl)); (simp only [Act.put, List.setIfInBounds_toArray, List.set_cons_zero, List.set_cons_succ]))
        (refine plan4_take (o := ?_) (v := ?_) (by simp only [List.getElem?_toArray, List.getElem?_cons_succ, List.getElem?_cons_zero]; rfl) (yields_run (by rfl) ?_) ?_; rotate_left; (focus (intro w' hw'; go_simp <;> with_reducible rfl)); (simp only [Act.put, List.setIfInBounds_toArray, List.set_cons_zero, List.set_cons_succ]))
        (refine plan4_take (o := ?_) (v := ?_) (by simp only [List.getElem?_toArray, List.getElem?_cons_succ, List.getElem?_cons_zero]; rfl) (yields_run (by rfl) ?_) ?_; rotate_left; (focus (intro w' hw'; go_simp <;> with_reducible rfl)); (simp only [Act.put, List.setIfInBounds_toArray, List.set_cons_zero, List.set_cons_succ]))
        refine plan4_run (o := ?_) (by simp only [List.getElem?_toArray, List.getElem?_cons_succ, List.getElem?_cons_zero]; rfl) ?_
        intro R' HK
        go_wp2_with fail
        refine HK.out _ _ HS7.out ?_
        clear HK
        refine plan4_run (o := ?_) (by simp only [List.getElem?_toArray, List.getElem?_cons_succ, List.getElem?_cons_zero]; rfl) ?_
        intro R' HK
        go_wp2_with fail
        refine HK.out _ _ HS7.out ?_
        clear HK
        refine plan4_done ?_
        go_wp2_with fail
        go_ret2
        refine ⟨fun h => absurd h HNE.out, fun h => ⟨A7, c7, by rw [← HLG.out]; rfl, by rw [← HLG.out]; exact HA7.out⟩, below_one (below_one HBV.out HBK.out) HS7.out⟩
end Go.Proofs.YtalgceplcahgbaaDoor
