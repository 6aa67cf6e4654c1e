/- The reference's Sum. -/
import Derived.Test.YtalgceplcahgbaaDoorRPad
namespace Go.Proofs.YtalgceplcahgbaaDoor
open Go.RowKit

/-- What the reference's Sum keeps. -/
structure RI (w : World) (g : Nat) (P : List UInt8) (s : S8) (W : World) : Prop where
  res : Blk W w.heap.size 26 (List.replicate 32 (.int .u8 0))
  st : Blk W (w.heap.size + 1) 73 (uc (words s))
  bs : Bs W g 0 P
  glt : g < W.heap.size
  bel : Below w.heap.size w W
theorem RI.below {w W W' : World} {g : Nat} {P : List UInt8} {s : S8} (h : RI w g P s W) (hb : Below W.heap.size W W') : RI w g P s W' := ⟨h.res.below hb h.res.lt, h.st.below hb h.st.lt, h.bs.below hb h.glt, Nat.lt_of_lt_of_le h.glt hb.size, below_one h.bel hb⟩
theorem RI.drew {w W : World} {g : Nat} {P : List UInt8} {s : S8} (h : RI w g P s W) : RI w g P s W.drew := ⟨h.res.drew, h.st.drew, h.bs, h.glt, below_drewN h.bel 1⟩
theorem RI.set {w W : World} {g : Nat} {P : List UInt8} {s s' : S8} (h : RI w g P s W) (hg : w.heap.size + 2 ≤ g) : RI w g P s' (W.setRow (w.heap.size + 1) (uc (words s')).toArray) :=
  ⟨(setRow_other _ _ _ _ (by omega)).trans h.res, h.st.row _, h.bs.move (setRow_other _ _ _ _ (by omega)), by simpa using h.glt, below_setRow h.bel (by omega) _⟩

theorem RI.start (w : World) : Blk (((w.alloc (.cells (List.replicate 32 (.int .u8 0)).toArray 26)).alloc (.cells (List.replicate 8 (uv 0)).toArray 73)).setRow (w.heap.size + 1) (uc (words init8)).toArray) w.heap.size 26 (List.replicate 32 (.int .u8 0)) ∧
    Blk (((w.alloc (.cells (List.replicate 32 (.int .u8 0)).toArray 26)).alloc (.cells (List.replicate 8 (uv 0)).toArray 73)).setRow (w.heap.size + 1) (uc (words init8)).toArray) (w.heap.size + 1) 73 (uc (words init8)) ∧
    Below w.heap.size w (((w.alloc (.cells (List.replicate 32 (.int .u8 0)).toArray 26)).alloc (.cells (List.replicate 8 (uv 0)).toArray 73)).setRow (w.heap.size + 1) (uc (words init8)).toArray) ∧
    (((w.alloc (.cells (List.replicate 32 (.int .u8 0)).toArray 26)).alloc (.cells (List.replicate 8 (uv 0)).toArray 73)).setRow (w.heap.size + 1) (uc (words init8)).toArray).heap.size = w.heap.size + 2 := by
  have h1 := Blk.new w 26 (List.replicate 32 (.int .u8 0))
  have h2 := Blk.new (w.alloc (.cells (List.replicate 32 (.int .u8 0)).toArray 26)) 73 (List.replicate 8 (uv 0))
  have hb := (below_new w (.cells (List.replicate 32 (.int .u8 0)).toArray 26)).alloc (by simp) (.cells (List.replicate 8 (uv 0)).toArray 73)
  simp only [World.size_alloc] at h2
  refine ⟨(setRow_other _ _ _ _ (by omega)).trans (h1.alloc _), h2.row _, below_setRow hb (by omega) _, by simp⟩

theorem size8 (s : S8) : (uc (words s)).toArray.size = 8 := rfl
theorem fin8_eq (l : List UInt8) : fin8 l = comps init8 (padd l) ((l.length + 8) / 64 + 1) := by unfold fin8; rfl
theorem blk_eq (l : List UInt8) (k : Nat) : blk l k = (l.drop (64 * k)).take 64 := by unfold blk; rfl

set_option maxRecDepth 100000 in
set_option maxHeartbeats 2000000 in
theorem rsum_any (a : Option Addr) (n cap : Nat) (l : List UInt8) (w : World) (hl : Src w a n cap l) (hn : n ≤ 100000000) :
    Calls Tryd.prog 19 #[.slice a n cap] w fun e w' => e = .returned (dv (sha l)) ∧ Below w.heap.size w w' := by
  have HL := hide hl
  have HST := hide (RI.start w)
  have HSZ1 := hide (show (((w.alloc (.cells (List.replicate 32 (.int .u8 0)).toArray 26)).alloc (.cells (List.replicate 8 (uv 0)).toArray 73)).heap[w.heap.size + 1]? = some (.cells (List.replicate 8 (uv 0)).toArray 73 (0, 0))) by
    have h2 := Blk.new (w.alloc (.cells (List.replicate 32 (.int .u8 0)).toArray 26)) 73 (List.replicate 8 (uv 0))
    simp only [World.size_alloc] at h2
    exact h2)
  clear hl
  go_enter Tryd.func19, Tryd.ntmps19
  go_wp2_with (first | (refine wpList_built rfl 73 _ rfl (uc (words init8)).toArray (by kernel_rfl) ?_) | (refine wpList_store_row rfl 73 (.tmp 3) (.tmp 8) rfl (w.heap.size + 1) (uc (words init8)).toArray rfl rfl 73 _ HSZ1.out Tryd.size73 rfl (by kernel_rfl) ?_; refine name_list ?_; intro W1 HW1))
  have HF : Hid (Blk W1 w.heap.size 26 (List.replicate 32 (.int .u8 0)) ∧ Blk W1 (w.heap.size + 1) 73 (uc (words init8)) ∧ Below w.heap.size w W1 ∧ W1.heap.size = w.heap.size + 2) := by
    have e := HW1.out
    subst e
    exact HST
  clear HST HSZ1 HW1
  with_reducible refine (rpadded_any a n cap l W1 (HL.out.below HF.out.2.2.1) hn).mono ?_
  rintro e W2 ⟨g, c, N, rfl, hN, hNc, hc63, hbs, hb2, hg2⟩
  have HPL := hide (padd_len l)
  have HFIN := hide (fin8_eq l)
  obtain ⟨M, hM⟩ : ∃ M, (l.length + 8) / 64 + 1 = M := ⟨_, rfl⟩
  rw [hM] at HPL HFIN
  have hM1 : 1 ≤ M := by omega
  have HNM := hide (show N = 64 * M by rw [hN, HPL.out])
  have HG := hide (show w.heap.size + 2 ≤ g by have := HF.out.2.2.2; omega)
  have HR0 : Hid (RI w g (padd l) (comps init8 (padd l) 0) W2) := hide ⟨HF.out.1.below hb2 HF.out.1.lt, by rw [comps_zero]; exact HF.out.2.1.below hb2 HF.out.2.1.lt, hbs, hbs.lt (by rw [HPL.out]; omega), below_one HF.out.2.2.1 hb2⟩
  clear HF hbs hb2 hg2 hN hM
  go_wp2_with fail
  go_loopw [5] (fun i wr => ∃ k : Nat, k ≤ M ∧ i = .int .i64 (64 * (k : Int)) ∧ Hid (RI w g (padd l) (comps init8 (padd l) k) wr)) (fun i _ => N - (intOf i).toNat)
  case atStart => exact ⟨0, by omega, rfl, HR0⟩
  case round =>
    clear HR0
    obtain ⟨k, hk, rfl, HR⟩ := hrel
    have hNM := HNM.out
    by_cases hlt : k < M
    · have hk1 : 64 * (k : Int) < (N : Int) := by omega
      have hk2 : 64 * k + 64 ≤ c := by omega
      have hk3 : 64 * (k : Int) + 64 ≤ (c : Int) := by omega
      have hk4 : (N : Int) ≤ 9223372036854775807 := by omega
      have HBL := hide (show blk (padd l) k = ((padd l).drop (64 * k)).take 64 from blk_eq _ _)
      have HLE := hide (show (blk (padd l) k).length = 64 by rw [HBL.out, List.length_take, List.length_drop, HPL.out]; omega)
      have HCS := hide (comps_succ init8 (padd l) k)
      generalize comps init8 (padd l) k = s at *
      clear hNM
      have e1 : IntKind.i64.wrap (64 * (k : Int) + 64) = 64 * (k : Int) + 64 := IntWalk.i64_in _ (by omega)
      have e2 : 0 ≤ 64 * (k : Int) + 64 ∧ 64 * (k : Int) + 64 ≤ (c : Int) := by omega
      have e3 : max (64 * (k : Int) + 64) 0 = 64 * (k : Int) + 64 := by omega
      have e4 : 0 ≤ 64 * (k : Int) ∧ 64 * (k : Int) ≤ 64 * (k : Int) + 64 := by omega
      have e5 : (64 * (k : Int)).toNat = 64 * k := by omega
      have e6 : (64 * (k : Int) + 64).toNat = 64 * k + 64 := by omega
      have e7 : ¬ c = 64 * k := by omega
      have e8 : 64 * k + 64 - 64 * k = 64 := by omega
      go_wp2_with fail
      refine wp_region_plan (fun _ => True) (.take 1 (.take 2 (.take 3 (.take 4 (.take 5 (.run 0 (.run 6 (.run 7 .done)))))))) (by kernel_rfl) (by kernel_rfl) trivial ?_
      (refine plan_take (o := ?_) (v := ?_) (by simp only [List.getElem?_toArray, List.getElem?_cons_succ, List.getElem?_cons_zero]; rfl) (yields_run (by rfl) ?_) ?_; rotate_left; (focus (intro w' _; go_simp <;> with_reducible rfl)); (simp only [Act.put, List.setIfInBounds_toArray, List.set_cons_zero, List.set_cons_succ]))
      (refine plan_take (o := ?_) (v := ?_) (by simp only [List.getElem?_toArray, List.getElem?_cons_succ, List.getElem?_cons_zero]; rfl) (yields_run (by rfl) ?_) ?_; rotate_left; (focus (intro w' _; go_simp <;> with_reducible rfl)); (simp only [Act.put, List.setIfInBounds_toArray, List.set_cons_zero, List.set_cons_succ]))
      (refine plan_take (o := ?_) (v := ?_) (by simp only [List.getElem?_toArray, List.getElem?_cons_succ, List.getElem?_cons_zero]; rfl) (yields_run (by rfl) ?_) ?_; rotate_left; (focus (intro w' _; go_simp <;> with_reducible rfl)); (simp only [Act.put, List.setIfInBounds_toArray, List.set_cons_zero, List.set_cons_succ]))
      (refine plan_take (o := ?_) (v := ?_) (by simp only [List.getElem?_toArray, List.getElem?_cons_succ, List.getElem?_cons_zero]; rfl) (yields_run (by rfl) ?_) ?_; rotate_left; (focus (intro w' _; go_simp <;> with_reducible rfl)); (simp only [Act.put, List.setIfInBounds_toArray, List.set_cons_zero, List.set_cons_succ]))
      (refine plan_take (o := ?_) (v := ?_) (by simp only [List.getElem?_toArray, List.getElem?_cons_succ, List.getElem?_cons_zero]; rfl) (yields_run (by rfl) ?_) ?_; rotate_left; (focus (intro w' _; go_simp <;> with_reducible rfl)); (simp only [Act.put, List.setIfInBounds_toArray, List.set_cons_zero, List.set_cons_succ]))
      refine plan_run (o := ?_) (by simp only [List.getElem?_toArray, List.getElem?_cons_zero]; rfl) ?_
      intro R HRR
      go_wp2_with (refine wpList_load_row rfl 73 (.tmp 3) rfl (w.heap.size + 1) rfl 73 (uc (words s)).toArray (0, 0) _ HR.out.drew.st Tryd.underlying73 rfl Tryd.size73 ?_)
      refine HRR.out _ _ trivial ?_
      clear HRR
      refine plan_run (o := ?_) (by simp only [List.getElem?_toArray, List.getElem?_cons_succ, List.getElem?_cons_zero]; rfl) ?_
      intro R HRR
      go_wp2_with fail
      refine (rblock_any s g (64 * k) (c - 64 * k) (blk (padd l) k) wr.drew (by have h := (HR.out.drew.bs.drop (64 * k)).take 64; rw [Nat.zero_add] at h; rw [HBL.out]; exact h) HLE.out (by omega) (by omega)).mono ?_
      rintro e w' ⟨rfl, hb⟩
      have HS7 := hide (HR.out.drew.below hb)
      clear hb
      go_wp2_with fail
      refine HRR.out _ _ trivial ?_
      clear HRR
      have HZ8 := hide (show (Tryd.prog.info? 73).map (·.size) = some (uc (words (comp s (blk (padd l) k)))).toArray.size by rw [size8]; exact Tryd.size73)
      have HE8 := hide (show (uc (words s)).toArray.size = (uc (words (comp s (blk (padd l) k)))).toArray.size by rw [size8, size8])
      refine plan_run (o := ?_) (by simp only [List.getElem?_toArray, List.getElem?_cons_succ, List.getElem?_cons_zero]; rfl) ?_
      intro R HRR
      go_wp2_with (refine wpList_store_row rfl 73 (.tmp 3) (.tmp 23) rfl (w.heap.size + 1) (uc (words (comp s (blk (padd l) k)))).toArray rfl rfl 73 _ HS7.out.st HZ8.out HE8.out (all_oneCell_toArray (uc_one _)) ?_)
      refine HRR.out _ _ trivial ?_
      clear HRR
      refine plan_done ?_
      clear HZ8 HE8
      have HN := hide (HS7.out.set (s' := comp s (blk (padd l) k)) HG.out)
      go_wp2_with fail
      go_roundw
      case rel => exact ⟨k + 1, by omega, by go_num, by rw [HCS.out]; exact HN⟩
      case measure => simp [intOf]; omega
    · have hge : M ≤ k := by omega
      have hkM : k = M := by omega
      have hk1 : ¬ 64 * (k : Int) < (N : Int) := by omega
      have HRM : Hid (RI w g (padd l) (fin8 l) wr) := by rw [HFIN.out, ← hkM]; exact HR
      clear HR hNM hkM
      have HX := hide (show ((wr.alloc (.cells (List.replicate 32 (.int .u8 0)).toArray 26)).heap[wr.heap.size]? = some (.cells (List.replicate 32 (.int .u8 0)).toArray 26 (0, 0))) from Blk.new wr 26 (List.replicate 32 (.int .u8 0)))
      go_wp2_with (first | (refine wpList_built rfl 26 _ rfl (List.replicate 32 (Value.int .u8 0)).toArray (by kernel_rfl) ?_) | (refine wpList_store_row rfl 26 (.tmp 6) (.tmp 24) rfl wr.heap.size (List.replicate 32 (Value.int .u8 0)).toArray rfl rfl 26 _ HX.out Tryd.size26 rfl (by kernel_rfl) ?_))
      refine name_code ?_
      intro W6 HW6
      have HR6 : Hid (Blk W6 wr.heap.size 26 (bc (fillb (out8 (fin8 l)) 0)) ∧ Blk W6 w.heap.size 26 (List.replicate 32 (.int .u8 0)) ∧ Blk W6 (w.heap.size + 1) 73 (uc (words (fin8 l))) ∧ Below w.heap.size w W6 ∧ w.heap.size + 1 < wr.heap.size) := by
        have e := HW6.out
        subst e
        have h := HRM.out.below (below_setRow (below_new wr (.cells (List.replicate 32 (.int .u8 0)).toArray 26)) (Nat.le_refl _) (List.replicate 32 (.int .u8 0)).toArray)
        exact hide ⟨by rw [fillb_zero]; exact (Blk.new wr 26 (List.replicate 32 (.int .u8 0))).row _, h.res, h.st, h.bel, HRM.out.st.lt⟩
      have HSH := hide (sha_fin l)
      clear HW6 HX HRM hk1 HFIN HPL
      generalize wr.heap.size = X at *
      generalize fin8 l = s at *
      go_wp2_with fail
      go_loopw [7] (fun i wr => ∃ k : Nat, k ≤ 32 ∧ i = .int .i64 k ∧ Hid (Blk wr X 26 (bc (fillb (out8 s) k)) ∧ Blk wr w.heap.size 26 (List.replicate 32 (.int .u8 0)) ∧ Blk wr (w.heap.size + 1) 73 (uc (words s)) ∧ Below w.heap.size w wr ∧ w.heap.size + 1 < X)) (fun i _ => 32 - (intOf i).toNat)
      case atStart => exact ⟨0, by omega, rfl, HR6⟩
      case round =>
        clear HR6
        obtain ⟨t, ht, rfl, HB⟩ := hrel
        by_cases hlt : t < 32
        · have hc := (HB.out.1.cell t).trans (fillb_at _ hlt)
          have hf := HB.out.1.free t
          have h8 : t / 4 < 8 := by omega
          have hx : wr.cell? ⟨w.heap.size + 1, t / 4, none⟩ = some (uv ((words s).getD (t / 4) 0)) := by
            rw [HB.out.2.2.1.cell, uc_get (by rw [words_len]; exact h8)]
            simp [List.getD_eq_getElem?_getD, show t / 4 < (words s).length by rw [words_len]; exact h8]
          have hX := HB.out.2.2.2.2
          have HN : Hid (Blk (wr.setCell ⟨X, t, none⟩ (.int .u8 (((out8 s).getD t 0).toNat : Nat))) X 26 (bc (fillb (out8 s) (t + 1))) ∧ Blk (wr.setCell ⟨X, t, none⟩ (.int .u8 (((out8 s).getD t 0).toNat : Nat))) w.heap.size 26 (List.replicate 32 (.int .u8 0)) ∧ Blk (wr.setCell ⟨X, t, none⟩ (.int .u8 (((out8 s).getD t 0).toNat : Nat))) (w.heap.size + 1) 73 (uc (words s)) ∧ Below w.heap.size w (wr.setCell ⟨X, t, none⟩ (.int .u8 (((out8 s).getD t 0).toNat : Nat))) ∧ w.heap.size + 1 < X) :=
            hide ⟨by rw [← fillb_set _ hlt]; exact HB.out.1.set t _, HB.out.2.1.apart (by show w.heap.size ≠ X; omega) _, HB.out.2.2.1.apart (by show w.heap.size + 1 ≠ X; omega) _, HB.out.2.2.2.1.setCell (by show w.heap.size ≤ X; omega) _, hX⟩
          rw [out8_get s hlt, byte_of] at HN
          generalize (words s).getD (t / 4) 0 = x at *
          have hx32 := x.isLt
          have f1 : IntKind.i64.wrap (24 - 8 * ((t : Int) % 4)) = 24 - 8 * ((t : Int) % 4) := IntWalk.i64_in _ (by omega)
          have f2 : 0 ≤ 24 - 8 * ((t : Int) % 4) := by omega
          have f3 : (24 - 8 * ((t : Int) % 4)).toNat = 24 - 8 * (t % 4) := by omega
          go_wp2_with fail
          go_roundw
          case rel => exact ⟨t + 1, by omega, by go_num, HN⟩
          case measure => simp [intOf]; omega
        · have h32 : 32 ≤ t := by omega
          have HB32 : Hid (Blk wr X 26 (bc (out8 s)) ∧ Blk wr w.heap.size 26 (List.replicate 32 (.int .u8 0)) ∧ Below w.heap.size w wr) := by
            have : t = 32 := by omega
            subst this
            rw [fillb_all (out8_len s)] at HB
            exact hide ⟨HB.out.1, HB.out.2.1, HB.out.2.2.2.1⟩
          clear HB
          have HSZ8 := hide (show ((bc (out8 s)).toArray).size = 32 by simp [bc_len, out8_len])
          have HZ := hide (show (Tryd.prog.info? 26).map (·.size) = some ((bc (out8 s)).toArray).size by rw [HSZ8.out]; exact Tryd.size26)
          have HO := hide (all_oneCell_toArray (bc_one (out8 s)))
          generalize out8 s = D at *
          go_wp2_with (first | (refine wpList_load_row rfl 26 (.tmp 6) rfl X rfl 26 _ (0, 0) _ HB32.out.1 Tryd.underlying26 rfl HZ.out ?_) | (refine wpList_store_row rfl 26 (.tmp 2) (.tmp 41) rfl w.heap.size _ rfl rfl 26 _ HB32.out.2.1 HZ.out (by rw [HSZ8.out]; rfl) HO.out ?_))
          refine bodyPost_ret (v := dv D) (results_cell_row rfl _ _ w.heap.size 26 _ (0, 0) _ rfl (setRow_heap _ _ _ _ _ _ HB32.out.2.1) Tryd.underlying26 rfl HZ.out) rfl ⟨by rw [HSH.out], below_setRow HB32.out.2.2 (Nat.le_refl _) _⟩
end Go.Proofs.YtalgceplcahgbaaDoor

/- The reference's Tagged. -/
namespace Go.Proofs.YtalgceplcahgbaaDoor
open Go.RowKit

set_option maxRecDepth 10000 in
set_option maxHeartbeats 1000000 in
theorem rtagged_any (s : ByteArray) (a : Option Addr) (n cap : Nat) (l : List UInt8) (w : World) (hS : Src w a n cap l) (hs : s.size ≤ 600) (hn : n ≤ 90000000) :
    Calls Tryd.prog 21 #[.string s, .slice a n cap] w fun e w' => e = .returned (dv (tagd s.data.toList l)) ∧ Below w.heap.size w w' := by
  have HS := hide hS
  have HCP := hide (cv_post s (w.alloc (.cells (List.replicate 32 (.int .u8 0)).toArray 26)) (by omega))
  have hcv := cv_run s
  clear hS
  go_enter Tryd.func21, Tryd.ntmps21
  go_wp2_with fail
  refine name_world ?_
  intro W2 HW2
  clear hcv
  have HA : Hid (Blk W2 w.heap.size 26 (List.replicate 32 (.int .u8 0)) ∧ Bs W2 (w.heap.size + 1) 0 s.data.toList ∧ Below w.heap.size w W2) := by
    have e := HW2.out
    subst e
    have h := HCP.out
    simp only [World.size_alloc] at h
    have hb : Below w.heap.size w (cvW s (w.alloc (.cells (List.replicate 32 (.int .u8 0)).toArray 26))) := (below_new w _).trans (h.2.2.2.1.mono (by omega))
    exact hide ⟨(h.2.2.2.1.block w.heap.size (by omega)).trans (Blk.new w 26 (List.replicate 32 (.int .u8 0))), h.2.2.1, hb⟩
  clear HW2 HCP
  with_reducible refine (rsum_any (some ⟨w.heap.size + 1, 0, none⟩) s.size _ s.data.toList W2 ⟨by simp, Sb.of HA.out.2.1, fun h => by cases h⟩ (by omega)).mono ?_
  rintro e w3 ⟨rfl, hb⟩
  have HA3 : Hid (Blk w3 w.heap.size 26 (List.replicate 32 (.int .u8 0)) ∧ Below w.heap.size w w3 ∧ Src w3 a n cap l ∧ w.heap.size < w3.heap.size) := by
    have hb3 := below_one HA.out.2.2 hb
    exact hide ⟨HA.out.1.below hb HA.out.1.lt, hb3, HS.out.below hb3, Nat.lt_of_lt_of_le HA.out.1.lt hb.size⟩
  clear HA hb HS
  have HLS := hide (sha_len s.data.toList)
  have HMO := hide (show tagd s.data.toList l = sha (sha s.data.toList ++ l) by unfold tagd; rfl)
  generalize sha s.data.toList = D at *
  have HSZ := hide (dv_size _ HLS.out)
  have HZ := hide (show (Tryd.prog.info? 26).map (·.size) = some ((bc D).toArray).size by rw [HSZ.out]; exact Tryd.size26)
  have HO := hide (all_oneCell_toArray (bc_one D))
  have HAFT := hide (show ∀ W4, Hid (W4 = (w3.alloc (.cells (List.replicate 32 (.int .u8 0)).toArray 26)).setRow w3.heap.size (bc D).toArray) →
      (W4.alloc (.cells #[] 5)).ownsRow (w3.heap.size + 1) 5 1 (.slice (some ⟨W4.heap.size, 0, none⟩) 0 0) 0 [] ∧ Src (W4.alloc (.cells #[] 5)) (some ⟨w3.heap.size, 0, none⟩) 32 32 D ∧ w3.heap.size + 1 ≤ (W4.alloc (.cells #[] 5)).heap.size ∧
      ∀ v5 w5, w5.ownsRow (w3.heap.size + 1) 5 1 v5 32 (bc D) → (W4.alloc (.cells #[] 5)).grownBy w5 (Value.slice (some ⟨W4.heap.size, 0, none⟩) 0 0).ownBlock →
        Src w5 a n cap l ∧ w3.heap.size + 1 ≤ w5.heap.size ∧ ∀ v6 w6, w6.ownsRow (w3.heap.size + 1) 5 1 v6 (32 + n) (bc (D ++ l)) → w5.grownBy w6 v5.ownBlock →
          ∃ g c, v6 = .slice (some ⟨g, 0, none⟩) (32 + n) c ∧ Hid (Bs w6 g 0 (D ++ l) ∧ Below w.heap.size w w6 ∧ Blk w6 w.heap.size 26 (List.replicate 32 (.int .u8 0)) ∧ n = l.length) by
    intro W4 HW4
    have e4 := HW4.out
    have hsz4 : W4.heap.size = w3.heap.size + 1 := by rw [e4]; simp
    have hX : Blk W4 w3.heap.size 26 (bc D) := by rw [e4]; exact (Blk.new w3 26 (List.replicate 32 (.int .u8 0))).row _
    have hb4 : Below w3.heap.size w3 W4 := by rw [e4]; exact below_setRow (below_new w3 _) (Nat.le_refl _) _
    have hb4' : Below w3.heap.size w3 (W4.alloc (.cells #[] 5)) := hb4.alloc (by omega) _
    refine ⟨own_empty W4 (w3.heap.size + 1) 5 5 1 rfl (by omega), ⟨HLS.out.symm, Sb.of (hX.alloc _).bs, fun h => by cases h⟩, by simp; omega, fun v5 w5 h5 hg5 => ?_⟩
    have hb5 : Below w3.heap.size w3 w5 := hb4'.grown hg5 (by simp; omega) (fun k hk => by cases hk; show w3.heap.size ≤ W4.heap.size; omega)
    have hs5 : w3.heap.size + 1 ≤ w5.heap.size := Nat.le_trans (by simp; omega) hg5.size
    refine ⟨HA3.out.2.2.1.below hb5, hs5, fun v6 w6 h6 hg6 => ?_⟩
    have hb6 : Below w3.heap.size w3 w6 := hb5.grown hg6 (by omega) (fun k hk => by have := (h5.lt k hk).1; omega)
    obtain ⟨g, c, rfl, ho, hbs, _⟩ := own_form h6 (by omega)
    exact ⟨g, c, rfl, hide ⟨hbs, below_one HA3.out.2.1 hb6, HA3.out.1.below hb6 HA3.out.1.lt, HA3.out.2.2.1.len⟩⟩)
  have hA : 0 + 32 ≤ 1000000000 := by omega
  have hB : 32 + n ≤ 1000000000 := by omega
  go_wp2_with (first | (refine wpList_store_row rfl 26 (.tmp 5) (.tmp 8) rfl w3.heap.size (bc D).toArray rfl rfl 26 _ (heap_alloc_new w3 _) HZ.out (by rw [HSZ.out]; rfl) HO.out ?_; refine name_list ?_; intro W4 HW4; obtain ⟨q1, q2, q3, q4⟩ := HAFT.out W4 HW4; clear HW4) | (refine wpList_of_wp (by rfl) (wp_app5 (.tmp 9) (.tmp 10) rfl (w3.heap.size + 1) _ 0 [] rfl q1 (some ⟨w3.heap.size, 0, none⟩) 32 32 D rfl q2 hA q3 32 D rfl rfl ?_); intro v5 w5 h5 hg5; obtain ⟨r1, r2, r3⟩ := q4 v5 w5 h5 hg5) | (refine wpList_of_wp (by rfl) (wp_app5 (.tmp 11) (.tmp 12) rfl (w3.heap.size + 1) v5 32 D rfl h5 a n cap l rfl r1 hB r2 (32 + n) (D ++ l) rfl rfl ?_); intro v6 w6 h6 hg6; obtain ⟨g, c, rfl, HF⟩ := r3 v6 w6 h6 hg6; clear h6 hg6))
  clear q1 q2 q3 q4 r1 r2 r3 h5 hg5 HAFT HA3 HZ HO HSZ
  have HFL := hide (show 32 + n = (D ++ l).length by rw [List.length_append, HLS.out, HF.out.2.2.2])
  with_reducible refine (rsum_any (some ⟨g, 0, none⟩) (32 + n) c (D ++ l) w6 ⟨HFL.out, Sb.of HF.out.1, fun h => by cases h⟩ (by omega)).mono ?_
  rintro e w7 ⟨rfl, hb⟩
  rw [← HMO.out]
  have HLT := hide (show (tagd s.data.toList l).length = 32 by rw [HMO.out]; exact sha_len _)
  have HR : Hid (Blk w7 w.heap.size 26 (List.replicate 32 (.int .u8 0)) ∧ Below w.heap.size w w7) := hide ⟨HF.out.2.2.1.below hb HF.out.2.2.1.lt, below_one HF.out.2.1 hb⟩
  clear hb HF HFL HMO HLS
  generalize hE0 : tagd s.data.toList l = E at *
  have HEE := hide hE0
  clear hE0
  have HSZ := hide (dv_size _ HLT.out)
  have HZ := hide (show (Tryd.prog.info? 26).map (·.size) = some ((bc E).toArray).size by rw [HSZ.out]; exact Tryd.size26)
  have HO := hide (all_oneCell_toArray (bc_one E))
  go_wp2_with (refine wpList_store_row rfl 26 (.tmp 4) (.tmp 14) rfl w.heap.size (bc E).toArray rfl rfl 26 _ HR.out.1 HZ.out (by rw [HSZ.out]; rfl) HO.out ?_)
  refine bodyPost_ret (v := dv E) (results_cell_row rfl _ _ w.heap.size 26 _ (0, 0) _ rfl (setRow_heap _ _ _ _ _ _ HR.out.1) Tryd.underlying26 rfl HZ.out) rfl ⟨by rw [HEE.out], below_setRow HR.out.2 (Nat.le_refl _) _⟩
end Go.Proofs.YtalgceplcahgbaaDoor
