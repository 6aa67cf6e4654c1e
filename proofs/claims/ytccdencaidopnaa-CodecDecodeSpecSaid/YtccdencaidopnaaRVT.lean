/- The reference's reader: Value: texts. -/
import Derived.Test.YtccdencaidopnaaRV
import Derived.BigQuiet
import Derived.StillTailTactics
namespace Go.Proofs.Ytccdencaidopnaa
open Go.RowKit

/-- 'string(b)' of a part of the bytes. -/
theorem conv_r {R b o cap at' : Nat} {l : List UInt8} {bd : Bool} {w : World} (h : RR R (some ⟨b, o, none⟩) l cap at' bd w) (n u o' c' : Nat) (hu : n + u ≤ l.length) (ho : u ≠ 0 → o' = o + n) :
    (convert 27 9 (.slice (some ⟨b, o', none⟩) u c')).run Try.prog w = .ok (.string ⟨((l.drop n).take u).toArray⟩) w := by
  have hlen : (((l.drop n).take u).map fun c => (c.toNat : Int)).length = u := by simp; omega
  rw [run_convert_bytes_arg w 27 5 Try.underlying27 Try.underlying5 b o' u c' (((l.drop n).take u).map fun c => (c.toNat : Int)) hlen (fun i hi => by
    obtain ⟨b1, o1, e, _, _, hc⟩ := h.bytes (n + i) (by omega)
    simp only [Option.some.injEq, Addr.mk.injEq, and_true] at e
    obtain ⟨rfl, rfl⟩ := e
    have ho' := ho (by omega)
    rw [show o' + i = o + (n + i) by omega, hc]
    simp only [List.getD_eq_getElem?_getD, List.getElem?_map, List.getElem?_take, if_pos hi, List.getElem?_drop, List.getElem?_eq_getElem (show n + i < l.length by omega), Option.map_some, Option.getD_some]) 9 Try.underlying9]
  congr 2
  have : (strOfNums (((l.drop n).take u).map fun c => (c.toNat : Int))).data.toList = (l.drop n).take u := by
    rw [strOfNums_data, List.map_map]
    conv => rhs; rw [← List.map_id ((l.drop n).take u)]
    refine List.map_congr_left fun c _ => ?_
    simp
  cases hS : strOfNums (((l.drop n).take u).map fun c => (c.toNat : Int)) with
  | mk data =>
    rw [hS] at this
    simp only at this
    rw [← this]

set_option maxRecDepth 10000 in
set_option maxHeartbeats 1600000 in
theorem rvalue_text (R d : Nat) (a : Option Addr) (l : List UInt8) (cap at' : Nat) (n : Int) (w : World) (hr : RR R a l cap at' false w) (hl : l.length ≤ 1000000000) (hcap : l.length ≤ cap) (hcap' : cap ≤ 9223372036854775807) (hat : at' < l.length) (h1 : l[at'].toNat = 2) :
    Calls Try.prog 37 #[.pointer (some ⟨R, 0, none⟩), .int .i64 n] w (RVPost R d a l cap at' w) := by
  obtain ⟨b, o, rfl, _⟩ := hr.bytes at' hat
  have hr4 := hr.alloc Z24
  have HC := hide (next_ok R _ l cap at' false _ hr4 hl hat)
  have HCN := hide (drop_cons hat)
  have hRX : w.heap.size ≠ R := by have := hr.lt; omega
  have HX := hide (show ResB (w.alloc Z24) w.heap.size from heap_alloc_new w _)
  generalize l[at'] = c at *
  have HK := hide (show c = 2 from byte_eq (n := 2) h1)
  have b1 : ((c.toNat : Int) == 1) = false := by simp; omega
  have b2 : ((c.toNat : Int) == 2) = true := by simp; omega
  have HAT := hide hat
  clear h1
  go_enter Try.func37, Try.ntmps37
  go_wp2_with fail
  refine HC.out.mono ?_
  rintro e w1 ⟨rfl, hr1, hg1⟩
  go_wp2_with fail
  refine (number_any R _ l cap (at' + 1) w1 hr1 (by omega) hl).mono ?_
  rintro e w2 ⟨⟨u, m, rfl, hu, hlu, hm, hr2⟩ | ⟨⟨u0, m, rfl, hu0, hu1, hm, hr2⟩, hno⟩, hg2⟩
  · have HX2 := hide ((HX.out.only hg1 hRX).only hg2 hRX)
    have HG := hide (only_trans (only_trans (only_alloc (only_refl w (some R)) Z24) hg1) hg2)
    have HR2 := hide hr2
    have hmm : at' ≤ m := by
      have h1 := congrArg List.length hlu
      rw [List.length_append, List.length_drop, List.length_drop] at h1
      omega
    have HD := hide (show l.drop at' = 2 :: (numeral u ++ l.drop m) by rw [HCN.out, HK.out, hlu])
    clear hlu hg1 hg2 hr1 hr2
    obtain ⟨y0, y1, y2, yf⟩ := HR2.out.cells
    by_cases hur : u ≤ l.length - m
    · have hd : decide ((l.length : Int) - (m : Int) < (u : Int)) = false := by simp; omega
      go_wp2_with fail
      go_quiet (fail)
      have HR3 : Hid (RR R (some ⟨b, o, none⟩) l cap m false (w2.drewN nq)) := hide ⟨HR2.out.block, HR2.out.bytes⟩
      have HM := hide (HR3.out.step (m + u))
      have hcast : ((m + u : Nat) : Int) = (m : Int) + (u : Int) := by omega
      rw [hcast] at HM
      have hu9 : (u : Int) ≤ 1000000000 := by omega
      have hm9 : (m : Int) ≤ 1000000000 := by omega
      go_wp2_with fail
      clear y0 y1 y2 yf hd
      obtain ⟨z0, z1, z2, zf⟩ := HM.out.1.cells
      rw [hcast] at z1
      have HX3 := hide ((show ResB (w2.drewN nq) w.heap.size from HX2.out).only HM.out.2 hRX)
      have HG3 := hide (only_trans HG.out (show w2.grownBy (w2.drewN nq) (some R) from ⟨rfl, rfl, rfl, Nat.le_refl _, fun _ _ _ => rfl⟩))
      have HG4 := hide (only_trans HG3.out HM.out.2)
      obtain ⟨⟨x0, x1, x2, x3⟩, xf⟩ := HX3.out.cells
      have i1 : (0 : Int) ≤ (m : Int) := by omega
      have i2 : (m : Int) ≤ (m : Int) + (u : Int) := by omega
      have i3 : (m : Int) + (u : Int) ≤ (cap : Int) := by omega
      generalize (w2.drewN nq).setCell ⟨R, 1, none⟩ (.int .i64 ((m : Int) + (u : Int))) = W3 at *
      have hw1 : IntKind.i64.wrap (u : Int) = (u : Int) := IntWalk.i64_in _ (by omega)
      have hw2 : IntKind.i64.wrap ((m : Int) + (u : Int) - (u : Int)) = (m : Int) := by rw [show (m : Int) + (u : Int) - (u : Int) = (m : Int) by omega]; exact IntWalk.i64_in _ (by omega)
      have hw3 : IntKind.i64.wrap (m : Int) = (m : Int) := IntWalk.i64_in _ (by omega)
      have htn : ((m : Int) + (u : Int)).toNat = m + u := by omega
      have htk : m + u - m = u := by omega
      have HSZ := hide (show (⟨((l.drop m).take u).toArray⟩ : ByteArray).size = u by simp [ByteArray.size]; omega)
      have HTX := hide (show (⟨((l.drop m).take u).toArray⟩ : ByteArray).data.toList = (l.drop m).take u by simp)
      have HDD := hide (show (l.drop m) = (l.drop m).take u ++ l.drop (m + u) by rw [← List.drop_drop]; exact (List.take_append_drop u (l.drop m)).symm)
      have fin : ∀ W : World, W = put4 W3.drew w.heap.size (.int .i64 2) (.int .i64 0) (.string ⟨((l.drop m).take u).toArray⟩) (.slice none 0 0) → RVPost R d (some ⟨b, o, none⟩) l cap at' w (.returned (.agg #[.int .i64 2, .int .i64 0, .string ⟨((l.drop m).take u).toArray⟩, .slice none 0 0])) W := by
        rintro W rfl
        refine ⟨.inl ⟨.mk 2 0 ⟨((l.drop m).take u).toArray⟩ none 0 [], m + u, rfl, ?_, ?_, ?_, ?_, ?_, by omega, by omega, ?_⟩, ?_⟩
        · exact VT.In.mk (by simp [VT.kind]) (by simp [VT.num]) (by simp only [VT.str]; rw [HSZ.out]; omega) (by simp [VT.els]) (by simp [VT.els]) (by intro i h; simp [VT.els] at h)
        · simp [VT.wf]
        · simp [VT.dep]
        · intro b hb; simp [VT.blocks, VT.blocks.blockss] at hb
        · rw [text_enc rfl]
          simp only [VT.str]
          rw [HSZ.out, HD.out, List.cons_append, List.append_assoc, ← HDD.out]
        · exact HM.out.1.drew.put4 (show ResB W3.drew _ from HX3.out) hRX _ _ _ _
        · exact put4_only (only_drew HG4.out) (Nat.le_refl _) _ _ _ _
      have HFI := hide fin
      clear fin
      by_cases hcm : cap = m
      · obtain rfl : u = 0 := by omega
        have hw0 : IntKind.i64.wrap 0 = 0 := by decide
        have hcv := conv_r HM.out.1.drew m 0 o 0 (by omega) (fun h => absurd rfl h)
        generalize hS : (⟨((l.drop m).take 0).toArray⟩ : ByteArray) = S at *
        clear hS hw1 hw2
        go_still_tail 18, (by kernel_rfl)
        go_wp2_with fail
        refine bodyPost_ret (v := .agg #[.int .i64 2, .int .i64 0, .string S, .slice none 0 0]) (by simp [results, Try.results37, go_sem, x0, x1, x2, x3]) rfl ?_
        exact HFI.out _ rfl
      · have hcv := conv_r HM.out.1.drew m u (o + m) (cap - m) (by omega) (fun _ => rfl)
        generalize hS : (⟨((l.drop m).take u).toArray⟩ : ByteArray) = S at *
        clear hS
        go_still_tail 18, (by kernel_rfl)
        go_wp2_with fail
        refine bodyPost_ret (v := .agg #[.int .i64 2, .int .i64 0, .string S, .slice none 0 0]) (by simp [results, Try.results37, go_sem, x0, x1, x2, x3]) rfl ?_
        exact HFI.out _ rfl
    · have hd : decide ((l.length : Int) - (m : Int) < (u : Int)) = true := by simp; omega
      have HE := hide (show ∀ (t : VT) (rest : List UInt8), t.wf = true → t.dep ≤ d → t.fits → l.drop at' ≠ t.enc ++ rest from fun t r hw _ hf h => by
        rw [HD.out] at h
        have hk := cons_enc hw h
        rw [text_enc (by simpa using hk)] at h
        simp at h
        rw [VT.fits_eq] at hf
        obtain ⟨h3, h4⟩ := numeral_prefix hu (by have := hf.2.1; omega) h
        have h5 := congrArg List.length h4
        have hs : t.str.data.toList.length = t.str.size := by rw [Array.length_toList]; rfl
        simp at hs h5
        omega)
      go_wp2_with fail
      go_quiet (fail)
      have HR3 : Hid (RR R (some ⟨b, o, none⟩) l cap m false (w2.drewN nq)) := hide ⟨HR2.out.block, HR2.out.bytes⟩
      have HM := hide HR3.out.mark
      have HX3 := hide ((show ResB (w2.drewN nq) w.heap.size from HX2.out).only HM.out.2 hRX)
      have HG3 := hide (only_trans HG.out (show w2.grownBy (w2.drewN nq) (some R) from ⟨rfl, rfl, rfl, Nat.le_refl _, fun _ _ _ => rfl⟩))
      obtain ⟨⟨x0, x1, x2, x3⟩, xf⟩ := HX3.out.cells
      go_wp2_with fail
      refine bodyPost_ret (v := .agg #[.int .i64 0, .int .i64 0, .string ⟨#[]⟩, .slice none 0 0]) (by simp [results, Try.results37, go_sem, x0, x1, x2, x3]) rfl ?_
      exact ⟨.inr ⟨⟨_, m, rfl, ⟨0, 0, ⟨#[]⟩, none, 0, 0, rfl⟩, hm, HM.out.1.put4 HX3.out hRX _ _ _ _⟩, HE.out⟩, put4_only (only_trans HG3.out HM.out.2) (Nat.le_refl _) _ _ _ _⟩
  · have HX2 := hide ((HX.out.only hg1 hRX).only hg2 hRX)
    have HG := hide (only_trans (only_trans (only_alloc (only_refl w (some R)) Z24) hg1) hg2)
    have HE := hide (show ∀ (t : VT) (rest : List UInt8), t.wf = true → t.dep ≤ d → t.fits → l.drop at' ≠ t.enc ++ rest from fun t rest hw _ hf h => by
      rw [HCN.out] at h
      have hk := cons_enc hw h
      rw [HK.out] at hk h
      rw [text_enc (by simpa using hk)] at h
      simp at h
      rw [VT.fits_eq] at hf
      exact hno _ _ (by have := hf.2.1; omega) h)
    have HR2 := hide hr2
    clear hno hg1 hg2 hr1 hr2
    obtain ⟨y0, y1, y2, yf⟩ := HR2.out.cells
    go_wp2_with fail
    go_quiet (fail)
    have HR3 : Hid (RR R (some ⟨b, o, none⟩) l cap m true (w2.drewN nq)) := hide ⟨HR2.out.block, HR2.out.bytes⟩
    have HM := hide HR3.out.mark
    have HX3 := hide ((show ResB (w2.drewN nq) w.heap.size from HX2.out).only HM.out.2 hRX)
    have HG3 := hide (only_trans HG.out (show w2.grownBy (w2.drewN nq) (some R) from ⟨rfl, rfl, rfl, Nat.le_refl _, fun _ _ _ => rfl⟩))
    obtain ⟨⟨x0, x1, x2, x3⟩, xf⟩ := HX3.out.cells
    go_wp2_with fail
    refine bodyPost_ret (v := .agg #[.int .i64 0, .int .i64 0, .string ⟨#[]⟩, .slice none 0 0]) (by simp [results, Try.results37, go_sem, x0, x1, x2, x3]) rfl ?_
    exact ⟨.inr ⟨⟨_, m, rfl, ⟨0, 0, ⟨#[]⟩, none, 0, 0, rfl⟩, hm, HM.out.1.put4 HX3.out hRX _ _ _ _⟩, HE.out⟩, put4_only (only_trans HG3.out HM.out.2) (Nat.le_refl _) _ _ _ _⟩
end Go.Proofs.Ytccdencaidopnaa
