/- Text. -/
import Derived.Test.YtemapfhiiefieaaDoorTxt
namespace Go.Proofs.YtemapfhiiefieaaDoor
open Go.RowKit

theorem Tryd.info9 : (Tryd.prog.info? 9).map (fun i => (i.zero, i.size, i.bytes)) = some (some (.string ⟨#[]⟩), 1, 16) := by kernel_rfl
theorem run_make_rowN {P : Program} (t e : TypeId) (i : TypeInfo) (z : Value) (ht : P.underlying t = some (.slice e)) (hi : P.info? e = some i) (hz : i.zero = some z)
    (kl kc : IntKind) (n c : Nat) (hnc : n ≤ c) (hbytes : i.bytes * c ≤ 281474976710656) (h63 : c ≤ 9223372036854775807) (w : World) :
    (Instr.makeSlice t (.int kl (n : Int)) (.int kc (c : Int))).run P w = .ok (.slice (some ⟨w.heap.size, 0, none⟩) n c) (w.alloc (.cells (madeCells z.cells (c * i.size)) e)) := by
  have hb : (i.bytes : Int) * (c : Int) ≤ 281474976710656 := by
    have h : ((i.bytes * c : Nat) : Int) ≤ 281474976710656 := by omega
    rwa [Int.natCast_mul] at h
  have hr := run_make (P := P) w t e i z ht hi hz kl kc n c (by omega) (by omega) hb (by omega)
  simp only [Int.toNat_natCast] at hr
  exact hr

theorem pow_below {w w' : World} (h : Pow w) (hb : Below w.heap.size w w') : Pow w' := by
  unfold Pow Lib.TabIs World.var? at *
  cases hg : Tryd.prog.globalNamed "internal/strconv.uint64pow10" with
  | none => rw [hg] at h; simp at h
  | some g =>
    rw [hg] at h
    simp only [Option.bind_some] at h ⊢
    have hlt : g < w.heap.size := by
      by_cases e : g < w.heap.size
      · exact e
      · rw [Array.getElem?_eq_none (by omega)] at h; simp at h
    rw [hb.block g hlt]; exact h
/-- What Text joins. -/
def joinT (l : List Tok) : List UInt8 := Lib.join ((l.map textT).map (·.data.toList)) [32]
/-- What Text answers. -/
def TextPost (l : List Tok) (w : World) : Ending → World → Prop := fun e w' =>
  e = .returned (if l.all validT then .tuple #[.string ⟨(joinT l).toArray⟩, .int .i64 0] else .tuple #[.string ⟨#[]⟩, .int .i64 30]) ∧ Below w.heap.size w w'
theorem all_false {l : List Tok} {k : Nat} (hlt : k < l.length) (h : validT l[k] = false) : l.all validT = false := by
  cases e : l.all validT with
  | false => rfl
  | true => rw [List.all_eq_true.1 e l[k] (List.getElem_mem hlt)] at h; cases h

set_option maxRecDepth 10000 in
set_option maxHeartbeats 1600000 in
theorem text16_any (A : Option Addr) (l : List Tok) (ca : Nat) (w : World) (hl : l.length ≤ 100000) (hA : Toks w A l) (hT : Tab w) (hP : Pow w)
    (hV : ∀ t ∈ l, t.text.data.toList.length ≤ 1000000000 ∧ -9223372036854775808 ≤ t.n ∧ t.n ≤ 9223372036854775807) (hJ : (joinT l).length ≤ 140737488355328) :
    Calls Tryd.prog 16 #[.slice A l.length ca] w (TextPost l w) := by
  have HA := hide hA
  have HT := hide hT
  have HP := hide hP
  have HV := hide hV
  have HJ := hide hJ
  have HW0 := hide (cell_lt (hT 0 (by decide)))
  clear hA hT hP hV hJ
  obtain ⟨i0, hi, hz0, hz1, hz2⟩ := info_parts Tryd.info9
  have hmk : ∀ W : World, (Instr.makeSlice 40 (.int .i64 l.length) (.int .i64 l.length)).run Tryd.prog W = .ok (.slice (some ⟨W.heap.size, 0, none⟩) l.length l.length) (W.alloc (.cells (madeCells #[.string ⟨#[]⟩] l.length) 9)) := by
    intro W
    have := run_make_rowN (P := Tryd.prog) 40 9 i0 (.string ⟨#[]⟩) Tryd.underlying40 hi hz0 .i64 .i64 l.length l.length (by omega) (by rw [hz2]; omega) (by omega) W
    rw [hz1, Nat.mul_one] at this
    exact this
  clear hi hz0 hz1 hz2
  go_enter Tryd.func16, Tryd.ntmps16
  go_wp2_with fail
  go_loopw [12] (fun i wr => ∃ k : Nat, k ≤ l.length ∧ i = .int .i64 k ∧ Hid (∃ xs : List Value, xs.length = l.length ∧ wr.ownsRow w.heap.size 9 1 (.slice (some ⟨w.heap.size, 0, none⟩) l.length l.length) l.length xs ∧ ∀ j (h : j < l.length), j < k → validT l[j] = true ∧ xs[j]? = some (.string (textT l[j]))) ∧ Hid (Below w.heap.size w wr)) (fun i _ => l.length - (intOf i).toNat)
  case atStart =>
    exact ⟨0, Nat.zero_le _, rfl, hide ⟨(madeCells #[.string ⟨#[]⟩] l.length).toList, by simp [madeCells], World.ownsRow_lit w _ l.length (Nat.le_refl _) (by unfold maxLen; omega) (by simp [madeCells]), fun j _ h => by omega⟩, hide (below_new _ _)⟩
  case round =>
    obtain ⟨k, hk, rfl, hw, hb⟩ := hrel
    by_cases hlt : k < l.length
    · obtain ⟨b, o, rfl, _, c0, c1, c2, c3⟩ := (HA.out.below hb.out) k hlt
      obtain ⟨xs, hxl, hown, hxs⟩ := hw.out
      have HOW := hide hown
      have HXS := hide hxs
      have H4 := hide (HV.out l[k] (List.getElem_mem hlt))
      have HAF := hide (all_false hlt)
      clear hown hxs hw
      generalize hkt : l[k] = t at *
      have HKT := hide hkt
      clear hkt
      obtain ⟨tk, s, n, p⟩ := t
      simp only at c0 c1 c2 c3
      have HBA := hide (hb.out.alloc hb.out.size (.cells #[.int .i64 tk, .string s, .int .i64 n, .int .i64 p] 35))
      have HBK := hide (Blk.new wr 35 [.int .i64 tk, .string s, .int .i64 n, .int .i64 p])
      have HVA := hide (valid_any ⟨tk, s, n, p⟩ _ (tab_below HT.out HBA.out HW0.out) H4.out.1)
      have HLT := hide (show wr.heap.size < (wr.alloc (.cells #[.int .i64 tk, .string s, .int .i64 n, .int .i64 p] 35)).heap.size by simp)
      have HON := hide (World.ownsRow.kept HOW.out (only_of_below (below_new wr (.cells #[.int .i64 tk, .string s, .int .i64 n, .int .i64 p] 35)) none) (.inr (by simp [Value.ownBlock])))
      cases hv : validT ⟨tk, s, n, p⟩ with
      | false =>
        rw [hv] at HVA
        have HF := hide (HAF.out hv)
        go_wp2_with fail
        refine HVA.out.mono ?_
        rintro e w1 ⟨rfl, hb1⟩
        have HB1 := hide (HBA.out.trans (hb1.mono HBA.out.size))
        clear hb1
        go_wp2_with fail
        refine bodyPost_ret (v := .tuple #[.string ⟨#[]⟩, .int .i64 30]) (by simp [results, Tryd.results16, go_sem]) rfl ?_
        exact ⟨by rw [HF.out]; rfl, HB1.out⟩
      | true =>
        rw [hv] at HVA
        go_wp2_with fail
        refine HVA.out.mono ?_
        rintro e w1 ⟨rfl, hb1⟩
        have HB1 := hide (HBA.out.trans (hb1.mono HBA.out.size))
        have HK1 := hide (HBK.out.below hb1 HLT.out)
        have HO1 := hide (World.ownsRow.kept HON.out (only_of_below hb1 none) (.inr (by simp [Value.ownBlock])))
        have q0 := HK1.out.cell 0
        have q1 := HK1.out.cell 1
        have q2 := HK1.out.cell 2
        have q3 := HK1.out.cell 3
        simp only [List.getElem?_cons_zero, List.getElem?_cons_succ] at q0 q1 q2 q3
        have HTX := hide (text_any ⟨tk, s, n, p⟩ w1 (pow_below HP.out (HB1.out.alloc HB1.out.size _)) H4.out.2.1 H4.out.2.2)
        clear hb1
        go_wp2_with fail
        refine HTX.out.mono ?_
        rintro e w2 ⟨rfl, hb2⟩
        have HB2 := hide (HB1.out.trans (hb2.mono HB1.out.size))
        have HO2 := hide (World.ownsRow.kept HO1.out (only_of_below hb2 none) (.inr (by simp [Value.ownBlock])))
        have hkx : k < xs.length := by omega
        have z0 : w2.cell? ⟨w.heap.size, k, none⟩ = some xs[k] := by rw [HO2.out.cellAt k (by omega), List.getElem?_eq_getElem hkx]
        have z1 : w2.frozen? ⟨w.heap.size, k, none⟩ = false := HO2.out.frozenAt k
        have HST := hide (HO2.out.stored k (.string (textT ⟨tk, s, n, p⟩))).1
        have HBS := hide (HB2.out.setCell (p := ⟨w.heap.size, k, none⟩) (Nat.le_refl _) (.string (textT ⟨tk, s, n, p⟩)))
        clear hb2
        go_wp2_with fail
        go_roundw
        case rel =>
          refine ⟨k + 1, by omega, by go_num, hide ⟨_, ?_, HST.out, fun j h hj => ?_⟩, HBS⟩
          · rw [List.length_set, hxl]
          · by_cases e : j = k
            · subst e
              refine ⟨by rw [HKT.out, hv], ?_⟩
              rw [List.getElem?_set_self (by omega), HKT.out]
            · rw [List.getElem?_set_ne (by omega)]
              exact HXS.out j h (by omega)
        case measure => simp [intOf]; omega
    · obtain rfl : k = l.length := by omega
      obtain ⟨xs, hxl, hown, hxs⟩ := hw.out
      have HALL := hide (show l.all validT = true from List.all_eq_true.2 fun t ht => by
        obtain ⟨j, hj, e⟩ := List.getElem_of_mem ht
        rw [← e]; exact (hxs j hj hj).1)
      have HJN := hide (Tryd.strings_Join w.heap.size 0 l.length (l.map textT) ⟨#[32]⟩ wr (fun j x hx => by
        rw [List.getElem?_map] at hx
        obtain ⟨t, ht, rfl⟩ := Option.map_eq_some_iff.1 hx
        obtain ⟨hj, e⟩ := List.getElem?_eq_some_iff.1 ht
        rw [Nat.zero_add, hown.cellAt j (by omega), (hxs j hj hj).2, e]) (hown.lt _ (by simp [Value.ownBlock])).2 (by rw [List.length_map]; omega) (by rw [List.length_map]; exact Nat.le_refl _) HJ.out)
      rw [List.length_map] at HJN
      clear hown hxs hw
      go_wp2_with fail
      refine HJN.out.mono ?_
      rintro e w1 ⟨rfl, hb1⟩
      have HB1 := hide (hb.out.trans (hb1.mono hb.out.size))
      clear hb1
      go_wp2_with fail
      refine bodyPost_ret (v := .tuple #[.string ⟨(joinT l).toArray⟩, .int .i64 0]) (by simp [results, Tryd.results16, go_sem, joinT]) rfl ?_
      exact ⟨by rw [HALL.out]; rfl, HB1.out⟩
end Go.Proofs.YtemapfhiiefieaaDoor
