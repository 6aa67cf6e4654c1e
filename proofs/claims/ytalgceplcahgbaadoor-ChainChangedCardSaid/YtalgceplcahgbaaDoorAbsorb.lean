/- A block is absorbed into a state. -/
import Derived.Test.YtalgceplcahgbaaDoorSched
import Derived.Test.YtalgceplcahgbaaDoorRnd
namespace Go.Proofs.YtalgceplcahgbaaDoor
open Go.RowKit

/-- The table of the numbers K. -/
def Tab (w : World) : Prop := ∀ i, i < 64 → w.cell? ⟨0, i, none⟩ = some (uv (kw i))
theorem Tab.zero {w : World} (h : Tab w) : 0 < w.heap.size := cell_lt (h 0 (by omega))
theorem Tab.only {w w' : World} {g : Nat} (h : Tab w) (hg : w.grownBy w' (some g)) (hne : g ≠ 0) : Tab w' := fun i hi => by
  rw [World.cell?_of_block (a := ⟨0, i, none⟩) (hg.block 0 h.zero (by intro e; injection e with e; exact hne e.symm))]
  exact h i hi
theorem Tab.below {w w' : World} (h : Tab w) (hb : Below w.heap.size w w') : Tab w' := fun i hi => by
  rw [World.cell?_of_block (a := ⟨0, i, none⟩) (hb.block 0 h.zero)]
  exact h i hi
theorem Tab.drewN {w : World} (h : Tab w) (n : Nat) : Tab (w.drewN n) := h

/-- A state in memory. -/
def St (w : World) (S : Nat) (s : S8) : Prop := Blk w S 90 (uc (words s))

theorem words_len (s : S8) : (words s).length = 8 := rfl
theorem St.cells {w : World} {S : Nat} {s : S8} (h : St w S s) :
    w.cell? ⟨S, 0, none⟩ = some (uv s.a) ∧ w.cell? ⟨S, 1, none⟩ = some (uv s.b) ∧ w.cell? ⟨S, 2, none⟩ = some (uv s.c) ∧ w.cell? ⟨S, 3, none⟩ = some (uv s.d) ∧
    w.cell? ⟨S, 4, none⟩ = some (uv s.e) ∧ w.cell? ⟨S, 5, none⟩ = some (uv s.f) ∧ w.cell? ⟨S, 6, none⟩ = some (uv s.g) ∧ w.cell? ⟨S, 7, none⟩ = some (uv s.h) :=
  ⟨(Blk.cell h 0).trans rfl, (Blk.cell h 1).trans rfl, (Blk.cell h 2).trans rfl, (Blk.cell h 3).trans rfl, (Blk.cell h 4).trans rfl, (Blk.cell h 5).trans rfl, (Blk.cell h 6).trans rfl, (Blk.cell h 7).trans rfl⟩

/-- The first k words are added. -/
def mix (s r : S8) (k : Nat) : List U32 := (List.range 8).map fun i => if i < k then (words s).getD i 0 + (words r).getD i 0 else (words s).getD i 0
theorem mix_zero (s r : S8) : mix s r 0 = words s := by simp [mix, words, List.range_succ]
theorem mix_all (s r : S8) : mix s r 8 = words (add8 s r) := by unfold add8; simp [mix, words, List.range_succ]
theorem mix_at (s r : S8) {k : Nat} (h : k < 8) : (uc (mix s r k))[k]? = some (uv ((words s).getD k 0)) := by
  rw [uc_get (by simpa [mix] using h)]
  simp [mix]
theorem mix_set (s r : S8) {k : Nat} (_h : k < 8) : (uc (mix s r k)).set k (uv ((words s).getD k 0 + (words r).getD k 0)) = uc (mix s r (k + 1)) := by
  rw [uc_set]
  congr 1
  apply List.ext_getElem
  · simp [mix]
  · intro i h1 h2
    rw [List.getElem_set]
    simp only [mix, List.getElem_map, List.getElem_range]
    split
    · rename_i e; subst e; simp
    · rename_i e
      by_cases hi : i < k
      · simp [hi, show i < k + 1 by omega]
      · simp [hi, show ¬ i < k + 1 by omega]
theorem index8_0 (r : S8) (w : World) : (Instr.index 90 (.agg #[uv r.a, uv r.b, uv r.c, uv r.d, uv r.e, uv r.f, uv r.g, uv r.h]) (.int .i64 0)).run Tryd.prog w = .ok (uv r.a) w := by kernel_rfl
theorem index8_1 (r : S8) (w : World) : (Instr.index 90 (.agg #[uv r.a, uv r.b, uv r.c, uv r.d, uv r.e, uv r.f, uv r.g, uv r.h]) (.int .i64 1)).run Tryd.prog w = .ok (uv r.b) w := by kernel_rfl
theorem index8_2 (r : S8) (w : World) : (Instr.index 90 (.agg #[uv r.a, uv r.b, uv r.c, uv r.d, uv r.e, uv r.f, uv r.g, uv r.h]) (.int .i64 2)).run Tryd.prog w = .ok (uv r.c) w := by kernel_rfl
theorem index8_3 (r : S8) (w : World) : (Instr.index 90 (.agg #[uv r.a, uv r.b, uv r.c, uv r.d, uv r.e, uv r.f, uv r.g, uv r.h]) (.int .i64 3)).run Tryd.prog w = .ok (uv r.d) w := by kernel_rfl
theorem index8_4 (r : S8) (w : World) : (Instr.index 90 (.agg #[uv r.a, uv r.b, uv r.c, uv r.d, uv r.e, uv r.f, uv r.g, uv r.h]) (.int .i64 4)).run Tryd.prog w = .ok (uv r.e) w := by kernel_rfl
theorem index8_5 (r : S8) (w : World) : (Instr.index 90 (.agg #[uv r.a, uv r.b, uv r.c, uv r.d, uv r.e, uv r.f, uv r.g, uv r.h]) (.int .i64 5)).run Tryd.prog w = .ok (uv r.f) w := by kernel_rfl
theorem index8_6 (r : S8) (w : World) : (Instr.index 90 (.agg #[uv r.a, uv r.b, uv r.c, uv r.d, uv r.e, uv r.f, uv r.g, uv r.h]) (.int .i64 6)).run Tryd.prog w = .ok (uv r.g) w := by kernel_rfl
theorem index8_7 (r : S8) (w : World) : (Instr.index 90 (.agg #[uv r.a, uv r.b, uv r.c, uv r.d, uv r.e, uv r.f, uv r.g, uv r.h]) (.int .i64 7)).run Tryd.prog w = .ok (uv r.h) w := by kernel_rfl
theorem index8 (r : S8) (k : Nat) (h : k < 8) (w : World) : (Instr.index 90 (.agg #[uv r.a, uv r.b, uv r.c, uv r.d, uv r.e, uv r.f, uv r.g, uv r.h]) (.int .i64 (k : Nat))).run Tryd.prog w = .ok (uv ((words r).getD k 0)) w :=
  match k, h with
  | 0, _ => index8_0 r w
  | 1, _ => index8_1 r w
  | 2, _ => index8_2 r w
  | 3, _ => index8_3 r w
  | 4, _ => index8_4 r w
  | 5, _ => index8_5 r w
  | 6, _ => index8_6 r w
  | 7, _ => index8_7 r w
attribute [irreducible] mix

set_option maxRecDepth 100000 in
set_option maxHeartbeats 800000 in
theorem absorb_any (S b o cap : Nat) (s : S8) (l : List UInt8) (w : World) (hT : Tab w) (hs : St w S s) (hl : Bs w b o l) (h : l.length = 64) (hcap : cap ≤ 9223372036854775807) (hc64 : 64 ≤ cap) :
    Calls Tryd.prog 47 #[.pointer (some ⟨S, 0, none⟩), .slice (some ⟨b, o, none⟩) 64 cap] w fun e w' => e = .returned (.tuple #[]) ∧ St w' S (comp s l) ∧ w.grownBy w' (some S) := by
  have HSC := hide (schedule_any b o cap l w hl h hcap hc64)
  have HT := hide hT
  have HS := hide hs
  have hSlt : S < w.heap.size := Blk.lt hs
  have hone : ((uc (fillw l 64)).toArray).all (·.oneCell') = true := all_oneCell_toArray (uc_one _)
  have hsize : ((uc (fillw l 64)).toArray).size = 64 := by simp [uc_len, fillw_len]
  have HO := hide (And.intro hone hsize)
  clear hT hs hl h hone hsize
  go_enter Tryd.func47, Tryd.ntmps47
  go_wp2_with fail
  refine HSC.out.mono ?_
  rintro e w1 ⟨rfl, hb1⟩
  go_wp2_with (refine wpList_store_row rfl 91 (.tmp 4) (.tmp 19) rfl w1.heap.size _ rfl rfl 91 _ (heap_alloc_new w1 _) (by rw [HO.out.2]; exact Tryd.size91) (by rw [HO.out.2]; rfl) HO.out.1 ?_)
  have hT2 := hide ((HT.out.below hb1))
  have hs1 : St w1 S s := Blk.below HS.out hb1 hSlt
  have hlt1 : S < w1.heap.size := Nat.lt_of_lt_of_le hSlt hb1.size
  have hX : S ≠ w1.heap.size := by omega
  have hX0 : w.heap.size ≤ w1.heap.size := hb1.size
  have HF : Hid (Tab ((w1.alloc (Obj.cells (List.replicate 64 (uv 0)).toArray 91)).setRow w1.heap.size (uc (fillw l 64)).toArray) ∧ St ((w1.alloc (Obj.cells (List.replicate 64 (uv 0)).toArray 91)).setRow w1.heap.size (uc (fillw l 64)).toArray) S s ∧ Blk ((w1.alloc (Obj.cells (List.replicate 64 (uv 0)).toArray 91)).setRow w1.heap.size (uc (fillw l 64)).toArray) w1.heap.size 91 (uc (fillw l 64)) ∧ w.grownBy ((w1.alloc (Obj.cells (List.replicate 64 (uv 0)).toArray 91)).setRow w1.heap.size (uc (fillw l 64)).toArray) (some S)) := by
    refine hide ⟨fun i hi => ?_, ?_, ?_, ?_⟩
    · rw [World.cell?_of_block (a := ⟨0, i, none⟩) (setRow_other _ _ 0 _ (by have := hT2.out.zero; omega)), World.cell?_of_block (a := ⟨0, i, none⟩) (Below.heap_alloc _ _ _ hT2.out.zero)]
      exact hT2.out i hi
    · exact (setRow_other _ _ S _ (by omega)).trans ((Below.heap_alloc _ _ _ hlt1).trans hs1)
    · exact (Blk.new w1 91 (List.replicate 64 (uv 0))).row _
    · exact only_setRow (only_alloc (only_of_below hb1 _) _) (.inr hX0) _
  change Code.wp _ _ _ _ ((w1.alloc (Obj.cells (List.replicate 64 (uv 0)).toArray 91)).setRow w1.heap.size (uc (fillw l 64)).toArray)
  generalize (w1.alloc (Obj.cells (List.replicate 64 (uv 0)).toArray 91)).setRow w1.heap.size (uc (fillw l 64)).toArray = W2 at HF ⊢
  generalize w1.heap.size = X at *
  obtain ⟨hTab2, hSt2, hX2, hg2⟩ := HF.out
  obtain ⟨a0, a1, a2, a3, a4, a5, a6, a7⟩ := hSt2.cells
  clear HF hb1 hT2 hs1 hlt1
  have HTab2 := hide hTab2
  have HSt2 := hide hSt2
  have HX2 := hide hX2
  have HG2 := hide hg2
  clear hTab2 hSt2 hX2 hg2
  go_wp2_with fail
  go_quiet (fail)
  go_wp2_with fail
  have HW3 := hide (And.intro (HTab2.out.drewN nq) (And.intro (Blk.drewN HSt2.out nq) (And.intro (Blk.drewN HX2.out nq) (only_drewN HG2.out nq))))
  clear a0 a1 a2 a3 a4 a5 a6 a7 HTab2 HSt2 HX2 HG2
  generalize W2.drewN nq = W3 at *
  change Hid (Tab W3 ∧ St W3 S s ∧ Blk W3 X 91 (uc (fillw l 64)) ∧ w.grownBy W3 (some S)) at HW3
  go_loopw [5, 6, 7, 8, 9, 10, 11, 12, 52] (fun a b c d e f g h i wr => ∃ t : Nat, t ≤ 64 ∧ i = .int .i64 t ∧ ∃ r : S8, Hid (r = rnds (wv l) s t) ∧ a = uv r.a ∧ b = uv r.b ∧ c = uv r.c ∧ d = uv r.d ∧ e = uv r.e ∧ f = uv r.f ∧ g = uv r.g ∧ h = uv r.h ∧ Hid (Tab wr ∧ St wr S s ∧ Blk wr X 91 (uc (fillw l 64)) ∧ w.grownBy wr (some S))) (fun _ _ _ _ _ _ _ _ i _ => 64 - (intOf i).toNat)
  case atStart => exact ⟨0, by omega, rfl, s, hide (rnds_zero _ _).symm, rfl, rfl, rfl, rfl, rfl, rfl, rfl, rfl, HW3⟩
  case round =>
    clear HW3
    obtain ⟨t, ht, rfl, ⟨ra, rb, rc, rd, re, rf, rg, rh⟩, HR, rfl, rfl, rfl, rfl, rfl, rfl, rfl, rfl, HW⟩ := hrel
    by_cases hlt : t < 64
    · have ck := HW.out.1 t hlt
      have cw := (HW.out.2.2.1.cell t).trans (fillw_get l hlt hlt)
      go_wp2_with fail
      go_quiet ((go_at_call 74; first | exact Calls.quiet_of_same (ror_is _ 6 _ _ rfl (by decide) (by decide)) | exact Calls.quiet_of_same (ror_is _ 11 _ _ rfl (by decide) (by decide)) | exact Calls.quiet_of_same (ror_is _ 25 _ _ rfl (by decide) (by decide))))
      go_wp2_with (go_at_call 74; (first | (with_reducible refine (ror2 _ _).mono ?_) | (with_reducible refine (ror13 _ _).mono ?_) | (with_reducible refine (ror22 _ _).mono ?_)); (rintro e w' ⟨rfl, rfl⟩))
      go_roundw
      case rel =>
        refine ⟨t + 1, by omega, by go_num, rnd (kw t) (wv l t) ⟨ra, rb, rc, rd, re, rf, rg, rh⟩, hide (by rw [rnds_succ, ← HR.out]), ?_, ?_, ?_, ?_, ?_, ?_, ?_, ?_, ?_⟩
        · rw [pw_val, qw_val, sum_val, rnd_eq]
        · rw [rnd_eq]
        · rw [rnd_eq]
        · rw [rnd_eq]
        · rw [pw_val, sum_val, rnd_eq]
        · rw [rnd_eq]
        · rw [rnd_eq]
        · rw [rnd_eq]
        · exact hide ⟨HW.out.1.drewN nq, Blk.drewN HW.out.2.1 nq, Blk.drewN HW.out.2.2.1 nq, only_drewN HW.out.2.2.2 nq⟩
      case measure => simp [intOf]; omega
    · have h64 : 64 ≤ t := by omega
      have HR64 : Hid ((⟨ra, rb, rc, rd, re, rf, rg, rh⟩ : S8) = rnds (wv l) s 64) := by
        have : t = 64 := by omega
        rw [← this]; exact HR
      clear HR
      have HI := hide (index8 ⟨ra, rb, rc, rd, re, rf, rg, rh⟩)
      have HB0 : Hid (Blk wr S 90 (uc (mix s ⟨ra, rb, rc, rd, re, rf, rg, rh⟩ 0)) ∧ w.grownBy wr (some S)) := hide ⟨by rw [mix_zero]; exact HW.out.2.1, HW.out.2.2.2⟩
      clear HW
      go_wp2_with fail
      go_loopw [124] (fun i wr => ∃ k : Nat, k ≤ 8 ∧ i = .int .i64 k ∧ Hid (Blk wr S 90 (uc (mix s ⟨ra, rb, rc, rd, re, rf, rg, rh⟩ k)) ∧ w.grownBy wr (some S))) (fun i _ => 8 - (intOf i).toNat)
      case atStart => exact ⟨0, by omega, rfl, HB0⟩
      case round =>
        clear HB0
        obtain ⟨k, hk, rfl, HB⟩ := hrel
        by_cases hlt : k < 8
        · have hix := HI.out k hlt
          have hc := (HB.out.1.cell k).trans (mix_at s _ hlt)
          have hf := HB.out.1.free k
          have hk8 : (k : Int) < 8 := by omega
          have HN : Hid (Blk (wr.setCell ⟨S, k, none⟩ (uv ((words s).getD k 0 + (words ⟨ra, rb, rc, rd, re, rf, rg, rh⟩).getD k 0))).drew S 90 (uc (mix s ⟨ra, rb, rc, rd, re, rf, rg, rh⟩ (k + 1))) ∧
              w.grownBy (wr.setCell ⟨S, k, none⟩ (uv ((words s).getD k 0 + (words ⟨ra, rb, rc, rd, re, rf, rg, rh⟩).getD k 0))).drew (some S)) :=
            hide ⟨by rw [← mix_set _ _ hlt]; exact (HB.out.1.set k _).drew, only_drew (only_setCell HB.out.2 (.inl rfl) _)⟩
          rw [List.getD_eq_getElem?_getD, List.getD_eq_getElem?_getD] at HN
          go_wp2_with fail
          go_region
          go_wp2_with fail
          go_roundw
          case rel => exact ⟨k + 1, by omega, by go_num, by rw [sum_val]; exact HN.out⟩
          case measure => simp [intOf]; omega
        · have h8 : 8 ≤ k := by omega
          go_wp2_with fail
          go_end0
          have : k = 8 := by omega
          subst this
          rw [comp_eq, ← HR64.out]
          exact ⟨rfl, by rw [St, ← mix_all]; exact HB.out.1, HB.out.2⟩
end Go.Proofs.YtalgceplcahgbaaDoor
