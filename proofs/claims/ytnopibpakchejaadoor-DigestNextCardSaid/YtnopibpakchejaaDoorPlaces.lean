/- DigestPlaces. -/
import Derived.Test.YtnopibpakchejaaDoorSteps
namespace Go.Proofs.YtnopibpakchejaaDoor
open Go.RowKit

/-- A list of digests that a slice names. -/
structure DSrc (w : World) (A : Option Addr) (m c : Nat) (L : List (List UInt8)) : Prop where
  len : m = L.length
  ds : Ds w A L
  d32 : D32 L
  le : m ≤ c
  top : c ≤ 9223372036854775807
  nil : A = none → c = 0
theorem DSrc.below {w w' : World} {A : Option Addr} {m c : Nat} {L : List (List UInt8)} (h : DSrc w A m c L) (hb : Below w.heap.size w w') : DSrc w' A m c L := ⟨h.len, h.ds.below hb, h.d32, h.le, h.top, h.nil⟩
theorem own_dsrc {w : World} {base n : Nat} {v : Value} {L : List (List UInt8)} (h : w.ownsRow base 26 32 v n (bc L.flatten)) (hD : D32 L) (hn : n = L.length) : ∃ A c, v = .slice A n c ∧ DSrc w A n c L := by
  rcases h.2 with ⟨rfl, h0⟩ | ⟨g, cap, cur, rfl, hg, hB, hc, hm, hs, ht⟩
  · subst h0
    have : L = [] := List.length_eq_zero_iff.1 hn.symm
    subst this
    exact ⟨none, 0, rfl, rfl, fun h => absurd rfl h, hD, Nat.le_refl _, by omega, fun _ => rfl⟩
  · refine ⟨some ⟨g, 0, none⟩, cap, rfl, hn, Ds.of ?_, hD, hc, by unfold maxLen at hm; omega, fun h => by cases h⟩
    intro i hi
    have hl := h.1
    rw [bc_len] at hl
    rw [Nat.zero_add, World.ownsRow.cellAt h i (by omega), bc_get hi]
theorem digsOf_len (l : List UInt8) : (digsOf l).length ≤ 24 := by unfold digsOf; rw [digs_len]; omega
theorem digsOf_d32 (l : List UInt8) : D32 (digsOf l) := digs_d32 _ _
/-- One digest of a list, for a load. -/
theorem DSrc.one {w : World} {b o m c : Nat} {L : List (List UInt8)} (h : DSrc w (some ⟨b, o, none⟩) m c L) (k : Nat) (hk : k < L.length) : w.rangeAt b (o + k * 32) (bc L[k]) := by
  obtain ⟨b', o', e, hB⟩ := h.ds.at h.d32 (by omega)
  cases e
  have := bs_range (bs_one h.d32 hB k hk)
  rwa [Nat.mul_comm] at this

def ClPost (b : Bool) (w : World) (e : Ending) (w' : World) : Prop := ∃ X : List UInt8, X.length = 32 ∧ e = .returned (.tuple #[dv X, .int .i64 (if b then 0 else 1)]) ∧ Below w.heap.size w w'

/-- Does a path of m elements fit? -/
def Fits (k m : Nat) (many : Int) (b : Bool) : Prop := b = true ↔ (∃ M : Nat, many = M ∧ k < M ∧ M ≤ 1099511627776 ∧ stepsL k M = m)

/-- Climb of a path with whatever number of elements. -/
theorem climb_case (d : List UInt8) (p : List (List UInt8)) (m cap k : Nat) (many : Int) (A : Option Addr) (w : World) (hT : Tab w) (hd : d.length = 32) (hP : DSrc w A m cap p) (b : Bool)
    (hb : Fits k m many b) : Calls Tryd.prog 22 #[dv d, .int .i64 (k : Nat), .int .i64 many, .slice A m cap] w (ClPost b w) := by
  cases b with
  | true =>
    obtain ⟨M, rfl, h1, h2, h3⟩ := hb.1 rfl
    exact (Climb_yes d p m cap k M A w hd hP.len h3.symm h1 h2 hT hP.d32 hP.ds hP.le hP.top).mono fun e w' ⟨he, hg⟩ => ⟨_, climbL_len _ _ _ _, he, hg⟩
  | false =>
    have hn : ¬ (∃ M : Nat, many = M ∧ k < M ∧ M ≤ 1099511627776 ∧ stepsL k M = m) := fun h => by have := hb.2 h; cases this
    have fin : ∀ {Q : Ending → World → Prop}, (∀ e w', Q e w' → e = .returned (.tuple #[dv zd, .int .i64 1]) ∧ Below w.heap.size w w') → Calls Tryd.prog 22 #[dv d, .int .i64 (k : Nat), .int .i64 many, .slice A m cap] w Q → Calls Tryd.prog 22 #[dv d, .int .i64 (k : Nat), .int .i64 many, .slice A m cap] w (ClPost false w) :=
      fun h1 h2 => h2.mono fun e w' he => ⟨zd, zd_len, (h1 e w' he).1, (h1 e w' he).2⟩
    by_cases h1 : many < 1
    · exact fin (fun _ _ h => h) (Climb_no1 d m cap k many A w h1)
    · by_cases h2 : 1099511627776 < many
      · exact fin (fun _ _ h => h) (Climb_no2 d m cap k many A w (by omega) h2)
      · by_cases h4 : many ≤ k
        · exact fin (fun _ _ h => h) (Climb_no4 d m cap k many A w (by omega) (by omega) (by omega) h4)
        · obtain ⟨M, rfl⟩ : ∃ M : Nat, many = M := ⟨many.toNat, by omega⟩
          exact fin (fun _ _ h => h) (Climb_no5 d m cap k M A w k M rfl rfl (by omega) (by omega) (by omega) (fun e => hn ⟨M, rfl, by omega, by omega, e.symm⟩))

/-- The program's answer for an index that is none of the list. -/
theorem places_out (a : Option Addr) (n cap : Nat) (l : List UInt8) (k many : Int) (w : World) (hT : Tab w) (hS : Src w a n cap l) (hn : n ≤ 9223372036854775807) (hk : k < 0 ∨ ((digsOf l).length : Int) ≤ k) :
    Calls Tryd.prog 9 #[.slice a n cap, .int .i64 k, .int .i64 many] w (LawPost w) := by
  have HSA := hide (sane_any w hT)
  have HDG := hide (fun (W : World) (hW : Below w.heap.size w W) => digestsOf_any a n cap l W (hS.sb.below hW) hS.len hn)
  have HK := hide hk
  have HDL := hide (And.intro (digsOf_len l) (digsOf_d32 l))
  clear hT hS hk
  go_enter Tryd.func9, Tryd.ntmps9
  go_wp2_with fail
  with_reducible refine HSA.out.mono ?_
  rintro e w1 ⟨rfl, hb⟩
  have HB1 := hide hb
  clear hb
  go_wp2_with fail
  with_reducible refine (HDG.out _ HB1.out).mono ?_
  rintro e w2 ⟨v, rfl, hown, hb⟩
  have HB2 := hide (below_one HB1.out hb)
  obtain ⟨A, c, rfl, hD⟩ := own_dsrc hown HDL.out.2 rfl
  have HDS := hide hD
  clear hown hb hD HB1
  have HNO := hide (fun (W : World) => Path_no (digsOf l).length c k A W HK.out)
  generalize (digsOf l).length = N at *
  have hN := HDL.out.1
  go_wp2_with fail
  with_reducible refine (HNO.out _).mono ?_
  rintro e w3 ⟨rfl, hb⟩
  have HB3 := hide (below_one HB2.out hb)
  clear hb
  by_cases h0 : k < 0
  · go_wp2_with fail
    go_ret
    exact ⟨rfl, HB3.out⟩
  · have h1 : (N : Int) ≤ k := by have := HK.out; omega
    have h2 : decide (k < 0) = false := by simpa using h0
    go_wp2_with fail
    go_ret
    exact ⟨rfl, HB3.out⟩

set_option maxRecDepth 10000 in
set_option maxHeartbeats 4000000 in
theorem places_in (a : Option Addr) (n cap : Nat) (l : List UInt8) (k : Nat) (many : Int) (w : World) (hT : Tab w) (hS : Src w a n cap l) (hn : n ≤ 9223372036854775807) (hk : k < (digsOf l).length) :
    Calls Tryd.prog 9 #[.slice a n cap, .int .i64 (k : Nat), .int .i64 many] w (LawPost w) := by
  have HT := hide hT
  have HSA := hide (sane_any w hT)
  have HDG := hide (fun (W : World) (hW : Below w.heap.size w W) => digestsOf_any a n cap l W (hS.sb.below hW) hS.len hn)
  have HDL := hide (And.intro (digsOf_len l) (digsOf_d32 l))
  have HST := hide (fun (W : World) => steps_fn k (digsOf l).length W hk (by have := digsOf_len l; omega))
  have HPL := hide (And.intro (path_steps _ (digsOf l) k rfl) (path_d32 _ (digsOf l) k rfl))
  have HSL := hide (steps_le (digsOf l).length k)
  have hk24 := digsOf_len l
  clear hT hS
  generalize digsOf l = L at *
  have HDI := hide (HDL.out.2 _ (List.getElem_mem hk))
  obtain ⟨N, hN⟩ : ∃ N, L.length = N := ⟨_, rfl⟩
  have HN := hide hN
  rw [hN] at HST HPL HSL hk24
  have hkN : k < N := by omega
  go_enter Tryd.func9, Tryd.ntmps9
  clear hN
  go_wp2_with fail
  with_reducible refine HSA.out.mono ?_
  rintro e w1 ⟨rfl, hb⟩
  have HB1 := hide hb
  clear hb
  go_wp2_with fail
  with_reducible refine (HDG.out _ HB1.out).mono ?_
  rintro e w2 ⟨v, rfl, hown, hb⟩
  have HB2 := hide (below_one HB1.out hb)
  obtain ⟨A, c, rfl, hD⟩ := own_dsrc hown HDL.out.2 rfl
  have HDS := hide hD
  rw [HN.out]
  rw [HN.out] at HDS
  clear hown hb hD HB1 HSA HDG
  have HYES := hide (Path_yes L N c k A w2 (HT.out.below HB2.out) HDL.out.2 HDS.out.ds HN.out.symm hkN (by omega) HDS.out.le HDS.out.top)
  go_wp2_with fail
  with_reducible refine HYES.out.mono ?_
  rintro e w3 ⟨v, rfl, hown, hb⟩
  have HB3 := hide (below_one HB2.out hb)
  have HD3 := hide (HDS.out.below hb)
  obtain ⟨A2, c2, rfl, hP⟩ := own_dsrc hown HPL.out.2 rfl
  have HP3 := hide hP
  rw [HPL.out.1]
  rw [HPL.out.1] at HP3
  clear hown hb hP HB2 HDS HYES
  obtain ⟨b, o, rfl, _⟩ := HD3.out.ds.at HD3.out.d32 (by omega)
  have HRG := hide (fun (W : World) (hW : Below w3.heap.size w3 W) => (HD3.out.below hW).one k hk)
  have HCL := hide (fun (W : World) (hW : Below w3.heap.size w3 W) (many : Int) (b : Bool) (hb : Fits k (stepsL k N) many b) => climb_case L[k] (pathL L k) (stepsL k N) c2 k many A2 W (HT.out.below (below_one HB3.out hW)) HDI.out (HP3.out.below hW) b hb)
  have HDS := hide (show (Tryd.prog.info? 26).map (·.size) = some (bc L[k]).length by rw [bc_len, HDI.out]; exact Tryd.size26)
  generalize L[k] = d at *
  have d1 : decide ((k : Int) < 0) = false := by simp
  have d2 : decide ((N : Int) ≤ (k : Int)) = false := by simp; omega
  have HT3 := hide (HT.out.below HB3.out)
  have e1 : ((stepsL k N : Nat) : Int) == ((stepsL k N : Nat) : Int) := by simp
  have hs40 : stepsL k N ≤ 24 := by have := HSL.out; omega
  generalize stepsL k N = m at *
  go_wp2_with (go_at_call 24; ((with_reducible refine (HST.out _).mono ?_); rintro e w' ⟨rfl, rfl⟩))
  have HLP : Hid (Blk (w3.alloc (.cells #[.int .i64 many, .int .i64 (bits .and .i64 many 31), .int .i64 ((N : Int) + 1), .int .i64 (2 * (N : Int))] 3)) w3.heap.size 3 [.int .i64 many, .int .i64 (bits .and .i64 many 31), .int .i64 ((N : Int) + 1), .int .i64 (2 * (N : Int))] ∧ Below w3.heap.size w3 (w3.alloc (.cells #[.int .i64 many, .int .i64 (bits .and .i64 many 31), .int .i64 ((N : Int) + 1), .int .i64 (2 * (N : Int))] 3))) := hide ⟨Blk.new w3 3 [.int .i64 many, .int .i64 (bits .and .i64 many 31), .int .i64 ((N : Int) + 1), .int .i64 (2 * (N : Int))], below_new w3 _⟩
  go_loopw [62] (fun i wr => ∃ j : Nat, j ≤ 4 ∧ i = .int .i64 j ∧ Hid (Blk wr w3.heap.size 3 [.int .i64 many, .int .i64 (bits .and .i64 many 31), .int .i64 ((N : Int) + 1), .int .i64 (2 * (N : Int))] ∧ Below w3.heap.size w3 wr)) (fun i _ => 4 - (intOf i).toNat)
  case atStart => exact ⟨0, by omega, rfl, HLP⟩
  case round =>
    clear HLP
    obtain ⟨j, hj, rfl, HW⟩ := hrel
    by_cases hlt : j < 4
    · obtain ⟨mi, hc⟩ : ∃ mi : Int, wr.cell? ⟨w3.heap.size, j, none⟩ = some (.int .i64 mi) := by
        rw [HW.out.1.cell]
        match j, hlt with
        | 0, _ => exact ⟨_, rfl⟩
        | 1, _ => exact ⟨_, rfl⟩
        | 2, _ => exact ⟨_, rfl⟩
        | 3, _ => exact ⟨_, rfl⟩
      have hj4 : (j : Int) < 4 := by omega
      by_cases hA : (k : Int) < mi ∧ mi ≤ 1099511627776
      · obtain ⟨M, rfl⟩ : ∃ M : Nat, mi = M := ⟨mi.toNat, by omega⟩
        have hkM : k < M := by omega
        have hM : M ≤ 1099511627776 := by omega
        have HSM := hide (fun (W : World) => steps_fn k M W hkM hM)
        have g1 : decide (k < M) = true := by simpa using hkM
        have g2 : decide ((M : Int) ≤ 1099511627776) = true := by simp; omega
        clear hA
        by_cases hs : stepsL k M = m
        · have g3 : ((stepsL k M : Nat) : Int) == (m : Int) := by simp; omega
          have g4 : (((stepsL k M : Nat) : Int) == (m : Int)) = true := g3
          have hb : Fits k m (M : Int) true := ⟨fun _ => ⟨M, rfl, hkM, hM, hs⟩, fun _ => rfl⟩
          have HS0 := hide hs
          clear hs g3
          have HB := hide hb
          clear hb
          go_wp2_with (first | (go_at_call 24; ((with_reducible refine (HSM.out _).mono ?_); rintro e w' ⟨rfl, rfl⟩)) | (refine wpList_load_mid rfl 26 (.tmp 84) rfl b (o + k * 32) rfl (bc d) _ (HRG.out _ HW.out.2) Tryd.underlying26 rfl HDS.out ?_))
          with_reducible refine (HCL.out _ HW.out.2 (M : Int) true HB.out).mono ?_
          rintro e w4 ⟨X, hX, rfl, hb4⟩
          have HX := hide hX
          have HW4 := hide (And.intro (HW.out.1.below hb4 HW.out.1.lt) (below_one HW.out.2 hb4))
          clear hX hb4
          have HZ := hide (show (Tryd.prog.info? 26).map (·.size) = some ((bc X).toArray).size by rw [dv_size _ HX.out]; exact Tryd.size26)
          have HO := hide (all_oneCell_toArray (bc_one X))
          have HSZ := hide (dv_size _ HX.out)
          go_wp2_with (refine wpList_store_row rfl 26 (.tmp 13) (.tmp 90) rfl w4.heap.size _ rfl rfl 26 _ (heap_alloc_new w4 _) HZ.out (by rw [HSZ.out]; rfl) HO.out ?_)
          have HN : Hid (Blk ((w4.alloc (.cells (List.replicate 32 (.int .u8 0)).toArray 26)).setRow w4.heap.size (bc X).toArray) w3.heap.size 3 [.int .i64 many, .int .i64 (bits .and .i64 many 31), .int .i64 ((N : Int) + 1), .int .i64 (2 * (N : Int))] ∧ Below w3.heap.size w3 ((w4.alloc (.cells (List.replicate 32 (.int .u8 0)).toArray 26)).setRow w4.heap.size (bc X).toArray)) := by
            have h : Below w4.heap.size w4 ((w4.alloc (.cells (List.replicate 32 (.int .u8 0)).toArray 26)).setRow w4.heap.size (bc X).toArray) := below_setRow (below_new w4 _) (Nat.le_refl _) _
            exact hide ⟨HW4.out.1.below h HW4.out.1.lt, below_one HW4.out.2 h⟩
          go_roundw
          case rel => exact ⟨j + 1, by omega, by go_num, HN⟩
          case measure => simp [intOf]; omega
        · have g4 : (((stepsL k M : Nat) : Int) == (m : Int)) = false := by simp; omega
          have hb : Fits k m (M : Int) false := ⟨fun h => (by cases h), fun ⟨M', e, _, _, h⟩ => (hs (by rw [show M = M' by omega]; exact h)).elim⟩
          clear hs
          have HB := hide hb
          clear hb
          go_wp2_with (first | (go_at_call 24; ((with_reducible refine (HSM.out _).mono ?_); rintro e w' ⟨rfl, rfl⟩)) | (refine wpList_load_mid rfl 26 (.tmp 84) rfl b (o + k * 32) rfl (bc d) _ (HRG.out _ HW.out.2) Tryd.underlying26 rfl HDS.out ?_))
          with_reducible refine (HCL.out _ HW.out.2 (M : Int) false HB.out).mono ?_
          rintro e w4 ⟨X, hX, rfl, hb4⟩
          have HX := hide hX
          have HW4 := hide (And.intro (HW.out.1.below hb4 HW.out.1.lt) (below_one HW.out.2 hb4))
          clear hX hb4
          have HZ := hide (show (Tryd.prog.info? 26).map (·.size) = some ((bc X).toArray).size by rw [dv_size _ HX.out]; exact Tryd.size26)
          have HO := hide (all_oneCell_toArray (bc_one X))
          have HSZ := hide (dv_size _ HX.out)
          go_wp2_with (refine wpList_store_row rfl 26 (.tmp 13) (.tmp 90) rfl w4.heap.size _ rfl rfl 26 _ (heap_alloc_new w4 _) HZ.out (by rw [HSZ.out]; rfl) HO.out ?_)
          have HN : Hid (Blk ((w4.alloc (.cells (List.replicate 32 (.int .u8 0)).toArray 26)).setRow w4.heap.size (bc X).toArray) w3.heap.size 3 [.int .i64 many, .int .i64 (bits .and .i64 many 31), .int .i64 ((N : Int) + 1), .int .i64 (2 * (N : Int))] ∧ Below w3.heap.size w3 ((w4.alloc (.cells (List.replicate 32 (.int .u8 0)).toArray 26)).setRow w4.heap.size (bc X).toArray)) := by
            have h : Below w4.heap.size w4 ((w4.alloc (.cells (List.replicate 32 (.int .u8 0)).toArray 26)).setRow w4.heap.size (bc X).toArray) := below_setRow (below_new w4 _) (Nat.le_refl _) _
            exact hide ⟨HW4.out.1.below h HW4.out.1.lt, below_one HW4.out.2 h⟩
          go_roundw
          case rel => exact ⟨j + 1, by omega, by go_num, HN⟩
          case measure => simp [intOf]; omega
      · have hb : Fits k m mi false := ⟨fun h => (by cases h), fun ⟨M', e, h1, h2, _⟩ => absurd ⟨by omega, by omega⟩ hA⟩
        by_cases h1 : (k : Int) < mi
        · have g1 : decide ((k : Int) < mi) = true := by simpa using h1
          have g2 : decide (mi ≤ 1099511627776) = false := by simp; omega
          clear hA
          have HB := hide hb
          clear hb
          go_wp2_with (first | (refine wpList_load_mid rfl 26 (.tmp 84) rfl b (o + k * 32) rfl (bc d) _ (HRG.out _ HW.out.2) Tryd.underlying26 rfl HDS.out ?_))
          with_reducible refine (HCL.out _ HW.out.2 mi false HB.out).mono ?_
          rintro e w4 ⟨X, hX, rfl, hb4⟩
          have HX := hide hX
          have HW4 := hide (And.intro (HW.out.1.below hb4 HW.out.1.lt) (below_one HW.out.2 hb4))
          clear hX hb4
          have HZ := hide (show (Tryd.prog.info? 26).map (·.size) = some ((bc X).toArray).size by rw [dv_size _ HX.out]; exact Tryd.size26)
          have HO := hide (all_oneCell_toArray (bc_one X))
          have HSZ := hide (dv_size _ HX.out)
          go_wp2_with (refine wpList_store_row rfl 26 (.tmp 13) (.tmp 90) rfl w4.heap.size _ rfl rfl 26 _ (heap_alloc_new w4 _) HZ.out (by rw [HSZ.out]; rfl) HO.out ?_)
          have HN : Hid (Blk ((w4.alloc (.cells (List.replicate 32 (.int .u8 0)).toArray 26)).setRow w4.heap.size (bc X).toArray) w3.heap.size 3 [.int .i64 many, .int .i64 (bits .and .i64 many 31), .int .i64 ((N : Int) + 1), .int .i64 (2 * (N : Int))] ∧ Below w3.heap.size w3 ((w4.alloc (.cells (List.replicate 32 (.int .u8 0)).toArray 26)).setRow w4.heap.size (bc X).toArray)) := by
            have h : Below w4.heap.size w4 ((w4.alloc (.cells (List.replicate 32 (.int .u8 0)).toArray 26)).setRow w4.heap.size (bc X).toArray) := below_setRow (below_new w4 _) (Nat.le_refl _) _
            exact hide ⟨HW4.out.1.below h HW4.out.1.lt, below_one HW4.out.2 h⟩
          go_roundw
          case rel => exact ⟨j + 1, by omega, by go_num, HN⟩
          case measure => simp [intOf]; omega
        · have g1 : decide ((k : Int) < mi) = false := by simpa using h1
          clear hA
          have HB := hide hb
          clear hb
          go_wp2_with (first | (refine wpList_load_mid rfl 26 (.tmp 84) rfl b (o + k * 32) rfl (bc d) _ (HRG.out _ HW.out.2) Tryd.underlying26 rfl HDS.out ?_))
          with_reducible refine (HCL.out _ HW.out.2 mi false HB.out).mono ?_
          rintro e w4 ⟨X, hX, rfl, hb4⟩
          have HX := hide hX
          have HW4 := hide (And.intro (HW.out.1.below hb4 HW.out.1.lt) (below_one HW.out.2 hb4))
          clear hX hb4
          have HZ := hide (show (Tryd.prog.info? 26).map (·.size) = some ((bc X).toArray).size by rw [dv_size _ HX.out]; exact Tryd.size26)
          have HO := hide (all_oneCell_toArray (bc_one X))
          have HSZ := hide (dv_size _ HX.out)
          go_wp2_with (refine wpList_store_row rfl 26 (.tmp 13) (.tmp 90) rfl w4.heap.size _ rfl rfl 26 _ (heap_alloc_new w4 _) HZ.out (by rw [HSZ.out]; rfl) HO.out ?_)
          have HN : Hid (Blk ((w4.alloc (.cells (List.replicate 32 (.int .u8 0)).toArray 26)).setRow w4.heap.size (bc X).toArray) w3.heap.size 3 [.int .i64 many, .int .i64 (bits .and .i64 many 31), .int .i64 ((N : Int) + 1), .int .i64 (2 * (N : Int))] ∧ Below w3.heap.size w3 ((w4.alloc (.cells (List.replicate 32 (.int .u8 0)).toArray 26)).setRow w4.heap.size (bc X).toArray)) := by
            have h : Below w4.heap.size w4 ((w4.alloc (.cells (List.replicate 32 (.int .u8 0)).toArray 26)).setRow w4.heap.size (bc X).toArray) := below_setRow (below_new w4 _) (Nat.le_refl _) _
            exact hide ⟨HW4.out.1.below h HW4.out.1.lt, below_one HW4.out.2 h⟩
          go_roundw
          case rel => exact ⟨j + 1, by omega, by go_num, HN⟩
          case measure => simp [intOf]; omega
    · have hj4 : 4 ≤ (j : Int) := by omega
      go_wp2_with fail
      go_ret
      exact ⟨rfl, below_one HB3.out HW.out.2⟩

theorem places_walk (a : Option Addr) (n cap : Nat) (l : List UInt8) (k many : Int) (w : World) (hT : Tab w) (hS : Src w a n cap l) (hn : n ≤ 9223372036854775807) : Calls Tryd.prog 9 #[.slice a n cap, .int .i64 k, .int .i64 many] w (LawPost w) := by
  by_cases h : k < 0 ∨ ((digsOf l).length : Int) ≤ k
  · exact places_out a n cap l k many w hT hS hn h
  · obtain ⟨j, rfl⟩ : ∃ j : Nat, k = j := ⟨k.toNat, by omega⟩
    exact places_in a n cap l j many w hT hS hn (by omega)
end Go.Proofs.YtnopibpakchejaaDoor
