/- power. -/
import Derived.Test.YthimljcfmnehcaaDoorGPow
import Derived.Test.YthimljcfmnehcaaDoorGBit
namespace Go.Proofs.YthimljcfmnehcaaDoor.Gp
open Go.RowKit Go.Shelf
attribute [local go_sem] Oper.semAt_some

/-- The boxes of power, under way. -/
structure PI (w w4 : World) (n : Nat) (pre : List Int) (W : World) : Prop where
  left : Blk W w.heap.size 3 [.int .i64 ((pfd n pre).1 : Nat)]
  prod : Blk W (w.heap.size + 1) 3 [.int .i64 (pfd n pre).2]
  rng : 0 ≤ (pfd n pre).2 ∧ (pfd n pre).2 < 2147483579
  bel : Below w.heap.size w W
  siz : w4.heap.size ≤ W.heap.size
theorem four (w : World) (c0 c1 c2 c3 : List Value) (t0 t1 t2 t3 : Nat) {W : World} (hW : W = (((w.alloc (.cells c0.toArray t0)).alloc (.cells c1.toArray t1)).alloc (.cells c2.toArray t2)).alloc (.cells c3.toArray t3)) :
    Blk W w.heap.size t0 c0 ∧ Blk W (w.heap.size + 1) t1 c1 ∧ Blk W (w.heap.size + 1 + 1) t2 c2 ∧ Blk W (w.heap.size + 1 + 1 + 1) t3 c3 ∧ W.heap.size = w.heap.size + 4 ∧ Below w.heap.size w W := by
  subst hW
  generalize h1 : w.alloc (.cells c0.toArray t0) = w1
  have z1 : w1.heap.size = w.heap.size + 1 := by rw [← h1]; simp
  have b1 := h1 ▸ Blk.new w t0 c0
  have B1 := h1 ▸ below_new w (.cells c0.toArray t0)
  generalize h2 : w1.alloc (.cells c1.toArray t1) = w2
  have z2 : w2.heap.size = w.heap.size + 1 + 1 := by rw [← h2]; simp [z1]
  have b2 := h2 ▸ Blk.new w1 t1 c1
  have B2 := h2 ▸ below_new w1 (.cells c1.toArray t1)
  generalize h3 : w2.alloc (.cells c2.toArray t2) = w3
  have z3 : w3.heap.size = w.heap.size + 1 + 1 + 1 := by rw [← h3]; simp [z2]
  have b3 := h3 ▸ Blk.new w2 t2 c2
  have B3 := h3 ▸ below_new w2 (.cells c2.toArray t2)
  generalize h4 : w3.alloc (.cells c3.toArray t3) = w4
  have z4 : w4.heap.size = w.heap.size + 4 := by rw [← h4]; simp [z3]
  have b4 := h4 ▸ Blk.new w3 t3 c3
  have B4 := h4 ▸ below_new w3 (.cells c3.toArray t3)
  rw [z1] at b2
  rw [z2] at b3
  rw [z3] at b4
  exact ⟨((b1.below B2 (by omega)).below B3 (by omega)).below B4 (by omega), (b2.below B3 (by omega)).below B4 (by omega), b3.below B4 (by omega), b4, z4, below_one (below_one (below_one B1 B2) B3) B4⟩

set_option maxRecDepth 100000 in
set_option maxHeartbeats 6400000 in
theorem power_any (a : Int) (n : Nat) (w : World) (ha : 0 ≤ a) (ha2 : a < 2147483579) (hn : n ≤ 9223372036854775807) :
    Calls Tryd.prog 68 #[.int .i64 a, .int .i64 (n : Nat)] w fun e w' => e = .returned (.int .i64 (mp (a ^ n))) ∧ Below w.heap.size w w' := by
  have HA := hide (And.intro ha ha2)
  have HL := hide (fun W => bits_Len (n : Int) W (by omega) (by omega))
  have HBL := hide (show Lib.bitLen n ≤ 64 from Any.bitLen_leU (n : Int) (by omega) (by omega) |> (by simpa using ·))
  have hcv : IntKind.u64.wrap (n : Int) = (n : Int) := IntWalk.u64_in _ (by omega)
  clear ha ha2
  refine (callsIn_wide (n := 4)).1 ?_
  refine callsIn_of_wp_marks Tryd.func68 rfl trivial ?_ rfl
  simp only [Tryd.ntmps68, List.size_toArray, List.length_cons, List.length_nil, Nat.reduceAdd, Nat.reduceSub, Array.replicate_succ, Array.replicate_zero, List.push_toArray, List.append_toArray, List.nil_append, List.cons_append]
  gi_wp2
  refine ⟨trivial, ?_⟩
  refine (callsIn_wide.2 (HL.out _)).mono ?_
  rintro e w2 ⟨rfl, rfl⟩
  gi_wp2
  refine ⟨trivial, ?_⟩
  refine (callsIn_wide.2 (squares_any a _ _)).mono ?_
  rintro e w4 ⟨rfl, h4⟩
  simp only [World.size_alloc] at h4 ⊢
  obtain ⟨p0, p1, p2, p3, hz, hb⟩ := four w [.int .i64 (n : Nat)] [.int .i64 1] [.int .i64 a] [.int .i64 (Lib.bitLen n : Nat)] 3 3 3 3 h4
  have HZ := hide hz
  have HG := hide (squares_gives (4 - 1) (by omega) (w.heap.size + 1 + 1) (w.heap.size + 1 + 1 + 1) a (Lib.bitLen n) w4 (p2.cell 0) (p3.cell 0) HA.out.1 HA.out.2 (by have := HBL.out; omega))
  have HI0 := hide (show PI w w4 n [] w4 from ⟨p0, p1, by simp [pfd], hb, Nat.le_refl _⟩)
  have HD := hide (pfd_done a n (by omega))
  clear h4 p0 p1 p2 p3 hz hb HL
  gi_wp2
  refine wp_rangeR2 rfl (by omega) (gf := 79) (lb := #[.pointer (some ⟨w.heap.size + 1 + 1, 0, none⟩), .pointer (some ⟨w.heap.size + 1 + 1 + 1, 0, none⟩)]) rfl trivial (enters_of Tryd.func79 (by kernel_rfl) rfl)
    HG.out (fun _ _ => trivial) (fun _ _ _ _ _ _ _ => trivial) (Below.refl _ _) (fun _ => rfl)
    (fun pre W => PI w w4 n pre W) (fun pre X Y row hs hg hr => ⟨(blk_own (β := Unit) _ _ _).from _ () X Y row hs.left hg hr, (blk_own (β := Unit) _ _ _).from _ () X Y row hs.prod hg hr, hs.rng, ownFrom_below (β := Unit) (Nat.le_refl _) (by have := HZ.out; omega) () X Y row hs.bel hg hr, Nat.le_trans hs.siz hg.size⟩) HI0.out
    (fun pre x a' W => (0 ≤ x ∧ x < 2147483579) ∧ PI w w4 n pre W ∧ a' = { tmps := #[.int .i64 a, .int .i64 (n : Nat), undef, .pointer (some ⟨w.heap.size, 0, none⟩), .pointer (some ⟨w.heap.size + 1, 0, none⟩), .int .i64 x, .int .i64 a, .int .i64 (n : Nat), .int .u64 (n : Nat), .int .i64 (Lib.bitLen n : Nat), .func (.func 79) #[] #[.pointer (some ⟨w.heap.size + 1 + 1, 0, none⟩), .pointer (some ⟨w.heap.size + 1 + 1 + 1, 0, none⟩)], .int .i64 x, undef, undef, undef, undef, undef, undef, undef, undef, undef], defers := [] })
    (fun pre x a' _ X Y row ⟨h1, hs, h3⟩ hg hr => ⟨h1, ⟨(blk_own (β := Unit) _ _ _).from _ () X Y row hs.left hg hr, (blk_own (β := Unit) _ _ _).from _ () X Y row hs.prod hg hr, hs.rng, ownFrom_below (β := Unit) (Nat.le_refl _) (by have := HZ.out; omega) () X Y row hs.bel hg hr, Nat.le_trans hs.siz hg.size⟩, h3⟩) ?assign ?body ?done
  case assign =>
    rintro ly pre x X K hI hR hK
    have HII := hide hI
    clear hI
    gi_wp2
    exact hK _ _ (KeepsFrom.refl _ _) trivial ⟨hR, HII.out, rfl⟩
  case body =>
    rintro ly pre x a' X ⟨hx, hI, rfl⟩ hpl
    have HI := hide hI
    have HX := hide hx
    have HSN := hide (pfd_snoc n pre x)
    have HR := hide hI.rng
    have c0 := hI.left.cell 0
    have c1 := hI.prod.cell 0
    have f0 := hI.left.free 0
    have f1 := hI.prod.free 0
    clear hI hx
    have HMN := hide (show (pfd n pre).1 ≤ n from by
      have h0 : ∀ (l : List Int) (p : Nat × Int), (l.foldl pst p).1 ≤ p.1 := by
        intro l
        induction l with
        | nil => exact fun p => Nat.le_refl _
        | cons x l ih => exact fun p => Nat.le_trans (ih (pst p x)) (by show p.1 / 2 ≤ p.1; omega)
      exact h0 pre (n, 1))
    have HBE := hide HI.out.bel
    have HSZ := hide HI.out.siz
    have HBL1 := hide HI.out.left
    have HBC1 := hide HI.out.prod
    clear HI
    generalize pfd n pre = p at *
    obtain ⟨m, c⟩ := p
    simp only [List.getElem?_cons_zero] at c0 c1
    have hb := i64_and_one m (by have := HMN.out; simp only at this; omega)
    have HKS := hide (fun (W : World) (p : Addr) (v : Value) => KeepsOthers.setCell W p v)
    by_cases h1 : m % 2 = 1
    · rw [h1] at hb
      have hb' : bits .and .i64 (m : Int) 1 = 1 := hb
      have HSN2 := hide (show pfd n (pre ++ [x]) = (m / 2, mp (c * x)) from by rw [HSN.out]; unfold pst; rw [if_pos h1])
      clear hb h1
      have HPR := hide (fun W => product_any c x W HR.out.1 HR.out.2 HX.out.1 HX.out.2)
      try dsimp only
      gi_wp2
      refine ⟨trivial, ?_⟩
      refine (callsIn_wide.2 (HPR.out _)).mono ?_
      rintro e w' ⟨rfl, rfl⟩
      gi_wp2
      refine ⟨((HKS.out _ _ _).trans (HKS.out _ _ _)).from _, ?_⟩
      refine ⟨?_, ?_, ?_, ?_, ?_⟩
      · rw [HSN2.out]; exact ((HBL1.out.apart (by simp) _).set 0 _)
      · rw [HSN2.out]; exact ((HBC1.out.set 0 _).apart (by simp) _)
      · rw [HSN2.out]; exact ⟨mp_lo _, mp_hi _⟩
      · exact (HBE.out.setCell (by simp) _).setCell (by simp) _
      · simp; exact HSZ.out
    · have h2 : m % 2 = 0 := by omega
      rw [h2] at hb
      have hb' : bits .and .i64 (m : Int) 1 = 0 := hb
      have HSN2 := hide (show pfd n (pre ++ [x]) = (m / 2, c) from by rw [HSN.out]; unfold pst; rw [if_neg h1])
      clear hb h1 h2
      try dsimp only
      gi_wp2
      refine ⟨(HKS.out _ _ _).from _, ?_⟩
      refine ⟨?_, ?_, ?_, ?_, ?_⟩
      · rw [HSN2.out]; exact HBL1.out.set 0 _
      · rw [HSN2.out]; exact HBC1.out.apart (by simp) _
      · rw [HSN2.out]; exact HR.out
      · exact HBE.out.setCell (by simp) _
      · simp; exact HSZ.out
  case done =>
    rintro D xs W hD hS hI hK
    have HDK := hide hK
    have ha : W.cell? ⟨w.heap.size + 1, 0, none⟩ = some (.int .i64 (mp (a ^ n))) := by
      rw [← HD.out, ← hS]
      exact hI.prod.cell 0
    have hf := hI.prod.free 0
    have HBW := hide hI.bel
    have HPB := hide hI.prod
    have HZD := hide (show w.heap.size + 4 ≤ D by have := HZ.out; omega)
    clear hS hI hK HG
    have HW2 := hide (show Below w.heap.size w ((W.setCell ⟨w.heap.size + 1, 0, none⟩ (.int .i64 (mp (a ^ n)))).putObj D (.deferred none)) from (HBW.out.setCell (by simp) _).trans (below_putObj (by have := HZD.out; omega)))
    have HDK2 := hide (show (W.setCell ⟨w.heap.size + 1, 0, none⟩ (.int .i64 (mp (a ^ n)))).heap[D]? = some (.deferred (some [])) from (heap_setCell_other W _ D _ (by simp only; have := HZD.out; omega)).trans HDK.out)
    have HRS := hide (show ((W.setCell ⟨w.heap.size + 1, 0, none⟩ (.int .i64 (mp (a ^ n)))).putObj D (.deferred none)).cell? ⟨w.heap.size + 1, 0, none⟩ = some (.int .i64 (mp (a ^ n))) from
      (World.cell?_of_block (a := ⟨w.heap.size + 1, 0, none⟩) (World.putObj_heap_other (by simp only; have := HZD.out; omega))).trans ((HPB.out.set 0 _).cell 0))
    obtain ⟨r, hr⟩ : ∃ r, mp (a ^ n) = r := ⟨_, rfl⟩
    have HRR := hide hr
    rw [hr] at HW2 HDK2 HRS ha
    clear hr
    gi_wp2
    refine ⟨by simp, .inl ⟨_, _, rfl, run_takeDeferred HDK2.out, ?_⟩⟩
    have hrs := HRS.out
    refine ⟨.int .i64 r, by simp [results, Tryd.results68, go_sem, hrs], ?_⟩
    exact ⟨by rw [HRR.out], HW2.out⟩
end Go.Proofs.YthimljcfmnehcaaDoor.Gp
