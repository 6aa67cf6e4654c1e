/- holds. -/
import Derived.Test.YtfhfmnlkpcmgfaaHis
namespace Go.Proofs.Ytfhfmnlkpcmgfaa
open Go.RowKit
variable {n0 : Nat}

theorem bs_getD {l : List UInt8} {k : Nat} (h : k < l.length) : (bs l)[k]? = some (.int .u8 ((l.getD k 0).toNat : Nat)) := by
  rw [List.getElem?_eq_getElem (by rw [bs_len]; exact h), bs_get, List.getD_eq_getElem?_getD, List.getElem?_eq_getElem h]
  rfl

set_option maxRecDepth 100000 in
set_option maxHeartbeats 3200000 in
theorem holds_any (d : Dsk) (F S : List UInt8) (w : World) (hi : d.In n0 w) (hF : F.length = 4) (hS : S.length = 4) (hr : ∀ k : Nat, k < 4 → d.d.read (k : Int) = (half (F.getD k 0) (S.getD k 0), 0)) :
    Calls Try.prog 28 #[d.v, .agg (bs F).toArray, .agg (bs S).toArray] w fun e w' => e = .returned (.bool true) ∧ Below w.heap.size w w' := by
  have HB1 := hide ((Blk.new w 25 d.cs).alloc (.cells (bs F).toArray 44) |>.alloc (.cells (bs S).toArray 44))
  have HB2 := hide (Blk.alloc (Blk.new (w.alloc (.cells d.cs.toArray 25)) 44 (bs F)) (.cells (bs S).toArray 44))
  have HB3 := hide (Blk.new ((w.alloc (.cells d.cs.toArray 25)).alloc (.cells (bs F).toArray 44)) 44 (bs S))
  have HK := hide (show Below w.heap.size w (((w.alloc (.cells d.cs.toArray 25)).alloc (.cells (bs F).toArray 44)).alloc (.cells (bs S).toArray 44)) from ((below_new w _).alloc (by simp) _).alloc (by simp; omega) _)
  simp only [World.size_alloc] at HB2 HB3
  have HI := hide hi
  have HR := hide hr
  have HF := hide hF
  have HS := hide hS
  obtain ⟨f0, f1, f2, f3, rfl⟩ : ∃ f0 f1 f2 f3, F = [f0, f1, f2, f3] := by
    match F, hF with
    | [a, b, c, d], _ => exact ⟨a, b, c, d, rfl⟩
  obtain ⟨s0, s1, s2, s3, rfl⟩ : ∃ f0 f1 f2 f3, S = [f0, f1, f2, f3] := by
    match S, hS with
    | [a, b, c, d], _ => exact ⟨a, b, c, d, rfl⟩
  clear hi hr hF hS
  go_enter Try.func28, Try.ntmps28
  go_wp2_with fail
  go_loopw [7] (fun i wr => ∃ k : Nat, k ≤ 4 ∧ i = .int .i64 k ∧ Hid (Blk wr w.heap.size 25 d.cs ∧ Blk wr (w.heap.size + 1) 44 (bs [f0, f1, f2, f3]) ∧ Blk wr (w.heap.size + 2) 44 (bs [s0, s1, s2, s3]) ∧ Below w.heap.size w wr)) (fun i _ => 4 - (intOf i).toNat)
  case atStart => exact ⟨0, by omega, rfl, hide ⟨HB1.out, HB2.out, HB3.out, HK.out⟩⟩
  case round =>
    obtain ⟨k, hk, rfl, HE⟩ := hrel
    clear HB1 HB2 HB3 HK
    by_cases hlt : k < 4
    · obtain ⟨hb1, hb2, hb3, hbl⟩ := HE.out
      obtain ⟨c0, c1, c2, c3⟩ := hb1.c4
      have HRD := hide (read_is wr rfl (HR.out k hlt) (HI.out.below hbl))
      have hki : (k : Int) < 4 := by omega
      clear hb1 hb2 hb3 hbl
      go_wp2_with fail
      refine HRD.out.mono ?_
      rintro e w2 ⟨s, rfl, hsl, hsi, hb⟩
      have HE2 := hide (And.intro (HE.out.1.below hb HE.out.1.lt) (And.intro (HE.out.2.1.below hb HE.out.2.1.lt) (And.intro (HE.out.2.2.1.below hb HE.out.2.2.1.lt) (below_one HE.out.2.2.2 hb))))
      have hlen : s.l.length = 128 := by rw [hsl, half_len]
      obtain ⟨b, o, hA, hbs, hc⟩ := hsi.cels.at (k := 0) (by rw [bs_len]; omega)
      have hcell : ∀ i, i < 128 → w2.cell? ⟨b, o + i, none⟩ = (bs (half ([f0, f1, f2, f3].getD k 0) ([s0, s1, s2, s3].getD k 0)))[i]? := fun i hi => by
        rw [hc i (by rw [bs_len, hlen]; exact hi), ← List.getElem?_eq_getElem (by rw [bs_len, hlen]; exact hi), hsl]
      have hval : ∀ i, i < 128 → w2.cell? ⟨b, o + i, none⟩ = some (.int .u8 ((if i = 64 then [s0, s1, s2, s3].getD k 0 else if i = 0 then [f0, f1, f2, f3].getD k 0 else 0).toNat : Nat)) := fun i hi => by
        rw [hcell i hi]
        have := half_get ([f0, f1, f2, f3].getD k 0) ([s0, s1, s2, s3].getD k 0) i hi
        simp only [bs, List.getElem?_map, this, Option.map_some]
      have q0 : w2.cell? ⟨b, o, none⟩ = some (.int .u8 (([f0, f1, f2, f3].getD k 0).toNat : Nat)) := hval 0 (by omega)
      have q64 : w2.cell? ⟨b, o + 64, none⟩ = some (.int .u8 (([s0, s1, s2, s3].getD k 0).toNat : Nat)) := hval 64 (by omega)
      have q1 : w2.cell? ⟨b, o + 1, none⟩ = some (.int .u8 0) := hval 1 (by omega)
      have q127 : w2.cell? ⟨b, o + 127, none⟩ = some (.int .u8 0) := hval 127 (by omega)
      have r1 := HE2.out.2.1.cell k
      rw [bs_getD (l := [f0, f1, f2, f3]) (by simp; omega)] at r1
      have r2 := HE2.out.2.2.1.cell k
      rw [bs_getD (l := [s0, s1, s2, s3]) (by simp; omega)] at r2
      generalize [f0, f1, f2, f3].getD k 0 = fk at q0 r1
      generalize [s0, s1, s2, s3].getD k 0 = sk at q64 r2
      obtain ⟨A, l, cap⟩ := s
      simp only at hA hlen
      subst hA
      clear hb hsl hsi hc hcell hval HRD c0 c1 c2 c3
      simp only [Sec.v, hlen]
      clear hlen
      go_upto_region 5 with (fail)
      refine wp_region_plan3 (fun w' => w'.cell? ⟨b, o, none⟩ = some (.int .u8 (fk.toNat : Nat)) ∧ w'.cell? ⟨b, o + 64, none⟩ = some (.int .u8 (sk.toNat : Nat)) ∧ w'.cell? ⟨b, o + 1, none⟩ = some (.int .u8 0) ∧ w'.cell? ⟨b, o + 127, none⟩ = some (.int .u8 0) ∧ w'.cell? ⟨w.heap.size + 1, k, none⟩ = some (.int .u8 (fk.toNat : Nat)) ∧ w'.cell? ⟨w.heap.size + 2, k, none⟩ = some (.int .u8 (sk.toNat : Nat))) (.take 0 (.take 1 (.take 2 (.take 3 (.take 4 (.take 5 (.take 6 (.take 7 (.take 8 (.take 9 (.take 10 (.take 11 (.take 12 (.take 13 (.take 14 (.take 15 (.take 16 (.take 17 (.take 18 (.take 19 (.take 20 (.take 21 (.take 22 (.take 23 (.take 24 (.take 25 (.take 26 (.take 27 (.take 28 (.take 29 (.take 30 (.take 31 (.take 32 (.take 33 (.take 34 (.take 35 (.take 36 .done))))))))))))))))))))))))))))))))))))) (by kernel_rfl) (by kernel_rfl) ⟨q0, q64, q1, q127, r1, r2⟩ ?_
      clear q0 q64 q1 q127 r1 r2
      (refine plan3_take (o := ?_) (v := ?_) (by simp only [List.getElem?_toArray, List.getElem?_cons_zero]; rfl) (yields_run (by rfl) ?_) ?_; rotate_left; (focus (intro w' hw'; obtain ⟨q0, q64, q1, q127, r1, r2⟩ := hw'; go_simp <;> with_reducible rfl)); (simp only [Act.put, List.setIfInBounds_toArray, List.set_cons_zero, List.set_cons_succ]))
      (refine plan3_take (o := ?_) (v := ?_) (by simp only [List.getElem?_toArray, List.getElem?_cons_succ, List.getElem?_cons_zero]; rfl) (yields_run (by rfl) ?_) ?_; rotate_left; (focus (intro w' hw'; obtain ⟨q0, q64, q1, q127, r1, r2⟩ := hw'; go_simp <;> with_reducible rfl)); (simp only [Act.put, List.setIfInBounds_toArray, List.set_cons_zero, List.set_cons_succ]))
      (refine plan3_take (o := ?_) (v := ?_) (by simp only [List.getElem?_toArray, List.getElem?_cons_succ, List.getElem?_cons_zero]; rfl) (yields_run (by rfl) ?_) ?_; rotate_left; (focus (intro w' hw'; obtain ⟨q0, q64, q1, q127, r1, r2⟩ := hw'; go_simp <;> with_reducible rfl)); (simp only [Act.put, List.setIfInBounds_toArray, List.set_cons_zero, List.set_cons_succ]))
      (refine plan3_take (o := ?_) (v := ?_) (by simp only [List.getElem?_toArray, List.getElem?_cons_succ, List.getElem?_cons_zero]; rfl) (yields_run (by rfl) ?_) ?_; rotate_left; (focus (intro w' hw'; obtain ⟨q0, q64, q1, q127, r1, r2⟩ := hw'; go_simp <;> with_reducible rfl)); (simp only [Act.put, List.setIfInBounds_toArray, List.set_cons_zero, List.set_cons_succ]))
      (refine plan3_take (o := ?_) (v := ?_) (by simp only [List.getElem?_toArray, List.getElem?_cons_succ, List.getElem?_cons_zero]; rfl) (yields_run (by rfl) ?_) ?_; rotate_left; (focus (intro w' hw'; obtain ⟨q0, q64, q1, q127, r1, r2⟩ := hw'; go_simp <;> with_reducible rfl)); (simp only [Act.put, List.setIfInBounds_toArray, List.set_cons_zero, List.set_cons_succ]))
      (refine plan3_take (o := ?_) (v := ?_) (by simp only [List.getElem?_toArray, List.getElem?_cons_succ, List.getElem?_cons_zero]; rfl) (yields_run (by rfl) ?_) ?_; rotate_left; (focus (intro w' hw'; obtain ⟨q0, q64, q1, q127, r1, r2⟩ := hw'; go_simp <;> with_reducible rfl)); (simp only [Act.put, List.setIfInBounds_toArray, List.set_cons_zero, List.set_cons_succ]))
      (refine plan3_take (o := ?_) (v := ?_) (by simp only [List.getElem?_toArray, List.getElem?_cons_succ, List.getElem?_cons_zero]; rfl) (yields_run (by rfl) ?_) ?_; rotate_left; (focus (intro w' hw'; obtain ⟨q0, q64, q1, q127, r1, r2⟩ := hw'; go_simp <;> with_reducible rfl)); (simp only [Act.put, List.setIfInBounds_toArray, List.set_cons_zero, List.set_cons_succ]))
      (refine plan3_take (o := ?_) (v := ?_) (by simp only [List.getElem?_toArray, List.getElem?_cons_succ, List.getElem?_cons_zero]; rfl) (yields_run (by rfl) ?_) ?_; rotate_left; (focus (intro w' hw'; obtain ⟨q0, q64, q1, q127, r1, r2⟩ := hw'; go_simp <;> with_reducible rfl)); (simp only [Act.put, List.setIfInBounds_toArray, List.set_cons_zero, List.set_cons_succ]))
      (refine plan3_take (o := ?_) (v := ?_) (by simp only [List.getElem?_toArray, List.getElem?_cons_succ, List.getElem?_cons_zero]; rfl) (yields_run (by rfl) ?_) ?_; rotate_left; (focus (intro w' hw'; obtain ⟨q0, q64, q1, q127, r1, r2⟩ := hw'; go_simp <;> with_reducible rfl)); (simp only [Act.put, List.setIfInBounds_toArray, List.set_cons_zero, List.set_cons_succ]))
      (refine plan3_take (o := ?_) (v := ?_) (by simp only [List.getElem?_toArray, List.getElem?_cons_succ, List.getElem?_cons_zero]; rfl) (yields_run (by rfl) ?_) ?_; rotate_left; (focus (intro w' hw'; obtain ⟨q0, q64, q1, q127, r1, r2⟩ := hw'; go_simp <;> with_reducible rfl)); (simp only [Act.put, List.setIfInBounds_toArray, List.set_cons_zero, List.set_cons_succ]))
      (refine plan3_take (o := ?_) (v := ?_) (by simp only [List.getElem?_toArray, List.getElem?_cons_succ, List.getElem?_cons_zero]; rfl) (yields_run (by rfl) ?_) ?_; rotate_left; (focus (intro w' hw'; obtain ⟨q0, q64, q1, q127, r1, r2⟩ := hw'; go_simp <;> with_reducible rfl)); (simp only [Act.put, List.setIfInBounds_toArray, List.set_cons_zero, List.set_cons_succ]))
      (refine plan3_take (o := ?_) (v := ?_) (by simp only [List.getElem?_toArray, List.getElem?_cons_succ, List.getElem?_cons_zero]; rfl) (yields_run (by rfl) ?_) ?_; rotate_left; (focus (intro w' hw'; obtain ⟨q0, q64, q1, q127, r1, r2⟩ := hw'; go_simp <;> with_reducible rfl)); (simp only [Act.put, List.setIfInBounds_toArray, List.set_cons_zero, List.set_cons_succ]))
      (refine plan3_take (o := ?_) (v := ?_) (by simp only [List.getElem?_toArray, List.getElem?_cons_succ, List.getElem?_cons_zero]; rfl) (yields_run (by rfl) ?_) ?_; rotate_left; (focus (intro w' hw'; obtain ⟨q0, q64, q1, q127, r1, r2⟩ := hw'; go_simp <;> with_reducible rfl)); (simp only [Act.put, List.setIfInBounds_toArray, List.set_cons_zero, List.set_cons_succ]))
      (refine plan3_take (o := ?_) (v := ?_) (by simp only [List.getElem?_toArray, List.getElem?_cons_succ, List.getElem?_cons_zero]; rfl) (yields_run (by rfl) ?_) ?_; rotate_left; (focus (intro w' hw'; obtain ⟨q0, q64, q1, q127, r1, r2⟩ := hw'; go_simp <;> with_reducible rfl)); (simp only [Act.put, List.setIfInBounds_toArray, List.set_cons_zero, List.set_cons_succ]))
      (refine plan3_take (o := ?_) (v := ?_) (by simp only [List.getElem?_toArray, List.getElem?_cons_succ, List.getElem?_cons_zero]; rfl) (yields_run (by rfl) ?_) ?_; rotate_left; (focus (intro w' hw'; obtain ⟨q0, q64, q1, q127, r1, r2⟩ := hw'; go_simp <;> with_reducible rfl)); (simp only [Act.put, List.setIfInBounds_toArray, List.set_cons_zero, List.set_cons_succ]))
      (refine plan3_take (o := ?_) (v := ?_) (by simp only [List.getElem?_toArray, List.getElem?_cons_succ, List.getElem?_cons_zero]; rfl) (yields_run (by rfl) ?_) ?_; rotate_left; (focus (intro w' hw'; obtain ⟨q0, q64, q1, q127, r1, r2⟩ := hw'; go_simp <;> with_reducible rfl)); (simp only [Act.put, List.setIfInBounds_toArray, List.set_cons_zero, List.set_cons_succ]))
      (refine plan3_take (o := ?_) (v := ?_) (by simp only [List.getElem?_toArray, List.getElem?_cons_succ, List.getElem?_cons_zero]; rfl) (yields_run (by rfl) ?_) ?_; rotate_left; (focus (intro w' hw'; obtain ⟨q0, q64, q1, q127, r1, r2⟩ := hw'; go_simp <;> with_reducible rfl)); (simp only [Act.put, List.setIfInBounds_toArray, List.set_cons_zero, List.set_cons_succ]))
      (refine plan3_take (o := ?_) (v := ?_) (by simp only [List.getElem?_toArray, List.getElem?_cons_succ, List.getElem?_cons_zero]; rfl) (yields_run (by rfl) ?_) ?_; rotate_left; (focus (intro w' hw'; obtain ⟨q0, q64, q1, q127, r1, r2⟩ := hw'; go_simp <;> with_reducible rfl)); (simp only [Act.put, List.setIfInBounds_toArray, List.set_cons_zero, List.set_cons_succ]))
      (refine plan3_take (o := ?_) (v := ?_) (by simp only [List.getElem?_toArray, List.getElem?_cons_succ, List.getElem?_cons_zero]; rfl) (yields_run (by rfl) ?_) ?_; rotate_left; (focus (intro w' hw'; obtain ⟨q0, q64, q1, q127, r1, r2⟩ := hw'; go_simp <;> with_reducible rfl)); (simp only [Act.put, List.setIfInBounds_toArray, List.set_cons_zero, List.set_cons_succ]))
      (refine plan3_take (o := ?_) (v := ?_) (by simp only [List.getElem?_toArray, List.getElem?_cons_succ, List.getElem?_cons_zero]; rfl) (yields_run (by rfl) ?_) ?_; rotate_left; (focus (intro w' hw'; obtain ⟨q0, q64, q1, q127, r1, r2⟩ := hw'; go_simp <;> with_reducible rfl)); (simp only [Act.put, List.setIfInBounds_toArray, List.set_cons_zero, List.set_cons_succ]))
      (refine plan3_take (o := ?_) (v := ?_) (by simp only [List.getElem?_toArray, List.getElem?_cons_succ, List.getElem?_cons_zero]; rfl) (yields_run (by rfl) ?_) ?_; rotate_left; (focus (intro w' hw'; obtain ⟨q0, q64, q1, q127, r1, r2⟩ := hw'; go_simp <;> with_reducible rfl)); (simp only [Act.put, List.setIfInBounds_toArray, List.set_cons_zero, List.set_cons_succ]))
      (refine plan3_take (o := ?_) (v := ?_) (by simp only [List.getElem?_toArray, List.getElem?_cons_succ, List.getElem?_cons_zero]; rfl) (yields_run (by rfl) ?_) ?_; rotate_left; (focus (intro w' hw'; obtain ⟨q0, q64, q1, q127, r1, r2⟩ := hw'; go_simp <;> with_reducible rfl)); (simp only [Act.put, List.setIfInBounds_toArray, List.set_cons_zero, List.set_cons_succ]))
      (refine plan3_take (o := ?_) (v := ?_) (by simp only [List.getElem?_toArray, List.getElem?_cons_succ, List.getElem?_cons_zero]; rfl) (yields_run (by rfl) ?_) ?_; rotate_left; (focus (intro w' hw'; obtain ⟨q0, q64, q1, q127, r1, r2⟩ := hw'; go_simp <;> with_reducible rfl)); (simp only [Act.put, List.setIfInBounds_toArray, List.set_cons_zero, List.set_cons_succ]))
      (refine plan3_take (o := ?_) (v := ?_) (by simp only [List.getElem?_toArray, List.getElem?_cons_succ, List.getElem?_cons_zero]; rfl) (yields_run (by rfl) ?_) ?_; rotate_left; (focus (intro w' hw'; obtain ⟨q0, q64, q1, q127, r1, r2⟩ := hw'; go_simp <;> with_reducible rfl)); (simp only [Act.put, List.setIfInBounds_toArray, List.set_cons_zero, List.set_cons_succ]))
      (refine plan3_take (o := ?_) (v := ?_) (by simp only [List.getElem?_toArray, List.getElem?_cons_succ, List.getElem?_cons_zero]; rfl) (yields_run (by rfl) ?_) ?_; rotate_left; (focus (intro w' hw'; obtain ⟨q0, q64, q1, q127, r1, r2⟩ := hw'; go_simp <;> with_reducible rfl)); (simp only [Act.put, List.setIfInBounds_toArray, List.set_cons_zero, List.set_cons_succ]))
      (refine plan3_take (o := ?_) (v := ?_) (by simp only [List.getElem?_toArray, List.getElem?_cons_succ, List.getElem?_cons_zero]; rfl) (yields_run (by rfl) ?_) ?_; rotate_left; (focus (intro w' hw'; obtain ⟨q0, q64, q1, q127, r1, r2⟩ := hw'; go_simp <;> with_reducible rfl)); (simp only [Act.put, List.setIfInBounds_toArray, List.set_cons_zero, List.set_cons_succ]))
      (refine plan3_take (o := ?_) (v := ?_) (by simp only [List.getElem?_toArray, List.getElem?_cons_succ, List.getElem?_cons_zero]; rfl) (yields_run (by rfl) ?_) ?_; rotate_left; (focus (intro w' hw'; obtain ⟨q0, q64, q1, q127, r1, r2⟩ := hw'; go_simp <;> with_reducible rfl)); (simp only [Act.put, List.setIfInBounds_toArray, List.set_cons_zero, List.set_cons_succ]))
      (refine plan3_take (o := ?_) (v := ?_) (by simp only [List.getElem?_toArray, List.getElem?_cons_succ, List.getElem?_cons_zero]; rfl) (yields_run (by rfl) ?_) ?_; rotate_left; (focus (intro w' hw'; obtain ⟨q0, q64, q1, q127, r1, r2⟩ := hw'; go_simp <;> with_reducible rfl)); (simp only [Act.put, List.setIfInBounds_toArray, List.set_cons_zero, List.set_cons_succ]))
      (refine plan3_take (o := ?_) (v := ?_) (by simp only [List.getElem?_toArray, List.getElem?_cons_succ, List.getElem?_cons_zero]; rfl) (yields_run (by rfl) ?_) ?_; rotate_left; (focus (intro w' hw'; obtain ⟨q0, q64, q1, q127, r1, r2⟩ := hw'; go_simp <;> with_reducible rfl)); (simp only [Act.put, List.setIfInBounds_toArray, List.set_cons_zero, List.set_cons_succ]))
      (refine plan3_take (o := ?_) (v := ?_) (by simp only [List.getElem?_toArray, List.getElem?_cons_succ, List.getElem?_cons_zero]; rfl) (yields_run (by rfl) ?_) ?_; rotate_left; (focus (intro w' hw'; obtain ⟨q0, q64, q1, q127, r1, r2⟩ := hw'; go_simp <;> with_reducible rfl)); (simp only [Act.put, List.setIfInBounds_toArray, List.set_cons_zero, List.set_cons_succ]))
      (refine plan3_take (o := ?_) (v := ?_) (by simp only [List.getElem?_toArray, List.getElem?_cons_succ, List.getElem?_cons_zero]; rfl) (yields_run (by rfl) ?_) ?_; rotate_left; (focus (intro w' hw'; obtain ⟨q0, q64, q1, q127, r1, r2⟩ := hw'; go_simp <;> with_reducible rfl)); (simp only [Act.put, List.setIfInBounds_toArray, List.set_cons_zero, List.set_cons_succ]))
      (refine plan3_take (o := ?_) (v := ?_) (by simp only [List.getElem?_toArray, List.getElem?_cons_succ, List.getElem?_cons_zero]; rfl) (yields_run (by rfl) ?_) ?_; rotate_left; (focus (intro w' hw'; obtain ⟨q0, q64, q1, q127, r1, r2⟩ := hw'; go_simp <;> with_reducible rfl)); (simp only [Act.put, List.setIfInBounds_toArray, List.set_cons_zero, List.set_cons_succ]))
      (refine plan3_take (o := ?_) (v := ?_) (by simp only [List.getElem?_toArray, List.getElem?_cons_succ, List.getElem?_cons_zero]; rfl) (yields_run (by rfl) ?_) ?_; rotate_left; (focus (intro w' hw'; obtain ⟨q0, q64, q1, q127, r1, r2⟩ := hw'; go_simp <;> with_reducible rfl)); (simp only [Act.put, List.setIfInBounds_toArray, List.set_cons_zero, List.set_cons_succ]))
      (refine plan3_take (o := ?_) (v := ?_) (by simp only [List.getElem?_toArray, List.getElem?_cons_succ, List.getElem?_cons_zero]; rfl) (yields_run (by rfl) ?_) ?_; rotate_left; (focus (intro w' hw'; obtain ⟨q0, q64, q1, q127, r1, r2⟩ := hw'; go_simp <;> with_reducible rfl)); (simp only [Act.put, List.setIfInBounds_toArray, List.set_cons_zero, List.set_cons_succ]))
      (refine plan3_take (o := ?_) (v := ?_) (by simp only [List.getElem?_toArray, List.getElem?_cons_succ, List.getElem?_cons_zero]; rfl) (yields_run (by rfl) ?_) ?_; rotate_left; (focus (intro w' hw'; obtain ⟨q0, q64, q1, q127, r1, r2⟩ := hw'; go_simp <;> with_reducible rfl)); (simp only [Act.put, List.setIfInBounds_toArray, List.set_cons_zero, List.set_cons_succ]))
      (refine plan3_take (o := ?_) (v := ?_) (by simp only [List.getElem?_toArray, List.getElem?_cons_succ, List.getElem?_cons_zero]; rfl) (yields_run (by rfl) ?_) ?_; rotate_left; (focus (intro w' hw'; obtain ⟨q0, q64, q1, q127, r1, r2⟩ := hw'; go_simp <;> with_reducible rfl)); (simp only [Act.put, List.setIfInBounds_toArray, List.set_cons_zero, List.set_cons_succ]))
      (refine plan3_take (o := ?_) (v := ?_) (by simp only [List.getElem?_toArray, List.getElem?_cons_succ, List.getElem?_cons_zero]; rfl) (yields_run (by rfl) ?_) ?_; rotate_left; (focus (intro w' hw'; obtain ⟨q0, q64, q1, q127, r1, r2⟩ := hw'; go_simp <;> with_reducible rfl)); (simp only [Act.put, List.setIfInBounds_toArray, List.set_cons_zero, List.set_cons_succ]))
      refine plan3_done ?_
      go_wp2_with fail
      go_roundw
      case rel => exact ⟨k + 1, by omega, by go_num, hide ⟨HE2.out.1, HE2.out.2.1, HE2.out.2.2.1, below_one HE2.out.2.2.2 (Below.refl _ _).drew⟩⟩
      case measure => simp [intOf]; omega
    · obtain rfl : k = 4 := by omega
      go_wp2_with fail
      go_ret
      exact ⟨rfl, HE.out.2.2.2⟩
end Go.Proofs.Ytfhfmnlkpcmgfaa
