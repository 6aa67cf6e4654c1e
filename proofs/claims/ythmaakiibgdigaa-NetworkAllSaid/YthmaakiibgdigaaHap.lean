/- What happens, by one move. -/
import Derived.Test.YthmaakiibgdigaaLst
namespace Go.Proofs.Ythmaakiibgdigaa
open Go.RowKit
variable {ok : Nat → Prop}
theorem hap_u8 (p : Nat) (h : p < 200) : IntKind.u8.wrap (p : Int) = (p : Int) := by
  simp [IntKind.wrap, IntKind.signed, IntKind.bits]; omega
theorem hap_i64 (p : Nat) (h : p < 200) : I64 (p : Int) := by unfold I64; omega
def Nt.pick (n : Nt) (m : Mv) : Nat := if n.q.length = 0 then 0 else m.which.toNat % n.q.length
def Nt.happ (n : Nt) (m : Mv) : Pk × Nt × Int :=
  match m.how.toNat % 6 with
  | 0 => (Pk.zero, n.send ⟨(m.fr.toNat % 24 : Nat), (m.to.toNat % 24 : Nat), [m.byte]⟩)
  | 1 => n.give (n.pick m : Nat)
  | 2 => (Pk.zero, n.lose (n.pick m : Nat))
  | 3 => (Pk.zero, n.again (n.pick m : Nat))
  | 4 => (Pk.zero, n.cut (m.fr.toNat % 24 : Nat) (m.to.toNat % 24 : Nat) true)
  | _ => (Pk.zero, n.cut (m.fr.toNat % 24 : Nat) (m.to.toNat % 24 : Nat) false)
theorem hap_cases (n : Nt) (m : Mv) {i f2 t2 h2 : Nat} (hi : i = n.pick m) (hf : f2 = m.fr.toNat % 24) (ht : t2 = m.to.toNat % 24) (hh : h2 = m.how.toNat % 6) :
    (h2 = 0 → n.happ m = (Pk.zero, n.send ⟨f2, t2, [m.byte]⟩)) ∧ (h2 = 1 → n.happ m = n.give i) ∧ (h2 = 2 → n.happ m = (Pk.zero, n.lose i)) ∧ (h2 = 3 → n.happ m = (Pk.zero, n.again i)) ∧ (h2 = 4 → n.happ m = (Pk.zero, n.cut f2 t2 true)) ∧ (h2 = 5 → n.happ m = (Pk.zero, n.cut f2 t2 false)) := by
  subst hi hf ht hh
  refine ⟨?_, ?_, ?_, ?_, ?_, ?_⟩ <;> (intro h; unfold Nt.happ; rw [h]; try rfl)
/-- What it answers. -/
def AnsH (ok : Nat → Prop) (w : World) (x : Pk × Nt × Int) (e : Ending) (w' : World) : Prop := ∃ (p : Pkt) (n : Net), e = .returned (.tuple #[n.v, p.v, .int .i64 x.2.2]) ∧ p.d = x.1 ∧ n.d = x.2.1 ∧ p.In ok w' ∧ n.In ok w' ∧ Below w.heap.size w w'
theorem hap_fin {w : World} {x : Pk × Nt × Int} (n' : Net) (q : Pkt) (k : Int) (v3 : World) (hx : x = (q.d, n'.d, k)) (hqi : q.In (okX ok w.heap.size (w.heap.size + 4)) v3) (hin : n'.In (okX ok w.heap.size (w.heap.size + 4)) v3) (hb : Below w.heap.size w v3) :
    AnsH ok w x (.returned (.tuple #[.agg #[.slice n'.q.A n'.q.l.length n'.q.cap, .slice n'.a.A n'.a.l.length n'.a.cap], .agg #[.int .i64 q.fr, .int .i64 q.to, .slice q.s.A q.s.l.length q.s.cap], .int .i64 k])) ((v3.setRow (w.heap.size + 2) #[.slice n'.q.A n'.q.l.length n'.q.cap, .slice n'.a.A n'.a.l.length n'.a.cap]).setRow (w.heap.size + 3) #[.int .i64 q.fr, .int .i64 q.to, .slice q.s.A q.s.l.length q.s.cap]) := by
  have hk : Kept (okX ok w.heap.size (w.heap.size + 4)) v3 ((v3.setRow (w.heap.size + 2) #[.slice n'.q.A n'.q.l.length n'.q.cap, .slice n'.a.A n'.a.l.length n'.a.cap]).setRow (w.heap.size + 3) #[.int .i64 q.fr, .int .i64 q.to, .slice q.s.A q.s.l.length q.s.cap]) := (Kept.row (okX_not (by omega) (by omega)) _).trans (Kept.row (okX_not (by omega) (by omega)) _)
  exact ⟨q, n', by rw [hx], by rw [hx], by rw [hx], (hqi.keep hk).weak okX_ok, (hin.keep hk).weak okX_ok, below_setRow (below_setRow hb (by omega) _) (by omega) _⟩
theorem hap_c5 {w : World} {X T : Nat} {v0 v1 v2 v3 v4 : Value} (h : Blk w X T [v0, v1, v2, v3, v4]) : w.cell? ⟨X, 0, none⟩ = some v0 ∧ w.cell? ⟨X, 1, none⟩ = some v1 ∧ w.cell? ⟨X, 2, none⟩ = some v2 ∧ w.cell? ⟨X, 3, none⟩ = some v3 ∧ w.cell? ⟨X, 4, none⟩ = some v4 := ⟨h.cell 0, h.cell 1, h.cell 2, h.cell 3, h.cell 4⟩
theorem hap_boxes (n : Net) (m : Mv) (w : World) : Blk ((((w.alloc (.cells #[.slice n.q.A n.q.l.length n.q.cap, .slice n.a.A n.a.l.length n.a.cap] 25)).alloc (.cells #[.int .u8 (m.how.toNat : Nat), .int .u8 (m.which.toNat : Nat), .int .u8 (m.fr.toNat : Nat), .int .u8 (m.to.toNat : Nat), .int .u8 (m.byte.toNat : Nat)] 49)).alloc (.cells #[.slice none 0 0, .slice none 0 0] 25)).alloc (.cells #[.int .i64 0, .int .i64 0, .slice none 0 0] 28)) w.heap.size 25 [.slice n.q.A n.q.l.length n.q.cap, .slice n.a.A n.a.l.length n.a.cap] ∧ Blk ((((w.alloc (.cells #[.slice n.q.A n.q.l.length n.q.cap, .slice n.a.A n.a.l.length n.a.cap] 25)).alloc (.cells #[.int .u8 (m.how.toNat : Nat), .int .u8 (m.which.toNat : Nat), .int .u8 (m.fr.toNat : Nat), .int .u8 (m.to.toNat : Nat), .int .u8 (m.byte.toNat : Nat)] 49)).alloc (.cells #[.slice none 0 0, .slice none 0 0] 25)).alloc (.cells #[.int .i64 0, .int .i64 0, .slice none 0 0] 28)) (w.heap.size + 1) 49 [.int .u8 (m.how.toNat : Nat), .int .u8 (m.which.toNat : Nat), .int .u8 (m.fr.toNat : Nat), .int .u8 (m.to.toNat : Nat), .int .u8 (m.byte.toNat : Nat)] ∧ Blk ((((w.alloc (.cells #[.slice n.q.A n.q.l.length n.q.cap, .slice n.a.A n.a.l.length n.a.cap] 25)).alloc (.cells #[.int .u8 (m.how.toNat : Nat), .int .u8 (m.which.toNat : Nat), .int .u8 (m.fr.toNat : Nat), .int .u8 (m.to.toNat : Nat), .int .u8 (m.byte.toNat : Nat)] 49)).alloc (.cells #[.slice none 0 0, .slice none 0 0] 25)).alloc (.cells #[.int .i64 0, .int .i64 0, .slice none 0 0] 28)) (w.heap.size + 2) 25 [.slice none 0 0, .slice none 0 0] ∧ Blk ((((w.alloc (.cells #[.slice n.q.A n.q.l.length n.q.cap, .slice n.a.A n.a.l.length n.a.cap] 25)).alloc (.cells #[.int .u8 (m.how.toNat : Nat), .int .u8 (m.which.toNat : Nat), .int .u8 (m.fr.toNat : Nat), .int .u8 (m.to.toNat : Nat), .int .u8 (m.byte.toNat : Nat)] 49)).alloc (.cells #[.slice none 0 0, .slice none 0 0] 25)).alloc (.cells #[.int .i64 0, .int .i64 0, .slice none 0 0] 28)) (w.heap.size + 3) 28 [.int .i64 0, .int .i64 0, .slice none 0 0] ∧ Below w.heap.size w ((((w.alloc (.cells #[.slice n.q.A n.q.l.length n.q.cap, .slice n.a.A n.a.l.length n.a.cap] 25)).alloc (.cells #[.int .u8 (m.how.toNat : Nat), .int .u8 (m.which.toNat : Nat), .int .u8 (m.fr.toNat : Nat), .int .u8 (m.to.toNat : Nat), .int .u8 (m.byte.toNat : Nat)] 49)).alloc (.cells #[.slice none 0 0, .slice none 0 0] 25)).alloc (.cells #[.int .i64 0, .int .i64 0, .slice none 0 0] 28)) ∧ w.heap.size + 4 ≤ (((((w.alloc (.cells #[.slice n.q.A n.q.l.length n.q.cap, .slice n.a.A n.a.l.length n.a.cap] 25)).alloc (.cells #[.int .u8 (m.how.toNat : Nat), .int .u8 (m.which.toNat : Nat), .int .u8 (m.fr.toNat : Nat), .int .u8 (m.to.toNat : Nat), .int .u8 (m.byte.toNat : Nat)] 49)).alloc (.cells #[.slice none 0 0, .slice none 0 0] 25)).alloc (.cells #[.int .i64 0, .int .i64 0, .slice none 0 0] 28))).heap.size := by
  obtain ⟨h0, h1, h2, h3, h4, h5⟩ := four w n.cs [.int .u8 (m.how.toNat : Nat), .int .u8 (m.which.toNat : Nat), .int .u8 (m.fr.toNat : Nat), .int .u8 (m.to.toNat : Nat), .int .u8 (m.byte.toNat : Nat)] [.slice none 0 0, .slice none 0 0] [.int .i64 0, .int .i64 0, .slice none 0 0] 25 49 25 28 rfl
  exact ⟨h0, h1, h2, h3, h5, Nat.le_of_eq h4.symm⟩

set_option maxRecDepth 100000 in
set_option maxHeartbeats 12800000 in
theorem happens_any (n : Net) (m : Mv) (w : World) (hok : ∀ b, w.heap.size ≤ b → ok b) (hi : n.In ok w) : Calls Try.prog 27 #[n.v, m.v] w (AnsH ok w (n.d.happ m)) := by
  have H4 := hide (hap_boxes n m w)
  have HI := hide (hi.weak (okX_old (b := w.heap.size + 4)))
  have HNEW := hide (show ∀ x, w.heap.size + 4 ≤ x → okX ok w.heap.size (w.heap.size + 4) x from okX_new hok (by omega))
  skip
  have b1 := m.how.toNat_lt
  have b2 := m.which.toNat_lt
  have b3 := m.fr.toNat_lt
  have b4 := m.to.toNat_lt
  obtain ⟨f2, hf2⟩ : ∃ f2, f2 = m.fr.toNat % 24 := ⟨_, rfl⟩
  obtain ⟨t2, ht2'⟩ : ∃ t2, t2 = m.to.toNat % 24 := ⟨_, rfl⟩
  obtain ⟨h2, hh2⟩ : ∃ h2, h2 = m.how.toNat % 6 := ⟨_, rfl⟩
  have hf24 : f2 < 24 := by omega
  have ht24 : t2 < 24 := by omega
  have hw1 : IntKind.i64.wrap (m.which.toNat : Int) = (m.which.toNat : Int) := wrapi_small _ (by omega)
  have hw2 : IntKind.i64.wrap (m.fr.toNat : Int) = (m.fr.toNat : Int) := wrapi_small _ (by omega)
  have hw3 : IntKind.i64.wrap (m.to.toNat : Int) = (m.to.toNat : Int) := wrapi_small _ (by omega)
  have ht1 : (m.fr.toNat : Int).tmod 24 = (f2 : Int) := by rw [Int.tmod_eq_emod_of_nonneg (by omega), hf2]; omega
  have htt : (m.to.toNat : Int).tmod 24 = (t2 : Int) := by rw [Int.tmod_eq_emod_of_nonneg (by omega), ht2']; omega
  have ht3 : (m.how.toNat : Int).tmod 6 = (h2 : Int) := by rw [Int.tmod_eq_emod_of_nonneg (by omega), hh2]; omega
  have hw4 : IntKind.i64.wrap (f2 : Int) = (f2 : Int) := wrapi_small _ (by omega)
  have hw5 : IntKind.i64.wrap (t2 : Int) = (t2 : Int) := wrapi_small _ (by omega)
  have hw6 : IntKind.u8.wrap (h2 : Int) = (h2 : Int) := hap_u8 _ (by omega)
  have HH := hide (And.intro hf2 (And.intro ht2' hh2))
  obtain ⟨c0, c1⟩ := H4.out.1.c2
  obtain ⟨d0, d1, d2, d3, d4⟩ := hap_c5 H4.out.2.1
  clear hi
  go_enter Try.func27, Try.ntmps27
  by_cases hl : n.q.l.length = 0
  · obtain ⟨i, hi0⟩ : ∃ i : Nat, i = 0 := ⟨_, rfl⟩
    have hx := hap_cases n.d m (i := i) (by rw [hi0]; unfold Nt.pick; rw [if_pos (by rw [net_len]; exact hl)]) hf2 ht2' hh2
    have hl' : ¬ ((0 : Int) < (n.q.l.length : Int)) := by omega
    have hiz : (i : Int) = 0 := by rw [hi0]; rfl
    clear hl hi0
    clear hf2 ht2' hh2
    go_upto_region 4 with (fail)
    generalize hw4e : ((((w.alloc (.cells #[.slice n.q.A n.q.l.length n.q.cap, .slice n.a.A n.a.l.length n.a.cap] 25)).alloc (.cells #[.int .u8 (m.how.toNat : Nat), .int .u8 (m.which.toNat : Nat), .int .u8 (m.fr.toNat : Nat), .int .u8 (m.to.toNat : Nat), .int .u8 (m.byte.toNat : Nat)] 49)).alloc (.cells #[.slice none 0 0, .slice none 0 0] 25)).alloc (.cells #[.int .i64 0, .int .i64 0, .slice none 0 0] 28)) = w4 at *
    clear hw4e c0 c1 d0 d1 d2 d3 d4
    refine wp_region_plan4 (fun W => Below w4.heap.size w4 W) (.take 0 (.take 1 (.take 2 (.take 3 (.take 4 (.take 5 (.take 6 (.take 7 (.run 8 (.run 9 .done)))))))))) (by kernel_rfl) (by kernel_rfl) ((Below.refl _ _).drew) ?_
    have HV2 := hide (show Blk w4.drew w.heap.size 25 _ from H4.out.1)
    have HV3 := hide (show Blk w4.drew (w.heap.size + 1) 49 _ from H4.out.2.1)
    have HV4 := hide (show Blk w4.drew (w.heap.size + 2) 25 _ from H4.out.2.2.1)
    have HV5 := hide (show Blk w4.drew (w.heap.size + 3) 28 _ from H4.out.2.2.2.1)
    have HVK := hide (show Below w.heap.size w w4.drew from H4.out.2.2.2.2.1.drew)
    have HVZ := hide (show w.heap.size + 4 ≤ w4.drew.heap.size from H4.out.2.2.2.2.2)
    have HB0 := hide (show Below w4.heap.size w4 w4.drew from (Below.refl _ _).drew)
    have HC5 := hide (fun W (hW : Below w4.heap.size w4 W) => hap_c5 (H4.out.2.1.below hW H4.out.2.1.lt))
    generalize w4.drew = v0 at *
    have HNI := hide (HI.out.below HVK.out)
    (refine plan4_take (o := ?_) (v := ?_) (by simp only [List.getElem?_toArray, List.getElem?_cons_zero]; rfl) (yields_run (by rfl) ?_) ?_; rotate_left; (focus (intro w' hw'; obtain ⟨e0, e1, e2, e3, e4⟩ := HC5.out w' hw'; go_simp <;> with_reducible rfl)); (simp only [Act.put, List.setIfInBounds_toArray, List.set_cons_zero, List.set_cons_succ]))
    (refine plan4_take (o := ?_) (v := ?_) (by simp only [List.getElem?_toArray, List.getElem?_cons_succ, List.getElem?_cons_zero]; rfl) (yields_run (by rfl) ?_) ?_; rotate_left; (focus (intro w' hw'; obtain ⟨e0, e1, e2, e3, e4⟩ := HC5.out w' hw'; go_simp <;> with_reducible rfl)); (simp only [Act.put, List.setIfInBounds_toArray, List.set_cons_zero, List.set_cons_succ]))
    (refine plan4_take (o := ?_) (v := ?_) (by simp only [List.getElem?_toArray, List.getElem?_cons_succ, List.getElem?_cons_zero]; rfl) (yields_run (by rfl) ?_) ?_; rotate_left; (focus (intro w' hw'; obtain ⟨e0, e1, e2, e3, e4⟩ := HC5.out w' hw'; go_simp <;> with_reducible rfl)); (simp only [Act.put, List.setIfInBounds_toArray, List.set_cons_zero, List.set_cons_succ]))
    (refine plan4_take (o := ?_) (v := ?_) (by simp only [List.getElem?_toArray, List.getElem?_cons_succ, List.getElem?_cons_zero]; rfl) (yields_run (by rfl) ?_) ?_; rotate_left; (focus (intro w' hw'; obtain ⟨e0, e1, e2, e3, e4⟩ := HC5.out w' hw'; go_simp <;> with_reducible rfl)); (simp only [Act.put, List.setIfInBounds_toArray, List.set_cons_zero, List.set_cons_succ]))
    (refine plan4_take (o := ?_) (v := ?_) (by simp only [List.getElem?_toArray, List.getElem?_cons_succ, List.getElem?_cons_zero]; rfl) (yields_run (by rfl) ?_) ?_; rotate_left; (focus (intro w' hw'; obtain ⟨e0, e1, e2, e3, e4⟩ := HC5.out w' hw'; go_simp <;> with_reducible rfl)); (simp only [Act.put, List.setIfInBounds_toArray, List.set_cons_zero, List.set_cons_succ]))
    (refine plan4_take (o := ?_) (v := ?_) (by simp only [List.getElem?_toArray, List.getElem?_cons_succ, List.getElem?_cons_zero]; rfl) (yields_run (by rfl) ?_) ?_; rotate_left; (focus (intro w' hw'; obtain ⟨e0, e1, e2, e3, e4⟩ := HC5.out w' hw'; go_simp <;> with_reducible rfl)); (simp only [Act.put, List.setIfInBounds_toArray, List.set_cons_zero, List.set_cons_succ]))
    (refine plan4_take (o := ?_) (v := ?_) (by simp only [List.getElem?_toArray, List.getElem?_cons_succ, List.getElem?_cons_zero]; rfl) (yields_run (by rfl) ?_) ?_; rotate_left; (focus (intro w' hw'; obtain ⟨e0, e1, e2, e3, e4⟩ := HC5.out w' hw'; go_simp <;> with_reducible rfl)); (simp only [Act.put, List.setIfInBounds_toArray, List.set_cons_zero, List.set_cons_succ]))
    (refine plan4_take (o := ?_) (v := ?_) (by simp only [List.getElem?_toArray, List.getElem?_cons_succ, List.getElem?_cons_zero]; rfl) (yields_run (by rfl) ?_) ?_; rotate_left; (focus (intro w' hw'; obtain ⟨e0, e1, e2, e3, e4⟩ := HC5.out w' hw'; go_simp <;> with_reducible rfl)); (simp only [Act.put, List.setIfInBounds_toArray, List.set_cons_zero, List.set_cons_succ]))
    refine plan4_run (o := ?_) (by simp only [List.getElem?_toArray, List.getElem?_cons_succ, List.getElem?_cons_zero]; rfl) ?_
    intro R HR
    go_wp2_with fail
    refine HR.out _ _ HB0.out ?_
    clear HR
    refine plan4_run (o := ?_) (by simp only [List.getElem?_toArray, List.getElem?_cons_succ, List.getElem?_cons_zero]; rfl) ?_
    intro R HR
    go_wp2_with fail
    refine HR.out _ _ HB0.out ?_
    clear HR
    refine plan4_done ?_
    skip
    clear HB0 HC5 H4 HI
    obtain ⟨c0, c1⟩ := HV2.out.c2
    obtain ⟨d0, d1, d2, d3, d4⟩ := hap_c5 HV3.out
    have h26 : h2 < 6 := by have := HH.out; omega
    have HHX := hide hx
    clear hx
    obtain rfl | rfl | rfl | rfl | rfl | rfl : h2 = 0 ∨ h2 = 1 ∨ h2 = 2 ∨ h2 = 3 ∨ h2 = 4 ∨ h2 = 5 := by omega
    · have HBN := hide (Blk.new v0 5 [.int .u8 (m.byte.toNat : Nat)])
      have HPI := hide (show Pkt.In (okX ok w.heap.size (w.heap.size + 4)) ⟨f2, t2, ⟨some ⟨v0.heap.size, 0, none⟩, [m.byte], 1⟩⟩ (v0.alloc (.cells #[.int .u8 (m.byte.toNat : Nat)] 5)) from ⟨blk_sl HBN.out rfl (Nat.le_refl _) (by decide) (HNEW.out _ HVZ.out), hap_i64 _ (by omega), hap_i64 _ (by omega)⟩)
      skip
      obtain ⟨x, hx0⟩ : ∃ x, x = n.d.send ⟨f2, t2, [m.byte]⟩ := ⟨_, rfl⟩
      have HX := hide (show n.d.happ m = (Pk.zero, x.1, x.2) from (HHX.out.1 rfl).trans (by rw [hx0]))
      have HCC := hide (send_is (n := n) (p := ⟨f2, t2, ⟨some ⟨v0.heap.size, 0, none⟩, [m.byte], 1⟩⟩) (x := x.1) (k := x.2) (by rw [hx0]; rfl) (v0.alloc (.cells #[.int .u8 (m.byte.toNat : Nat)] 5)) (fun b hb => HNEW.out b (Nat.le_trans HVZ.out (Nat.le_trans (by simp) hb))) (HNI.out.below (below_new _ _)) HPI.out)
      clear hx0
      replace HCC := hide (show Calls Try.prog 11 #[n.v, .agg #[.int .i64 f2, .int .i64 t2, .slice (some ⟨v0.heap.size, 0, none⟩) 1 1]] _ _ from HCC.out)
      have below_pre : ∀ {v}, Below (v0.alloc (.cells #[.int .u8 (m.byte.toNat : Nat)] 5)).heap.size (v0.alloc (.cells #[.int .u8 (m.byte.toNat : Nat)] 5)) v → Below v0.heap.size v0 v := fun hb => below_one (below_new _ _) hb
      go_wp2_with fail
      with_reducible refine (HCC.out).mono ?_
      rintro e vB ⟨n', rfl, hd, hin, hb⟩
      have HDD := hide hd
      have HIN := hide hin
      have HBB := hide (below_pre hb)
      have HR4 := hide (HV4.out.below HBB.out HV4.out.lt)
      have HR5 := hide (HV5.out.below HBB.out HV5.out.lt)
      have HKB := hide (below_one HVK.out HBB.out)
      clear hd hin hb
      go_wp2_with (refine wpList_store_row rfl 25 (.tmp 4) (.tmp 43) rfl _ #[.slice n'.q.A n'.q.l.length n'.q.cap, .slice n'.a.A n'.a.l.length n'.a.cap] rfl rfl 25 _ HR4.out Try.size25 rfl (one25 _ _ _ _ _ _) ?_)
      have H4E := hide (HR4.out.row [.slice n'.q.A n'.q.l.length n'.q.cap, .slice n'.a.A n'.a.l.length n'.a.cap])
      have H5E := hide (HR5.out.far (Y := w.heap.size + 2) (by omega) #[.slice n'.q.A n'.q.l.length n'.q.cap, .slice n'.a.A n'.a.l.length n'.a.cap])
      have HKE := hide (below_setRow HKB.out (show w.heap.size ≤ w.heap.size + 2 by omega) #[.slice n'.q.A n'.q.l.length n'.q.cap, .slice n'.a.A n'.a.l.length n'.a.cap])
      have HNE := hide (HIN.out.keep (Kept.row (X := w.heap.size + 2) (okX_not (by omega) (by omega)) #[.slice n'.q.A n'.q.l.length n'.q.cap, .slice n'.a.A n'.a.l.length n'.a.cap]))
      have HPE := hide (show Pkt.In (okX ok w.heap.size (w.heap.size + 4)) ⟨0, 0, ⟨none, [], 0⟩⟩ (vB.setRow (w.heap.size + 2) #[.slice n'.q.A n'.q.l.length n'.q.cap, .slice n'.a.A n'.a.l.length n'.a.cap]) from ⟨SlIn.none _, by unfold I64; decide, by unfold I64; decide⟩)
      generalize hvE : (vB.setRow (w.heap.size + 2) #[.slice n'.q.A n'.q.l.length n'.q.cap, .slice n'.a.A n'.a.l.length n'.a.cap]) = vE at *
      clear hvE
      refine wp_region_plan4 (fun W => Blk W (w.heap.size + 2) 25 [.slice n'.q.A n'.q.l.length n'.q.cap, .slice n'.a.A n'.a.l.length n'.a.cap] ∧ Blk W (w.heap.size + 3) 28 [.int .i64 0, .int .i64 0, .slice none 0 0]) (.take 0 (.take 1 (.take 2 (.run 3 (.run 4 (.run 5 .done)))))) (by kernel_rfl) (by kernel_rfl) ⟨H4E.out.drew, H5E.out.drew⟩ ?_
      have HD4 := hide (show Blk vE.drew (w.heap.size + 2) 25 [.slice n'.q.A n'.q.l.length n'.q.cap, .slice n'.a.A n'.a.l.length n'.a.cap] from H4E.out.drew)
      have HD5 := hide (show Blk vE.drew (w.heap.size + 3) 28 [.int .i64 0, .int .i64 0, .slice none 0 0] from H5E.out.drew)
      have HKD := hide (show Below w.heap.size w vE.drew from HKE.out.drew)
      have HND := hide (show n'.In (okX ok w.heap.size (w.heap.size + 4)) vE.drew from HNE.out.below (Below.refl _ _).drew)
      have HPD := hide (show Pkt.In (okX ok w.heap.size (w.heap.size + 4)) ⟨0, 0, ⟨none, [], 0⟩⟩ vE.drew from HPE.out.below (Below.refl _ _).drew)
      clear H4E H5E HKE HNE HPE
      generalize vE.drew = vD at *
      (refine plan4_take (o := ?_) (v := ?_) (by simp only [List.getElem?_toArray, List.getElem?_cons_zero]; rfl) (yields_run (by rfl) ?_) ?_; rotate_left; (focus (intro w' hw'; obtain ⟨e0, e1⟩ := hw'.1.c2; obtain ⟨f0, f1, f2⟩ := hw'.2.c3; go_simp <;> with_reducible rfl)); (simp only [Act.put, List.setIfInBounds_toArray, List.set_cons_zero, List.set_cons_succ]))
      (refine plan4_take (o := ?_) (v := ?_) (by simp only [List.getElem?_toArray, List.getElem?_cons_succ, List.getElem?_cons_zero]; rfl) (yields_run (by rfl) ?_) ?_; rotate_left; (focus (intro w' hw'; obtain ⟨e0, e1⟩ := hw'.1.c2; obtain ⟨f0, f1, f2⟩ := hw'.2.c3; go_simp <;> with_reducible rfl)); (simp only [Act.put, List.setIfInBounds_toArray, List.set_cons_zero, List.set_cons_succ]))
      (refine plan4_take (o := ?_) (v := ?_) (by simp only [List.getElem?_toArray, List.getElem?_cons_succ, List.getElem?_cons_zero]; rfl) (yields_run (by rfl) ?_) ?_; rotate_left; (focus (intro w' hw'; obtain ⟨e0, e1⟩ := hw'.1.c2; obtain ⟨f0, f1, f2⟩ := hw'.2.c3; go_simp <;> with_reducible rfl)); (simp only [Act.put, List.setIfInBounds_toArray, List.set_cons_zero, List.set_cons_succ]))
      refine plan4_run (o := ?_) (by simp only [List.getElem?_toArray, List.getElem?_cons_succ, List.getElem?_cons_zero]; rfl) ?_
      intro R HR
      have HE4 := hide (HD4.out.row [.slice n'.q.A n'.q.l.length n'.q.cap, .slice n'.a.A n'.a.l.length n'.a.cap])
      have HE5 := hide (HD5.out.far (Y := w.heap.size + 2) (by omega) #[.slice n'.q.A n'.q.l.length n'.q.cap, .slice n'.a.A n'.a.l.length n'.a.cap])
      refine wpList_store_row rfl 25 (.tmp 4) (.tmp 88) rfl _ #[.slice n'.q.A n'.q.l.length n'.q.cap, .slice n'.a.A n'.a.l.length n'.a.cap] rfl rfl 25 _ HD4.out Try.size25 rfl (one25 _ _ _ _ _ _) ?_
      refine HR.out _ _ ⟨HE4.out, HE5.out⟩ ?_
      clear HR
      refine plan4_run (o := ?_) (by simp only [List.getElem?_toArray, List.getElem?_cons_succ, List.getElem?_cons_zero]; rfl) ?_
      intro R HR
      have HG4 := hide (HE4.out.far (Y := w.heap.size + 3) (by omega) #[.int .i64 0, .int .i64 0, .slice none 0 0])
      have HG5 := hide (HE5.out.row [.int .i64 0, .int .i64 0, .slice none 0 0])
      refine wpList_store_row rfl 28 (.tmp 5) (.tmp 89) rfl _ #[.int .i64 0, .int .i64 0, .slice none 0 0] rfl rfl 28 _ HE5.out Try.size28 rfl (one28 _ _ _ _ _) ?_
      refine HR.out _ _ ⟨HG4.out, HG5.out⟩ ?_
      clear HR
      refine plan4_run (o := ?_) (by simp only [List.getElem?_toArray, List.getElem?_cons_succ, List.getElem?_cons_zero]; rfl) ?_
      intro R HR
      go_wp2_with fail
      refine HR.out _ _ ⟨HG4.out, HG5.out⟩ ?_
      clear HR
      refine plan4_done ?_
      go_wp2_with fail
      refine bodyPost_ret (v := .tuple #[.agg #[.slice n'.q.A n'.q.l.length n'.q.cap, .slice n'.a.A n'.a.l.length n'.a.cap], .agg #[.int .i64 0, .int .i64 0, .slice none 0 0], .int .i64 x.2]) (results_cell_cell_tmp rfl _ _ (w.heap.size + 2) 25 #[.slice n'.q.A n'.q.l.length n'.q.cap, .slice n'.a.A n'.a.l.length n'.a.cap] (0, 0) _ (w.heap.size + 3) 28 #[.int .i64 0, .int .i64 0, .slice none 0 0] (0, 0) _ (.int .i64 x.2) rfl rfl rfl HG4.out HG5.out Try.underlying25 rfl Try.size25 Try.underlying28 rfl Try.size28) rfl ?_
      exact hap_fin n' ⟨0, 0, ⟨none, [], 0⟩⟩ x.2 vD (HX.out.trans (by rw [← HDD.out]; rfl)) HPD.out HND.out HKD.out
    · obtain ⟨x, hx0⟩ : ∃ x, x = n.d.give i := ⟨_, rfl⟩
      have HX := hide (show n.d.happ m = (x.1, x.2.1, x.2.2) from (HHX.out.2.1 rfl).trans (by rw [hx0]))
      have HCC := hide (give_is (n := n) (i := (i : Int)) (p := x.1) (x := x.2.1) (k := x.2.2) (by rw [hx0]) v0 (fun b hb => HNEW.out b (Nat.le_trans HVZ.out hb)) HNI.out)
      clear hx0
      rw [hiz] at HCC
      go_wp2_with fail
      with_reducible refine HCC.out.mono ?_
      rintro e vB ⟨p', n', rfl, hdp, hd, hip, hin, hb⟩
      have HDP := hide hdp
      have HDD := hide hd
      have HIP := hide hip
      have HIN := hide hin
      have HR4 := hide (HV4.out.below hb HV4.out.lt)
      have HR5 := hide (HV5.out.below hb HV5.out.lt)
      have HKB := hide (below_one HVK.out hb)
      clear hdp hd hip hin hb
      have HS4 := hide (HR4.out.far (Y := w.heap.size + 3) (by omega) #[.int .i64 p'.fr, .int .i64 p'.to, .slice p'.s.A p'.s.l.length p'.s.cap])
      have HS5 := hide (HR5.out.row [.int .i64 p'.fr, .int .i64 p'.to, .slice p'.s.A p'.s.l.length p'.s.cap])
      go_wp2_with (first | (refine wpList_store_row rfl 28 (.tmp 5) (.tmp 51) rfl _ #[.int .i64 p'.fr, .int .i64 p'.to, .slice p'.s.A p'.s.l.length p'.s.cap] rfl rfl 28 _ HR5.out Try.size28 rfl (one28 _ _ _ _ _) ?_) | (refine wpList_store_row rfl 25 (.tmp 4) (.tmp 52) rfl _ #[.slice n'.q.A n'.q.l.length n'.q.cap, .slice n'.a.A n'.a.l.length n'.a.cap] rfl rfl 25 _ HS4.out Try.size25 rfl (one25 _ _ _ _ _ _) ?_))
      have H4E := hide (HS4.out.row [.slice n'.q.A n'.q.l.length n'.q.cap, .slice n'.a.A n'.a.l.length n'.a.cap])
      have H5E := hide (HS5.out.far (Y := w.heap.size + 2) (by omega) #[.slice n'.q.A n'.q.l.length n'.q.cap, .slice n'.a.A n'.a.l.length n'.a.cap])
      have HKE := hide (below_setRow (below_setRow HKB.out (show w.heap.size ≤ w.heap.size + 3 by omega) #[.int .i64 p'.fr, .int .i64 p'.to, .slice p'.s.A p'.s.l.length p'.s.cap]) (show w.heap.size ≤ w.heap.size + 2 by omega) #[.slice n'.q.A n'.q.l.length n'.q.cap, .slice n'.a.A n'.a.l.length n'.a.cap])
      have HKP := hide (show Kept (okX ok w.heap.size (w.heap.size + 4)) vB ((vB.setRow (w.heap.size + 3) #[.int .i64 p'.fr, .int .i64 p'.to, .slice p'.s.A p'.s.l.length p'.s.cap]).setRow (w.heap.size + 2) #[.slice n'.q.A n'.q.l.length n'.q.cap, .slice n'.a.A n'.a.l.length n'.a.cap]) from (Kept.row (X := w.heap.size + 3) (okX_not (by omega) (by omega)) #[.int .i64 p'.fr, .int .i64 p'.to, .slice p'.s.A p'.s.l.length p'.s.cap]).trans (Kept.row (X := w.heap.size + 2) (okX_not (by omega) (by omega)) #[.slice n'.q.A n'.q.l.length n'.q.cap, .slice n'.a.A n'.a.l.length n'.a.cap]))
      have HNE := hide (HIN.out.keep HKP.out)
      have HPE := hide (HIP.out.keep HKP.out)
      generalize hvE : ((vB.setRow (w.heap.size + 3) #[.int .i64 p'.fr, .int .i64 p'.to, .slice p'.s.A p'.s.l.length p'.s.cap]).setRow (w.heap.size + 2) #[.slice n'.q.A n'.q.l.length n'.q.cap, .slice n'.a.A n'.a.l.length n'.a.cap]) = vE at *
      clear hvE
      refine wp_region_plan4 (fun W => Blk W (w.heap.size + 2) 25 [.slice n'.q.A n'.q.l.length n'.q.cap, .slice n'.a.A n'.a.l.length n'.a.cap] ∧ Blk W (w.heap.size + 3) 28 [.int .i64 p'.fr, .int .i64 p'.to, .slice p'.s.A p'.s.l.length p'.s.cap]) (.take 0 (.take 1 (.take 2 (.run 3 (.run 4 (.run 5 .done)))))) (by kernel_rfl) (by kernel_rfl) ⟨H4E.out.drew, H5E.out.drew⟩ ?_
      have HD4 := hide (show Blk vE.drew (w.heap.size + 2) 25 [.slice n'.q.A n'.q.l.length n'.q.cap, .slice n'.a.A n'.a.l.length n'.a.cap] from H4E.out.drew)
      have HD5 := hide (show Blk vE.drew (w.heap.size + 3) 28 [.int .i64 p'.fr, .int .i64 p'.to, .slice p'.s.A p'.s.l.length p'.s.cap] from H5E.out.drew)
      have HKD := hide (show Below w.heap.size w vE.drew from HKE.out.drew)
      have HND := hide (show n'.In (okX ok w.heap.size (w.heap.size + 4)) vE.drew from HNE.out.below (Below.refl _ _).drew)
      have HPD := hide (show Pkt.In (okX ok w.heap.size (w.heap.size + 4)) p' vE.drew from HPE.out.below (Below.refl _ _).drew)
      clear H4E H5E HKE HNE HPE
      generalize vE.drew = vD at *
      (refine plan4_take (o := ?_) (v := ?_) (by simp only [List.getElem?_toArray, List.getElem?_cons_zero]; rfl) (yields_run (by rfl) ?_) ?_; rotate_left; (focus (intro w' hw'; obtain ⟨e0, e1⟩ := hw'.1.c2; obtain ⟨f0, f1, f2⟩ := hw'.2.c3; go_simp <;> with_reducible rfl)); (simp only [Act.put, List.setIfInBounds_toArray, List.set_cons_zero, List.set_cons_succ]))
      (refine plan4_take (o := ?_) (v := ?_) (by simp only [List.getElem?_toArray, List.getElem?_cons_succ, List.getElem?_cons_zero]; rfl) (yields_run (by rfl) ?_) ?_; rotate_left; (focus (intro w' hw'; obtain ⟨e0, e1⟩ := hw'.1.c2; obtain ⟨f0, f1, f2⟩ := hw'.2.c3; go_simp <;> with_reducible rfl)); (simp only [Act.put, List.setIfInBounds_toArray, List.set_cons_zero, List.set_cons_succ]))
      (refine plan4_take (o := ?_) (v := ?_) (by simp only [List.getElem?_toArray, List.getElem?_cons_succ, List.getElem?_cons_zero]; rfl) (yields_run (by rfl) ?_) ?_; rotate_left; (focus (intro w' hw'; obtain ⟨e0, e1⟩ := hw'.1.c2; obtain ⟨f0, f1, f2⟩ := hw'.2.c3; go_simp <;> with_reducible rfl)); (simp only [Act.put, List.setIfInBounds_toArray, List.set_cons_zero, List.set_cons_succ]))
      refine plan4_run (o := ?_) (by simp only [List.getElem?_toArray, List.getElem?_cons_succ, List.getElem?_cons_zero]; rfl) ?_
      intro R HR
      have HE4 := hide (HD4.out.row [.slice n'.q.A n'.q.l.length n'.q.cap, .slice n'.a.A n'.a.l.length n'.a.cap])
      have HE5 := hide (HD5.out.far (Y := w.heap.size + 2) (by omega) #[.slice n'.q.A n'.q.l.length n'.q.cap, .slice n'.a.A n'.a.l.length n'.a.cap])
      refine wpList_store_row rfl 25 (.tmp 4) (.tmp 88) rfl _ #[.slice n'.q.A n'.q.l.length n'.q.cap, .slice n'.a.A n'.a.l.length n'.a.cap] rfl rfl 25 _ HD4.out Try.size25 rfl (one25 _ _ _ _ _ _) ?_
      refine HR.out _ _ ⟨HE4.out, HE5.out⟩ ?_
      clear HR
      refine plan4_run (o := ?_) (by simp only [List.getElem?_toArray, List.getElem?_cons_succ, List.getElem?_cons_zero]; rfl) ?_
      intro R HR
      have HG4 := hide (HE4.out.far (Y := w.heap.size + 3) (by omega) #[.int .i64 p'.fr, .int .i64 p'.to, .slice p'.s.A p'.s.l.length p'.s.cap])
      have HG5 := hide (HE5.out.row [.int .i64 p'.fr, .int .i64 p'.to, .slice p'.s.A p'.s.l.length p'.s.cap])
      refine wpList_store_row rfl 28 (.tmp 5) (.tmp 89) rfl _ #[.int .i64 p'.fr, .int .i64 p'.to, .slice p'.s.A p'.s.l.length p'.s.cap] rfl rfl 28 _ HE5.out Try.size28 rfl (one28 _ _ _ _ _) ?_
      refine HR.out _ _ ⟨HG4.out, HG5.out⟩ ?_
      clear HR
      refine plan4_run (o := ?_) (by simp only [List.getElem?_toArray, List.getElem?_cons_succ, List.getElem?_cons_zero]; rfl) ?_
      intro R HR
      go_wp2_with fail
      refine HR.out _ _ ⟨HG4.out, HG5.out⟩ ?_
      clear HR
      refine plan4_done ?_
      go_wp2_with fail
      refine bodyPost_ret (v := .tuple #[.agg #[.slice n'.q.A n'.q.l.length n'.q.cap, .slice n'.a.A n'.a.l.length n'.a.cap], .agg #[.int .i64 p'.fr, .int .i64 p'.to, .slice p'.s.A p'.s.l.length p'.s.cap], .int .i64 x.2.2]) (results_cell_cell_tmp rfl _ _ (w.heap.size + 2) 25 #[.slice n'.q.A n'.q.l.length n'.q.cap, .slice n'.a.A n'.a.l.length n'.a.cap] (0, 0) _ (w.heap.size + 3) 28 #[.int .i64 p'.fr, .int .i64 p'.to, .slice p'.s.A p'.s.l.length p'.s.cap] (0, 0) _ (.int .i64 x.2.2) rfl rfl rfl HG4.out HG5.out Try.underlying25 rfl Try.size25 Try.underlying28 rfl Try.size28) rfl ?_
      exact hap_fin n' p' x.2.2 vD (HX.out.trans (by rw [← HDP.out, ← HDD.out])) HPD.out HND.out HKD.out
    · obtain ⟨x, hx0⟩ : ∃ x, x = n.d.lose i := ⟨_, rfl⟩
      have HX := hide (show n.d.happ m = (Pk.zero, x.1, x.2) from (HHX.out.2.2.1 rfl).trans (by rw [hx0]))
      have HCC := hide (lose_is (n := n) (i := (i : Int)) (x := x.1) (k := x.2) (by rw [hx0]) v0 (fun b hb => HNEW.out b (Nat.le_trans HVZ.out hb)) HNI.out)
      clear hx0
      rw [hiz] at HCC
      have below_pre : ∀ {v}, Below v0.heap.size v0 v → Below v0.heap.size v0 v := fun hb => hb
      go_wp2_with fail
      with_reducible refine (HCC.out).mono ?_
      rintro e vB ⟨n', rfl, hd, hin, hb⟩
      have HDD := hide hd
      have HIN := hide hin
      have HBB := hide (below_pre hb)
      have HR4 := hide (HV4.out.below HBB.out HV4.out.lt)
      have HR5 := hide (HV5.out.below HBB.out HV5.out.lt)
      have HKB := hide (below_one HVK.out HBB.out)
      clear hd hin hb
      go_wp2_with (refine wpList_store_row rfl 25 (.tmp 4) (.tmp 60) rfl _ #[.slice n'.q.A n'.q.l.length n'.q.cap, .slice n'.a.A n'.a.l.length n'.a.cap] rfl rfl 25 _ HR4.out Try.size25 rfl (one25 _ _ _ _ _ _) ?_)
      have H4E := hide (HR4.out.row [.slice n'.q.A n'.q.l.length n'.q.cap, .slice n'.a.A n'.a.l.length n'.a.cap])
      have H5E := hide (HR5.out.far (Y := w.heap.size + 2) (by omega) #[.slice n'.q.A n'.q.l.length n'.q.cap, .slice n'.a.A n'.a.l.length n'.a.cap])
      have HKE := hide (below_setRow HKB.out (show w.heap.size ≤ w.heap.size + 2 by omega) #[.slice n'.q.A n'.q.l.length n'.q.cap, .slice n'.a.A n'.a.l.length n'.a.cap])
      have HNE := hide (HIN.out.keep (Kept.row (X := w.heap.size + 2) (okX_not (by omega) (by omega)) #[.slice n'.q.A n'.q.l.length n'.q.cap, .slice n'.a.A n'.a.l.length n'.a.cap]))
      have HPE := hide (show Pkt.In (okX ok w.heap.size (w.heap.size + 4)) ⟨0, 0, ⟨none, [], 0⟩⟩ (vB.setRow (w.heap.size + 2) #[.slice n'.q.A n'.q.l.length n'.q.cap, .slice n'.a.A n'.a.l.length n'.a.cap]) from ⟨SlIn.none _, by unfold I64; decide, by unfold I64; decide⟩)
      generalize hvE : (vB.setRow (w.heap.size + 2) #[.slice n'.q.A n'.q.l.length n'.q.cap, .slice n'.a.A n'.a.l.length n'.a.cap]) = vE at *
      clear hvE
      refine wp_region_plan4 (fun W => Blk W (w.heap.size + 2) 25 [.slice n'.q.A n'.q.l.length n'.q.cap, .slice n'.a.A n'.a.l.length n'.a.cap] ∧ Blk W (w.heap.size + 3) 28 [.int .i64 0, .int .i64 0, .slice none 0 0]) (.take 0 (.take 1 (.take 2 (.run 3 (.run 4 (.run 5 .done)))))) (by kernel_rfl) (by kernel_rfl) ⟨H4E.out.drew, H5E.out.drew⟩ ?_
      have HD4 := hide (show Blk vE.drew (w.heap.size + 2) 25 [.slice n'.q.A n'.q.l.length n'.q.cap, .slice n'.a.A n'.a.l.length n'.a.cap] from H4E.out.drew)
      have HD5 := hide (show Blk vE.drew (w.heap.size + 3) 28 [.int .i64 0, .int .i64 0, .slice none 0 0] from H5E.out.drew)
      have HKD := hide (show Below w.heap.size w vE.drew from HKE.out.drew)
      have HND := hide (show n'.In (okX ok w.heap.size (w.heap.size + 4)) vE.drew from HNE.out.below (Below.refl _ _).drew)
      have HPD := hide (show Pkt.In (okX ok w.heap.size (w.heap.size + 4)) ⟨0, 0, ⟨none, [], 0⟩⟩ vE.drew from HPE.out.below (Below.refl _ _).drew)
      clear H4E H5E HKE HNE HPE
      generalize vE.drew = vD at *
      (refine plan4_take (o := ?_) (v := ?_) (by simp only [List.getElem?_toArray, List.getElem?_cons_zero]; rfl) (yields_run (by rfl) ?_) ?_; rotate_left; (focus (intro w' hw'; obtain ⟨e0, e1⟩ := hw'.1.c2; obtain ⟨f0, f1, f2⟩ := hw'.2.c3; go_simp <;> with_reducible rfl)); (simp only [Act.put, List.setIfInBounds_toArray, List.set_cons_zero, List.set_cons_succ]))
      (refine plan4_take (o := ?_) (v := ?_) (by simp only [List.getElem?_toArray, List.getElem?_cons_succ, List.getElem?_cons_zero]; rfl) (yields_run (by rfl) ?_) ?_; rotate_left; (focus (intro w' hw'; obtain ⟨e0, e1⟩ := hw'.1.c2; obtain ⟨f0, f1, f2⟩ := hw'.2.c3; go_simp <;> with_reducible rfl)); (simp only [Act.put, List.setIfInBounds_toArray, List.set_cons_zero, List.set_cons_succ]))
      (refine plan4_take (o := ?_) (v := ?_) (by simp only [List.getElem?_toArray, List.getElem?_cons_succ, List.getElem?_cons_zero]; rfl) (yields_run (by rfl) ?_) ?_; rotate_left; (focus (intro w' hw'; obtain ⟨e0, e1⟩ := hw'.1.c2; obtain ⟨f0, f1, f2⟩ := hw'.2.c3; go_simp <;> with_reducible rfl)); (simp only [Act.put, List.setIfInBounds_toArray, List.set_cons_zero, List.set_cons_succ]))
      refine plan4_run (o := ?_) (by simp only [List.getElem?_toArray, List.getElem?_cons_succ, List.getElem?_cons_zero]; rfl) ?_
      intro R HR
      have HE4 := hide (HD4.out.row [.slice n'.q.A n'.q.l.length n'.q.cap, .slice n'.a.A n'.a.l.length n'.a.cap])
      have HE5 := hide (HD5.out.far (Y := w.heap.size + 2) (by omega) #[.slice n'.q.A n'.q.l.length n'.q.cap, .slice n'.a.A n'.a.l.length n'.a.cap])
      refine wpList_store_row rfl 25 (.tmp 4) (.tmp 88) rfl _ #[.slice n'.q.A n'.q.l.length n'.q.cap, .slice n'.a.A n'.a.l.length n'.a.cap] rfl rfl 25 _ HD4.out Try.size25 rfl (one25 _ _ _ _ _ _) ?_
      refine HR.out _ _ ⟨HE4.out, HE5.out⟩ ?_
      clear HR
      refine plan4_run (o := ?_) (by simp only [List.getElem?_toArray, List.getElem?_cons_succ, List.getElem?_cons_zero]; rfl) ?_
      intro R HR
      have HG4 := hide (HE4.out.far (Y := w.heap.size + 3) (by omega) #[.int .i64 0, .int .i64 0, .slice none 0 0])
      have HG5 := hide (HE5.out.row [.int .i64 0, .int .i64 0, .slice none 0 0])
      refine wpList_store_row rfl 28 (.tmp 5) (.tmp 89) rfl _ #[.int .i64 0, .int .i64 0, .slice none 0 0] rfl rfl 28 _ HE5.out Try.size28 rfl (one28 _ _ _ _ _) ?_
      refine HR.out _ _ ⟨HG4.out, HG5.out⟩ ?_
      clear HR
      refine plan4_run (o := ?_) (by simp only [List.getElem?_toArray, List.getElem?_cons_succ, List.getElem?_cons_zero]; rfl) ?_
      intro R HR
      go_wp2_with fail
      refine HR.out _ _ ⟨HG4.out, HG5.out⟩ ?_
      clear HR
      refine plan4_done ?_
      go_wp2_with fail
      refine bodyPost_ret (v := .tuple #[.agg #[.slice n'.q.A n'.q.l.length n'.q.cap, .slice n'.a.A n'.a.l.length n'.a.cap], .agg #[.int .i64 0, .int .i64 0, .slice none 0 0], .int .i64 x.2]) (results_cell_cell_tmp rfl _ _ (w.heap.size + 2) 25 #[.slice n'.q.A n'.q.l.length n'.q.cap, .slice n'.a.A n'.a.l.length n'.a.cap] (0, 0) _ (w.heap.size + 3) 28 #[.int .i64 0, .int .i64 0, .slice none 0 0] (0, 0) _ (.int .i64 x.2) rfl rfl rfl HG4.out HG5.out Try.underlying25 rfl Try.size25 Try.underlying28 rfl Try.size28) rfl ?_
      exact hap_fin n' ⟨0, 0, ⟨none, [], 0⟩⟩ x.2 vD (HX.out.trans (by rw [← HDD.out]; rfl)) HPD.out HND.out HKD.out
    · obtain ⟨x, hx0⟩ : ∃ x, x = n.d.again i := ⟨_, rfl⟩
      have HX := hide (show n.d.happ m = (Pk.zero, x.1, x.2) from (HHX.out.2.2.2.1 rfl).trans (by rw [hx0]))
      have HCC := hide (again_is (n := n) (i := (i : Int)) (x := x.1) (k := x.2) (by rw [hx0]) v0 (fun b hb => HNEW.out b (Nat.le_trans HVZ.out hb)) HNI.out)
      clear hx0
      rw [hiz] at HCC
      have below_pre : ∀ {v}, Below v0.heap.size v0 v → Below v0.heap.size v0 v := fun hb => hb
      go_wp2_with fail
      with_reducible refine (HCC.out).mono ?_
      rintro e vB ⟨n', rfl, hd, hin, hb⟩
      have HDD := hide hd
      have HIN := hide hin
      have HBB := hide (below_pre hb)
      have HR4 := hide (HV4.out.below HBB.out HV4.out.lt)
      have HR5 := hide (HV5.out.below HBB.out HV5.out.lt)
      have HKB := hide (below_one HVK.out HBB.out)
      clear hd hin hb
      go_wp2_with (refine wpList_store_row rfl 25 (.tmp 4) (.tmp 68) rfl _ #[.slice n'.q.A n'.q.l.length n'.q.cap, .slice n'.a.A n'.a.l.length n'.a.cap] rfl rfl 25 _ HR4.out Try.size25 rfl (one25 _ _ _ _ _ _) ?_)
      have H4E := hide (HR4.out.row [.slice n'.q.A n'.q.l.length n'.q.cap, .slice n'.a.A n'.a.l.length n'.a.cap])
      have H5E := hide (HR5.out.far (Y := w.heap.size + 2) (by omega) #[.slice n'.q.A n'.q.l.length n'.q.cap, .slice n'.a.A n'.a.l.length n'.a.cap])
      have HKE := hide (below_setRow HKB.out (show w.heap.size ≤ w.heap.size + 2 by omega) #[.slice n'.q.A n'.q.l.length n'.q.cap, .slice n'.a.A n'.a.l.length n'.a.cap])
      have HNE := hide (HIN.out.keep (Kept.row (X := w.heap.size + 2) (okX_not (by omega) (by omega)) #[.slice n'.q.A n'.q.l.length n'.q.cap, .slice n'.a.A n'.a.l.length n'.a.cap]))
      have HPE := hide (show Pkt.In (okX ok w.heap.size (w.heap.size + 4)) ⟨0, 0, ⟨none, [], 0⟩⟩ (vB.setRow (w.heap.size + 2) #[.slice n'.q.A n'.q.l.length n'.q.cap, .slice n'.a.A n'.a.l.length n'.a.cap]) from ⟨SlIn.none _, by unfold I64; decide, by unfold I64; decide⟩)
      generalize hvE : (vB.setRow (w.heap.size + 2) #[.slice n'.q.A n'.q.l.length n'.q.cap, .slice n'.a.A n'.a.l.length n'.a.cap]) = vE at *
      clear hvE
      refine wp_region_plan4 (fun W => Blk W (w.heap.size + 2) 25 [.slice n'.q.A n'.q.l.length n'.q.cap, .slice n'.a.A n'.a.l.length n'.a.cap] ∧ Blk W (w.heap.size + 3) 28 [.int .i64 0, .int .i64 0, .slice none 0 0]) (.take 0 (.take 1 (.take 2 (.run 3 (.run 4 (.run 5 .done)))))) (by kernel_rfl) (by kernel_rfl) ⟨H4E.out.drew, H5E.out.drew⟩ ?_
      have HD4 := hide (show Blk vE.drew (w.heap.size + 2) 25 [.slice n'.q.A n'.q.l.length n'.q.cap, .slice n'.a.A n'.a.l.length n'.a.cap] from H4E.out.drew)
      have HD5 := hide (show Blk vE.drew (w.heap.size + 3) 28 [.int .i64 0, .int .i64 0, .slice none 0 0] from H5E.out.drew)
      have HKD := hide (show Below w.heap.size w vE.drew from HKE.out.drew)
      have HND := hide (show n'.In (okX ok w.heap.size (w.heap.size + 4)) vE.drew from HNE.out.below (Below.refl _ _).drew)
      have HPD := hide (show Pkt.In (okX ok w.heap.size (w.heap.size + 4)) ⟨0, 0, ⟨none, [], 0⟩⟩ vE.drew from HPE.out.below (Below.refl _ _).drew)
      clear H4E H5E HKE HNE HPE
      generalize vE.drew = vD at *
      (refine plan4_take (o := ?_) (v := ?_) (by simp only [List.getElem?_toArray, List.getElem?_cons_zero]; rfl) (yields_run (by rfl) ?_) ?_; rotate_left; (focus (intro w' hw'; obtain ⟨e0, e1⟩ := hw'.1.c2; obtain ⟨f0, f1, f2⟩ := hw'.2.c3; go_simp <;> with_reducible rfl)); (simp only [Act.put, List.setIfInBounds_toArray, List.set_cons_zero, List.set_cons_succ]))
      (refine plan4_take (o := ?_) (v := ?_) (by simp only [List.getElem?_toArray, List.getElem?_cons_succ, List.getElem?_cons_zero]; rfl) (yields_run (by rfl) ?_) ?_; rotate_left; (focus (intro w' hw'; obtain ⟨e0, e1⟩ := hw'.1.c2; obtain ⟨f0, f1, f2⟩ := hw'.2.c3; go_simp <;> with_reducible rfl)); (simp only [Act.put, List.setIfInBounds_toArray, List.set_cons_zero, List.set_cons_succ]))
      (refine plan4_take (o := ?_) (v := ?_) (by simp only [List.getElem?_toArray, List.getElem?_cons_succ, List.getElem?_cons_zero]; rfl) (yields_run (by rfl) ?_) ?_; rotate_left; (focus (intro w' hw'; obtain ⟨e0, e1⟩ := hw'.1.c2; obtain ⟨f0, f1, f2⟩ := hw'.2.c3; go_simp <;> with_reducible rfl)); (simp only [Act.put, List.setIfInBounds_toArray, List.set_cons_zero, List.set_cons_succ]))
      refine plan4_run (o := ?_) (by simp only [List.getElem?_toArray, List.getElem?_cons_succ, List.getElem?_cons_zero]; rfl) ?_
      intro R HR
      have HE4 := hide (HD4.out.row [.slice n'.q.A n'.q.l.length n'.q.cap, .slice n'.a.A n'.a.l.length n'.a.cap])
      have HE5 := hide (HD5.out.far (Y := w.heap.size + 2) (by omega) #[.slice n'.q.A n'.q.l.length n'.q.cap, .slice n'.a.A n'.a.l.length n'.a.cap])
      refine wpList_store_row rfl 25 (.tmp 4) (.tmp 88) rfl _ #[.slice n'.q.A n'.q.l.length n'.q.cap, .slice n'.a.A n'.a.l.length n'.a.cap] rfl rfl 25 _ HD4.out Try.size25 rfl (one25 _ _ _ _ _ _) ?_
      refine HR.out _ _ ⟨HE4.out, HE5.out⟩ ?_
      clear HR
      refine plan4_run (o := ?_) (by simp only [List.getElem?_toArray, List.getElem?_cons_succ, List.getElem?_cons_zero]; rfl) ?_
      intro R HR
      have HG4 := hide (HE4.out.far (Y := w.heap.size + 3) (by omega) #[.int .i64 0, .int .i64 0, .slice none 0 0])
      have HG5 := hide (HE5.out.row [.int .i64 0, .int .i64 0, .slice none 0 0])
      refine wpList_store_row rfl 28 (.tmp 5) (.tmp 89) rfl _ #[.int .i64 0, .int .i64 0, .slice none 0 0] rfl rfl 28 _ HE5.out Try.size28 rfl (one28 _ _ _ _ _) ?_
      refine HR.out _ _ ⟨HG4.out, HG5.out⟩ ?_
      clear HR
      refine plan4_run (o := ?_) (by simp only [List.getElem?_toArray, List.getElem?_cons_succ, List.getElem?_cons_zero]; rfl) ?_
      intro R HR
      go_wp2_with fail
      refine HR.out _ _ ⟨HG4.out, HG5.out⟩ ?_
      clear HR
      refine plan4_done ?_
      go_wp2_with fail
      refine bodyPost_ret (v := .tuple #[.agg #[.slice n'.q.A n'.q.l.length n'.q.cap, .slice n'.a.A n'.a.l.length n'.a.cap], .agg #[.int .i64 0, .int .i64 0, .slice none 0 0], .int .i64 x.2]) (results_cell_cell_tmp rfl _ _ (w.heap.size + 2) 25 #[.slice n'.q.A n'.q.l.length n'.q.cap, .slice n'.a.A n'.a.l.length n'.a.cap] (0, 0) _ (w.heap.size + 3) 28 #[.int .i64 0, .int .i64 0, .slice none 0 0] (0, 0) _ (.int .i64 x.2) rfl rfl rfl HG4.out HG5.out Try.underlying25 rfl Try.size25 Try.underlying28 rfl Try.size28) rfl ?_
      exact hap_fin n' ⟨0, 0, ⟨none, [], 0⟩⟩ x.2 vD (HX.out.trans (by rw [← HDD.out]; rfl)) HPD.out HND.out HKD.out
    · obtain ⟨x, hx0⟩ : ∃ x, x = n.d.cut f2 t2 true := ⟨_, rfl⟩
      have HX := hide (show n.d.happ m = (Pk.zero, x.1, x.2) from (HHX.out.2.2.2.2.1 rfl).trans (by rw [hx0]))
      have HCC := hide (cut_is (n := n) (a := (f2 : Int)) (b := (t2 : Int)) (on := true) (x := x.1) (k := x.2) (by rw [hx0]) v0 (fun b hb => HNEW.out b (Nat.le_trans HVZ.out hb)) HNI.out)
      clear hx0
      have below_pre : ∀ {v}, Below v0.heap.size v0 v → Below v0.heap.size v0 v := fun hb => hb
      go_wp2_with fail
      with_reducible refine (HCC.out).mono ?_
      rintro e vB ⟨n', rfl, hd, hin, hb⟩
      have HDD := hide hd
      have HIN := hide hin
      have HBB := hide (below_pre hb)
      have HR4 := hide (HV4.out.below HBB.out HV4.out.lt)
      have HR5 := hide (HV5.out.below HBB.out HV5.out.lt)
      have HKB := hide (below_one HVK.out HBB.out)
      clear hd hin hb
      go_wp2_with (refine wpList_store_row rfl 25 (.tmp 4) (.tmp 77) rfl _ #[.slice n'.q.A n'.q.l.length n'.q.cap, .slice n'.a.A n'.a.l.length n'.a.cap] rfl rfl 25 _ HR4.out Try.size25 rfl (one25 _ _ _ _ _ _) ?_)
      have H4E := hide (HR4.out.row [.slice n'.q.A n'.q.l.length n'.q.cap, .slice n'.a.A n'.a.l.length n'.a.cap])
      have H5E := hide (HR5.out.far (Y := w.heap.size + 2) (by omega) #[.slice n'.q.A n'.q.l.length n'.q.cap, .slice n'.a.A n'.a.l.length n'.a.cap])
      have HKE := hide (below_setRow HKB.out (show w.heap.size ≤ w.heap.size + 2 by omega) #[.slice n'.q.A n'.q.l.length n'.q.cap, .slice n'.a.A n'.a.l.length n'.a.cap])
      have HNE := hide (HIN.out.keep (Kept.row (X := w.heap.size + 2) (okX_not (by omega) (by omega)) #[.slice n'.q.A n'.q.l.length n'.q.cap, .slice n'.a.A n'.a.l.length n'.a.cap]))
      have HPE := hide (show Pkt.In (okX ok w.heap.size (w.heap.size + 4)) ⟨0, 0, ⟨none, [], 0⟩⟩ (vB.setRow (w.heap.size + 2) #[.slice n'.q.A n'.q.l.length n'.q.cap, .slice n'.a.A n'.a.l.length n'.a.cap]) from ⟨SlIn.none _, by unfold I64; decide, by unfold I64; decide⟩)
      generalize hvE : (vB.setRow (w.heap.size + 2) #[.slice n'.q.A n'.q.l.length n'.q.cap, .slice n'.a.A n'.a.l.length n'.a.cap]) = vE at *
      clear hvE
      refine wp_region_plan4 (fun W => Blk W (w.heap.size + 2) 25 [.slice n'.q.A n'.q.l.length n'.q.cap, .slice n'.a.A n'.a.l.length n'.a.cap] ∧ Blk W (w.heap.size + 3) 28 [.int .i64 0, .int .i64 0, .slice none 0 0]) (.take 0 (.take 1 (.take 2 (.run 3 (.run 4 (.run 5 .done)))))) (by kernel_rfl) (by kernel_rfl) ⟨H4E.out.drew, H5E.out.drew⟩ ?_
      have HD4 := hide (show Blk vE.drew (w.heap.size + 2) 25 [.slice n'.q.A n'.q.l.length n'.q.cap, .slice n'.a.A n'.a.l.length n'.a.cap] from H4E.out.drew)
      have HD5 := hide (show Blk vE.drew (w.heap.size + 3) 28 [.int .i64 0, .int .i64 0, .slice none 0 0] from H5E.out.drew)
      have HKD := hide (show Below w.heap.size w vE.drew from HKE.out.drew)
      have HND := hide (show n'.In (okX ok w.heap.size (w.heap.size + 4)) vE.drew from HNE.out.below (Below.refl _ _).drew)
      have HPD := hide (show Pkt.In (okX ok w.heap.size (w.heap.size + 4)) ⟨0, 0, ⟨none, [], 0⟩⟩ vE.drew from HPE.out.below (Below.refl _ _).drew)
      clear H4E H5E HKE HNE HPE
      generalize vE.drew = vD at *
      (refine plan4_take (o := ?_) (v := ?_) (by simp only [List.getElem?_toArray, List.getElem?_cons_zero]; rfl) (yields_run (by rfl) ?_) ?_; rotate_left; (focus (intro w' hw'; obtain ⟨e0, e1⟩ := hw'.1.c2; obtain ⟨f0, f1, f2⟩ := hw'.2.c3; go_simp <;> with_reducible rfl)); (simp only [Act.put, List.setIfInBounds_toArray, List.set_cons_zero, List.set_cons_succ]))
      (refine plan4_take (o := ?_) (v := ?_) (by simp only [List.getElem?_toArray, List.getElem?_cons_succ, List.getElem?_cons_zero]; rfl) (yields_run (by rfl) ?_) ?_; rotate_left; (focus (intro w' hw'; obtain ⟨e0, e1⟩ := hw'.1.c2; obtain ⟨f0, f1, f2⟩ := hw'.2.c3; go_simp <;> with_reducible rfl)); (simp only [Act.put, List.setIfInBounds_toArray, List.set_cons_zero, List.set_cons_succ]))
      (refine plan4_take (o := ?_) (v := ?_) (by simp only [List.getElem?_toArray, List.getElem?_cons_succ, List.getElem?_cons_zero]; rfl) (yields_run (by rfl) ?_) ?_; rotate_left; (focus (intro w' hw'; obtain ⟨e0, e1⟩ := hw'.1.c2; obtain ⟨f0, f1, f2⟩ := hw'.2.c3; go_simp <;> with_reducible rfl)); (simp only [Act.put, List.setIfInBounds_toArray, List.set_cons_zero, List.set_cons_succ]))
      refine plan4_run (o := ?_) (by simp only [List.getElem?_toArray, List.getElem?_cons_succ, List.getElem?_cons_zero]; rfl) ?_
      intro R HR
      have HE4 := hide (HD4.out.row [.slice n'.q.A n'.q.l.length n'.q.cap, .slice n'.a.A n'.a.l.length n'.a.cap])
      have HE5 := hide (HD5.out.far (Y := w.heap.size + 2) (by omega) #[.slice n'.q.A n'.q.l.length n'.q.cap, .slice n'.a.A n'.a.l.length n'.a.cap])
      refine wpList_store_row rfl 25 (.tmp 4) (.tmp 88) rfl _ #[.slice n'.q.A n'.q.l.length n'.q.cap, .slice n'.a.A n'.a.l.length n'.a.cap] rfl rfl 25 _ HD4.out Try.size25 rfl (one25 _ _ _ _ _ _) ?_
      refine HR.out _ _ ⟨HE4.out, HE5.out⟩ ?_
      clear HR
      refine plan4_run (o := ?_) (by simp only [List.getElem?_toArray, List.getElem?_cons_succ, List.getElem?_cons_zero]; rfl) ?_
      intro R HR
      have HG4 := hide (HE4.out.far (Y := w.heap.size + 3) (by omega) #[.int .i64 0, .int .i64 0, .slice none 0 0])
      have HG5 := hide (HE5.out.row [.int .i64 0, .int .i64 0, .slice none 0 0])
      refine wpList_store_row rfl 28 (.tmp 5) (.tmp 89) rfl _ #[.int .i64 0, .int .i64 0, .slice none 0 0] rfl rfl 28 _ HE5.out Try.size28 rfl (one28 _ _ _ _ _) ?_
      refine HR.out _ _ ⟨HG4.out, HG5.out⟩ ?_
      clear HR
      refine plan4_run (o := ?_) (by simp only [List.getElem?_toArray, List.getElem?_cons_succ, List.getElem?_cons_zero]; rfl) ?_
      intro R HR
      go_wp2_with fail
      refine HR.out _ _ ⟨HG4.out, HG5.out⟩ ?_
      clear HR
      refine plan4_done ?_
      go_wp2_with fail
      refine bodyPost_ret (v := .tuple #[.agg #[.slice n'.q.A n'.q.l.length n'.q.cap, .slice n'.a.A n'.a.l.length n'.a.cap], .agg #[.int .i64 0, .int .i64 0, .slice none 0 0], .int .i64 x.2]) (results_cell_cell_tmp rfl _ _ (w.heap.size + 2) 25 #[.slice n'.q.A n'.q.l.length n'.q.cap, .slice n'.a.A n'.a.l.length n'.a.cap] (0, 0) _ (w.heap.size + 3) 28 #[.int .i64 0, .int .i64 0, .slice none 0 0] (0, 0) _ (.int .i64 x.2) rfl rfl rfl HG4.out HG5.out Try.underlying25 rfl Try.size25 Try.underlying28 rfl Try.size28) rfl ?_
      exact hap_fin n' ⟨0, 0, ⟨none, [], 0⟩⟩ x.2 vD (HX.out.trans (by rw [← HDD.out]; rfl)) HPD.out HND.out HKD.out
    · obtain ⟨x, hx0⟩ : ∃ x, x = n.d.cut f2 t2 false := ⟨_, rfl⟩
      have HX := hide (show n.d.happ m = (Pk.zero, x.1, x.2) from (HHX.out.2.2.2.2.2 rfl).trans (by rw [hx0]))
      have HCC := hide (cut_is (n := n) (a := (f2 : Int)) (b := (t2 : Int)) (on := false) (x := x.1) (k := x.2) (by rw [hx0]) v0 (fun b hb => HNEW.out b (Nat.le_trans HVZ.out hb)) HNI.out)
      clear hx0
      have below_pre : ∀ {v}, Below v0.heap.size v0 v → Below v0.heap.size v0 v := fun hb => hb
      go_wp2_with fail
      with_reducible refine (HCC.out).mono ?_
      rintro e vB ⟨n', rfl, hd, hin, hb⟩
      have HDD := hide hd
      have HIN := hide hin
      have HBB := hide (below_pre hb)
      have HR4 := hide (HV4.out.below HBB.out HV4.out.lt)
      have HR5 := hide (HV5.out.below HBB.out HV5.out.lt)
      have HKB := hide (below_one HVK.out HBB.out)
      clear hd hin hb
      go_wp2_with (refine wpList_store_row rfl 25 (.tmp 4) (.tmp 86) rfl _ #[.slice n'.q.A n'.q.l.length n'.q.cap, .slice n'.a.A n'.a.l.length n'.a.cap] rfl rfl 25 _ HR4.out Try.size25 rfl (one25 _ _ _ _ _ _) ?_)
      have H4E := hide (HR4.out.row [.slice n'.q.A n'.q.l.length n'.q.cap, .slice n'.a.A n'.a.l.length n'.a.cap])
      have H5E := hide (HR5.out.far (Y := w.heap.size + 2) (by omega) #[.slice n'.q.A n'.q.l.length n'.q.cap, .slice n'.a.A n'.a.l.length n'.a.cap])
      have HKE := hide (below_setRow HKB.out (show w.heap.size ≤ w.heap.size + 2 by omega) #[.slice n'.q.A n'.q.l.length n'.q.cap, .slice n'.a.A n'.a.l.length n'.a.cap])
      have HNE := hide (HIN.out.keep (Kept.row (X := w.heap.size + 2) (okX_not (by omega) (by omega)) #[.slice n'.q.A n'.q.l.length n'.q.cap, .slice n'.a.A n'.a.l.length n'.a.cap]))
      have HPE := hide (show Pkt.In (okX ok w.heap.size (w.heap.size + 4)) ⟨0, 0, ⟨none, [], 0⟩⟩ (vB.setRow (w.heap.size + 2) #[.slice n'.q.A n'.q.l.length n'.q.cap, .slice n'.a.A n'.a.l.length n'.a.cap]) from ⟨SlIn.none _, by unfold I64; decide, by unfold I64; decide⟩)
      generalize hvE : (vB.setRow (w.heap.size + 2) #[.slice n'.q.A n'.q.l.length n'.q.cap, .slice n'.a.A n'.a.l.length n'.a.cap]) = vE at *
      clear hvE
      refine wp_region_plan4 (fun W => Blk W (w.heap.size + 2) 25 [.slice n'.q.A n'.q.l.length n'.q.cap, .slice n'.a.A n'.a.l.length n'.a.cap] ∧ Blk W (w.heap.size + 3) 28 [.int .i64 0, .int .i64 0, .slice none 0 0]) (.take 0 (.take 1 (.take 2 (.run 3 (.run 4 (.run 5 .done)))))) (by kernel_rfl) (by kernel_rfl) ⟨H4E.out.drew, H5E.out.drew⟩ ?_
      have HD4 := hide (show Blk vE.drew (w.heap.size + 2) 25 [.slice n'.q.A n'.q.l.length n'.q.cap, .slice n'.a.A n'.a.l.length n'.a.cap] from H4E.out.drew)
      have HD5 := hide (show Blk vE.drew (w.heap.size + 3) 28 [.int .i64 0, .int .i64 0, .slice none 0 0] from H5E.out.drew)
      have HKD := hide (show Below w.heap.size w vE.drew from HKE.out.drew)
      have HND := hide (show n'.In (okX ok w.heap.size (w.heap.size + 4)) vE.drew from HNE.out.below (Below.refl _ _).drew)
      have HPD := hide (show Pkt.In (okX ok w.heap.size (w.heap.size + 4)) ⟨0, 0, ⟨none, [], 0⟩⟩ vE.drew from HPE.out.below (Below.refl _ _).drew)
      clear H4E H5E HKE HNE HPE
      generalize vE.drew = vD at *
      (refine plan4_take (o := ?_) (v := ?_) (by simp only [List.getElem?_toArray, List.getElem?_cons_zero]; rfl) (yields_run (by rfl) ?_) ?_; rotate_left; (focus (intro w' hw'; obtain ⟨e0, e1⟩ := hw'.1.c2; obtain ⟨f0, f1, f2⟩ := hw'.2.c3; go_simp <;> with_reducible rfl)); (simp only [Act.put, List.setIfInBounds_toArray, List.set_cons_zero, List.set_cons_succ]))
      (refine plan4_take (o := ?_) (v := ?_) (by simp only [List.getElem?_toArray, List.getElem?_cons_succ, List.getElem?_cons_zero]; rfl) (yields_run (by rfl) ?_) ?_; rotate_left; (focus (intro w' hw'; obtain ⟨e0, e1⟩ := hw'.1.c2; obtain ⟨f0, f1, f2⟩ := hw'.2.c3; go_simp <;> with_reducible rfl)); (simp only [Act.put, List.setIfInBounds_toArray, List.set_cons_zero, List.set_cons_succ]))
      (refine plan4_take (o := ?_) (v := ?_) (by simp only [List.getElem?_toArray, List.getElem?_cons_succ, List.getElem?_cons_zero]; rfl) (yields_run (by rfl) ?_) ?_; rotate_left; (focus (intro w' hw'; obtain ⟨e0, e1⟩ := hw'.1.c2; obtain ⟨f0, f1, f2⟩ := hw'.2.c3; go_simp <;> with_reducible rfl)); (simp only [Act.put, List.setIfInBounds_toArray, List.set_cons_zero, List.set_cons_succ]))
      refine plan4_run (o := ?_) (by simp only [List.getElem?_toArray, List.getElem?_cons_succ, List.getElem?_cons_zero]; rfl) ?_
      intro R HR
      have HE4 := hide (HD4.out.row [.slice n'.q.A n'.q.l.length n'.q.cap, .slice n'.a.A n'.a.l.length n'.a.cap])
      have HE5 := hide (HD5.out.far (Y := w.heap.size + 2) (by omega) #[.slice n'.q.A n'.q.l.length n'.q.cap, .slice n'.a.A n'.a.l.length n'.a.cap])
      refine wpList_store_row rfl 25 (.tmp 4) (.tmp 88) rfl _ #[.slice n'.q.A n'.q.l.length n'.q.cap, .slice n'.a.A n'.a.l.length n'.a.cap] rfl rfl 25 _ HD4.out Try.size25 rfl (one25 _ _ _ _ _ _) ?_
      refine HR.out _ _ ⟨HE4.out, HE5.out⟩ ?_
      clear HR
      refine plan4_run (o := ?_) (by simp only [List.getElem?_toArray, List.getElem?_cons_succ, List.getElem?_cons_zero]; rfl) ?_
      intro R HR
      have HG4 := hide (HE4.out.far (Y := w.heap.size + 3) (by omega) #[.int .i64 0, .int .i64 0, .slice none 0 0])
      have HG5 := hide (HE5.out.row [.int .i64 0, .int .i64 0, .slice none 0 0])
      refine wpList_store_row rfl 28 (.tmp 5) (.tmp 89) rfl _ #[.int .i64 0, .int .i64 0, .slice none 0 0] rfl rfl 28 _ HE5.out Try.size28 rfl (one28 _ _ _ _ _) ?_
      refine HR.out _ _ ⟨HG4.out, HG5.out⟩ ?_
      clear HR
      refine plan4_run (o := ?_) (by simp only [List.getElem?_toArray, List.getElem?_cons_succ, List.getElem?_cons_zero]; rfl) ?_
      intro R HR
      go_wp2_with fail
      refine HR.out _ _ ⟨HG4.out, HG5.out⟩ ?_
      clear HR
      refine plan4_done ?_
      go_wp2_with fail
      refine bodyPost_ret (v := .tuple #[.agg #[.slice n'.q.A n'.q.l.length n'.q.cap, .slice n'.a.A n'.a.l.length n'.a.cap], .agg #[.int .i64 0, .int .i64 0, .slice none 0 0], .int .i64 x.2]) (results_cell_cell_tmp rfl _ _ (w.heap.size + 2) 25 #[.slice n'.q.A n'.q.l.length n'.q.cap, .slice n'.a.A n'.a.l.length n'.a.cap] (0, 0) _ (w.heap.size + 3) 28 #[.int .i64 0, .int .i64 0, .slice none 0 0] (0, 0) _ (.int .i64 x.2) rfl rfl rfl HG4.out HG5.out Try.underlying25 rfl Try.size25 Try.underlying28 rfl Try.size28) rfl ?_
      exact hap_fin n' ⟨0, 0, ⟨none, [], 0⟩⟩ x.2 vD (HX.out.trans (by rw [← HDD.out]; rfl)) HPD.out HND.out HKD.out
  · obtain ⟨i, hi0⟩ : ∃ i : Nat, i = m.which.toNat % n.q.l.length := ⟨_, rfl⟩
    have hx := hap_cases n.d m (i := i) (by rw [hi0]; unfold Nt.pick; rw [if_neg (by rw [net_len]; exact hl), net_len]) hf2 ht2' hh2
    have hl' : (0 : Int) < (n.q.l.length : Int) := by omega
    have hl2 : (n.q.l.length : Int) ≠ 0 := by omega
    have hil : i < 256 := by rw [hi0]; exact Nat.lt_of_le_of_lt (Nat.mod_le _ _) b2
    have hw7 : (m.which.toNat : Int).tmod (n.q.l.length : Int) = (i : Int) := by rw [Int.tmod_eq_emod_of_nonneg (by omega), hi0, Int.natCast_emod]
    have hw8 : IntKind.i64.wrap (i : Int) = (i : Int) := wrapi_small _ (by omega)
    clear hf2 ht2' hh2 hi0
    go_upto_region 4 with (fail)
    generalize hw4e : ((((w.alloc (.cells #[.slice n.q.A n.q.l.length n.q.cap, .slice n.a.A n.a.l.length n.a.cap] 25)).alloc (.cells #[.int .u8 (m.how.toNat : Nat), .int .u8 (m.which.toNat : Nat), .int .u8 (m.fr.toNat : Nat), .int .u8 (m.to.toNat : Nat), .int .u8 (m.byte.toNat : Nat)] 49)).alloc (.cells #[.slice none 0 0, .slice none 0 0] 25)).alloc (.cells #[.int .i64 0, .int .i64 0, .slice none 0 0] 28)) = w4 at *
    clear hw4e c0 c1 d0 d1 d2 d3 d4
    refine wp_region_plan4 (fun W => Below w4.heap.size w4 W) (.take 0 (.take 1 (.take 2 (.take 3 (.take 4 (.take 5 (.take 6 (.take 7 (.run 8 (.run 9 .done)))))))))) (by kernel_rfl) (by kernel_rfl) ((Below.refl _ _).drew) ?_
    have HV2 := hide (show Blk w4.drew w.heap.size 25 _ from H4.out.1)
    have HV3 := hide (show Blk w4.drew (w.heap.size + 1) 49 _ from H4.out.2.1)
    have HV4 := hide (show Blk w4.drew (w.heap.size + 2) 25 _ from H4.out.2.2.1)
    have HV5 := hide (show Blk w4.drew (w.heap.size + 3) 28 _ from H4.out.2.2.2.1)
    have HVK := hide (show Below w.heap.size w w4.drew from H4.out.2.2.2.2.1.drew)
    have HVZ := hide (show w.heap.size + 4 ≤ w4.drew.heap.size from H4.out.2.2.2.2.2)
    have HB0 := hide (show Below w4.heap.size w4 w4.drew from (Below.refl _ _).drew)
    have HC5 := hide (fun W (hW : Below w4.heap.size w4 W) => hap_c5 (H4.out.2.1.below hW H4.out.2.1.lt))
    generalize w4.drew = v0 at *
    have HNI := hide (HI.out.below HVK.out)
    (refine plan4_take (o := ?_) (v := ?_) (by simp only [List.getElem?_toArray, List.getElem?_cons_zero]; rfl) (yields_run (by rfl) ?_) ?_; rotate_left; (focus (intro w' hw'; obtain ⟨e0, e1, e2, e3, e4⟩ := HC5.out w' hw'; go_simp <;> with_reducible rfl)); (simp only [Act.put, List.setIfInBounds_toArray, List.set_cons_zero, List.set_cons_succ]))
    (refine plan4_take (o := ?_) (v := ?_) (by simp only [List.getElem?_toArray, List.getElem?_cons_succ, List.getElem?_cons_zero]; rfl) (yields_run (by rfl) ?_) ?_; rotate_left; (focus (intro w' hw'; obtain ⟨e0, e1, e2, e3, e4⟩ := HC5.out w' hw'; go_simp <;> with_reducible rfl)); (simp only [Act.put, List.setIfInBounds_toArray, List.set_cons_zero, List.set_cons_succ]))
    (refine plan4_take (o := ?_) (v := ?_) (by simp only [List.getElem?_toArray, List.getElem?_cons_succ, List.getElem?_cons_zero]; rfl) (yields_run (by rfl) ?_) ?_; rotate_left; (focus (intro w' hw'; obtain ⟨e0, e1, e2, e3, e4⟩ := HC5.out w' hw'; go_simp <;> with_reducible rfl)); (simp only [Act.put, List.setIfInBounds_toArray, List.set_cons_zero, List.set_cons_succ]))
    (refine plan4_take (o := ?_) (v := ?_) (by simp only [List.getElem?_toArray, List.getElem?_cons_succ, List.getElem?_cons_zero]; rfl) (yields_run (by rfl) ?_) ?_; rotate_left; (focus (intro w' hw'; obtain ⟨e0, e1, e2, e3, e4⟩ := HC5.out w' hw'; go_simp <;> with_reducible rfl)); (simp only [Act.put, List.setIfInBounds_toArray, List.set_cons_zero, List.set_cons_succ]))
    (refine plan4_take (o := ?_) (v := ?_) (by simp only [List.getElem?_toArray, List.getElem?_cons_succ, List.getElem?_cons_zero]; rfl) (yields_run (by rfl) ?_) ?_; rotate_left; (focus (intro w' hw'; obtain ⟨e0, e1, e2, e3, e4⟩ := HC5.out w' hw'; go_simp <;> with_reducible rfl)); (simp only [Act.put, List.setIfInBounds_toArray, List.set_cons_zero, List.set_cons_succ]))
    (refine plan4_take (o := ?_) (v := ?_) (by simp only [List.getElem?_toArray, List.getElem?_cons_succ, List.getElem?_cons_zero]; rfl) (yields_run (by rfl) ?_) ?_; rotate_left; (focus (intro w' hw'; obtain ⟨e0, e1, e2, e3, e4⟩ := HC5.out w' hw'; go_simp <;> with_reducible rfl)); (simp only [Act.put, List.setIfInBounds_toArray, List.set_cons_zero, List.set_cons_succ]))
    (refine plan4_take (o := ?_) (v := ?_) (by simp only [List.getElem?_toArray, List.getElem?_cons_succ, List.getElem?_cons_zero]; rfl) (yields_run (by rfl) ?_) ?_; rotate_left; (focus (intro w' hw'; obtain ⟨e0, e1, e2, e3, e4⟩ := HC5.out w' hw'; go_simp <;> with_reducible rfl)); (simp only [Act.put, List.setIfInBounds_toArray, List.set_cons_zero, List.set_cons_succ]))
    (refine plan4_take (o := ?_) (v := ?_) (by simp only [List.getElem?_toArray, List.getElem?_cons_succ, List.getElem?_cons_zero]; rfl) (yields_run (by rfl) ?_) ?_; rotate_left; (focus (intro w' hw'; obtain ⟨e0, e1, e2, e3, e4⟩ := HC5.out w' hw'; go_simp <;> with_reducible rfl)); (simp only [Act.put, List.setIfInBounds_toArray, List.set_cons_zero, List.set_cons_succ]))
    refine plan4_run (o := ?_) (by simp only [List.getElem?_toArray, List.getElem?_cons_succ, List.getElem?_cons_zero]; rfl) ?_
    intro R HR
    go_wp2_with fail
    refine HR.out _ _ HB0.out ?_
    clear HR
    refine plan4_run (o := ?_) (by simp only [List.getElem?_toArray, List.getElem?_cons_succ, List.getElem?_cons_zero]; rfl) ?_
    intro R HR
    go_wp2_with fail
    refine HR.out _ _ HB0.out ?_
    clear HR
    refine plan4_done ?_
    skip
    clear HB0 HC5 H4 HI
    obtain ⟨c0, c1⟩ := HV2.out.c2
    obtain ⟨d0, d1, d2, d3, d4⟩ := hap_c5 HV3.out
    have h26 : h2 < 6 := by have := HH.out; omega
    have HHX := hide hx
    clear hx
    obtain rfl | rfl | rfl | rfl | rfl | rfl : h2 = 0 ∨ h2 = 1 ∨ h2 = 2 ∨ h2 = 3 ∨ h2 = 4 ∨ h2 = 5 := by omega
    · have HBN := hide (Blk.new v0 5 [.int .u8 (m.byte.toNat : Nat)])
      have HPI := hide (show Pkt.In (okX ok w.heap.size (w.heap.size + 4)) ⟨f2, t2, ⟨some ⟨v0.heap.size, 0, none⟩, [m.byte], 1⟩⟩ (v0.alloc (.cells #[.int .u8 (m.byte.toNat : Nat)] 5)) from ⟨blk_sl HBN.out rfl (Nat.le_refl _) (by decide) (HNEW.out _ HVZ.out), hap_i64 _ (by omega), hap_i64 _ (by omega)⟩)
      skip
      obtain ⟨x, hx0⟩ : ∃ x, x = n.d.send ⟨f2, t2, [m.byte]⟩ := ⟨_, rfl⟩
      have HX := hide (show n.d.happ m = (Pk.zero, x.1, x.2) from (HHX.out.1 rfl).trans (by rw [hx0]))
      have HCC := hide (send_is (n := n) (p := ⟨f2, t2, ⟨some ⟨v0.heap.size, 0, none⟩, [m.byte], 1⟩⟩) (x := x.1) (k := x.2) (by rw [hx0]; rfl) (v0.alloc (.cells #[.int .u8 (m.byte.toNat : Nat)] 5)) (fun b hb => HNEW.out b (Nat.le_trans HVZ.out (Nat.le_trans (by simp) hb))) (HNI.out.below (below_new _ _)) HPI.out)
      clear hx0
      replace HCC := hide (show Calls Try.prog 11 #[n.v, .agg #[.int .i64 f2, .int .i64 t2, .slice (some ⟨v0.heap.size, 0, none⟩) 1 1]] _ _ from HCC.out)
      have below_pre : ∀ {v}, Below (v0.alloc (.cells #[.int .u8 (m.byte.toNat : Nat)] 5)).heap.size (v0.alloc (.cells #[.int .u8 (m.byte.toNat : Nat)] 5)) v → Below v0.heap.size v0 v := fun hb => below_one (below_new _ _) hb
      go_wp2_with fail
      with_reducible refine (HCC.out).mono ?_
      rintro e vB ⟨n', rfl, hd, hin, hb⟩
      have HDD := hide hd
      have HIN := hide hin
      have HBB := hide (below_pre hb)
      have HR4 := hide (HV4.out.below HBB.out HV4.out.lt)
      have HR5 := hide (HV5.out.below HBB.out HV5.out.lt)
      have HKB := hide (below_one HVK.out HBB.out)
      clear hd hin hb
      go_wp2_with (refine wpList_store_row rfl 25 (.tmp 4) (.tmp 43) rfl _ #[.slice n'.q.A n'.q.l.length n'.q.cap, .slice n'.a.A n'.a.l.length n'.a.cap] rfl rfl 25 _ HR4.out Try.size25 rfl (one25 _ _ _ _ _ _) ?_)
      have H4E := hide (HR4.out.row [.slice n'.q.A n'.q.l.length n'.q.cap, .slice n'.a.A n'.a.l.length n'.a.cap])
      have H5E := hide (HR5.out.far (Y := w.heap.size + 2) (by omega) #[.slice n'.q.A n'.q.l.length n'.q.cap, .slice n'.a.A n'.a.l.length n'.a.cap])
      have HKE := hide (below_setRow HKB.out (show w.heap.size ≤ w.heap.size + 2 by omega) #[.slice n'.q.A n'.q.l.length n'.q.cap, .slice n'.a.A n'.a.l.length n'.a.cap])
      have HNE := hide (HIN.out.keep (Kept.row (X := w.heap.size + 2) (okX_not (by omega) (by omega)) #[.slice n'.q.A n'.q.l.length n'.q.cap, .slice n'.a.A n'.a.l.length n'.a.cap]))
      have HPE := hide (show Pkt.In (okX ok w.heap.size (w.heap.size + 4)) ⟨0, 0, ⟨none, [], 0⟩⟩ (vB.setRow (w.heap.size + 2) #[.slice n'.q.A n'.q.l.length n'.q.cap, .slice n'.a.A n'.a.l.length n'.a.cap]) from ⟨SlIn.none _, by unfold I64; decide, by unfold I64; decide⟩)
      generalize hvE : (vB.setRow (w.heap.size + 2) #[.slice n'.q.A n'.q.l.length n'.q.cap, .slice n'.a.A n'.a.l.length n'.a.cap]) = vE at *
      clear hvE
      refine wp_region_plan4 (fun W => Blk W (w.heap.size + 2) 25 [.slice n'.q.A n'.q.l.length n'.q.cap, .slice n'.a.A n'.a.l.length n'.a.cap] ∧ Blk W (w.heap.size + 3) 28 [.int .i64 0, .int .i64 0, .slice none 0 0]) (.take 0 (.take 1 (.take 2 (.run 3 (.run 4 (.run 5 .done)))))) (by kernel_rfl) (by kernel_rfl) ⟨H4E.out.drew, H5E.out.drew⟩ ?_
      have HD4 := hide (show Blk vE.drew (w.heap.size + 2) 25 [.slice n'.q.A n'.q.l.length n'.q.cap, .slice n'.a.A n'.a.l.length n'.a.cap] from H4E.out.drew)
      have HD5 := hide (show Blk vE.drew (w.heap.size + 3) 28 [.int .i64 0, .int .i64 0, .slice none 0 0] from H5E.out.drew)
      have HKD := hide (show Below w.heap.size w vE.drew from HKE.out.drew)
      have HND := hide (show n'.In (okX ok w.heap.size (w.heap.size + 4)) vE.drew from HNE.out.below (Below.refl _ _).drew)
      have HPD := hide (show Pkt.In (okX ok w.heap.size (w.heap.size + 4)) ⟨0, 0, ⟨none, [], 0⟩⟩ vE.drew from HPE.out.below (Below.refl _ _).drew)
      clear H4E H5E HKE HNE HPE
      generalize vE.drew = vD at *
      (refine plan4_take (o := ?_) (v := ?_) (by simp only [List.getElem?_toArray, List.getElem?_cons_zero]; rfl) (yields_run (by rfl) ?_) ?_; rotate_left; (focus (intro w' hw'; obtain ⟨e0, e1⟩ := hw'.1.c2; obtain ⟨f0, f1, f2⟩ := hw'.2.c3; go_simp <;> with_reducible rfl)); (simp only [Act.put, List.setIfInBounds_toArray, List.set_cons_zero, List.set_cons_succ]))
      (refine plan4_take (o := ?_) (v := ?_) (by simp only [List.getElem?_toArray, List.getElem?_cons_succ, List.getElem?_cons_zero]; rfl) (yields_run (by rfl) ?_) ?_; rotate_left; (focus (intro w' hw'; obtain ⟨e0, e1⟩ := hw'.1.c2; obtain ⟨f0, f1, f2⟩ := hw'.2.c3; go_simp <;> with_reducible rfl)); (simp only [Act.put, List.setIfInBounds_toArray, List.set_cons_zero, List.set_cons_succ]))
      (refine plan4_take (o := ?_) (v := ?_) (by simp only [List.getElem?_toArray, List.getElem?_cons_succ, List.getElem?_cons_zero]; rfl) (yields_run (by rfl) ?_) ?_; rotate_left; (focus (intro w' hw'; obtain ⟨e0, e1⟩ := hw'.1.c2; obtain ⟨f0, f1, f2⟩ := hw'.2.c3; go_simp <;> with_reducible rfl)); (simp only [Act.put, List.setIfInBounds_toArray, List.set_cons_zero, List.set_cons_succ]))
      refine plan4_run (o := ?_) (by simp only [List.getElem?_toArray, List.getElem?_cons_succ, List.getElem?_cons_zero]; rfl) ?_
      intro R HR
      have HE4 := hide (HD4.out.row [.slice n'.q.A n'.q.l.length n'.q.cap, .slice n'.a.A n'.a.l.length n'.a.cap])
      have HE5 := hide (HD5.out.far (Y := w.heap.size + 2) (by omega) #[.slice n'.q.A n'.q.l.length n'.q.cap, .slice n'.a.A n'.a.l.length n'.a.cap])
      refine wpList_store_row rfl 25 (.tmp 4) (.tmp 88) rfl _ #[.slice n'.q.A n'.q.l.length n'.q.cap, .slice n'.a.A n'.a.l.length n'.a.cap] rfl rfl 25 _ HD4.out Try.size25 rfl (one25 _ _ _ _ _ _) ?_
      refine HR.out _ _ ⟨HE4.out, HE5.out⟩ ?_
      clear HR
      refine plan4_run (o := ?_) (by simp only [List.getElem?_toArray, List.getElem?_cons_succ, List.getElem?_cons_zero]; rfl) ?_
      intro R HR
      have HG4 := hide (HE4.out.far (Y := w.heap.size + 3) (by omega) #[.int .i64 0, .int .i64 0, .slice none 0 0])
      have HG5 := hide (HE5.out.row [.int .i64 0, .int .i64 0, .slice none 0 0])
      refine wpList_store_row rfl 28 (.tmp 5) (.tmp 89) rfl _ #[.int .i64 0, .int .i64 0, .slice none 0 0] rfl rfl 28 _ HE5.out Try.size28 rfl (one28 _ _ _ _ _) ?_
      refine HR.out _ _ ⟨HG4.out, HG5.out⟩ ?_
      clear HR
      refine plan4_run (o := ?_) (by simp only [List.getElem?_toArray, List.getElem?_cons_succ, List.getElem?_cons_zero]; rfl) ?_
      intro R HR
      go_wp2_with fail
      refine HR.out _ _ ⟨HG4.out, HG5.out⟩ ?_
      clear HR
      refine plan4_done ?_
      go_wp2_with fail
      refine bodyPost_ret (v := .tuple #[.agg #[.slice n'.q.A n'.q.l.length n'.q.cap, .slice n'.a.A n'.a.l.length n'.a.cap], .agg #[.int .i64 0, .int .i64 0, .slice none 0 0], .int .i64 x.2]) (results_cell_cell_tmp rfl _ _ (w.heap.size + 2) 25 #[.slice n'.q.A n'.q.l.length n'.q.cap, .slice n'.a.A n'.a.l.length n'.a.cap] (0, 0) _ (w.heap.size + 3) 28 #[.int .i64 0, .int .i64 0, .slice none 0 0] (0, 0) _ (.int .i64 x.2) rfl rfl rfl HG4.out HG5.out Try.underlying25 rfl Try.size25 Try.underlying28 rfl Try.size28) rfl ?_
      exact hap_fin n' ⟨0, 0, ⟨none, [], 0⟩⟩ x.2 vD (HX.out.trans (by rw [← HDD.out]; rfl)) HPD.out HND.out HKD.out
    · obtain ⟨x, hx0⟩ : ∃ x, x = n.d.give i := ⟨_, rfl⟩
      have HX := hide (show n.d.happ m = (x.1, x.2.1, x.2.2) from (HHX.out.2.1 rfl).trans (by rw [hx0]))
      have HCC := hide (give_is (n := n) (i := (i : Int)) (p := x.1) (x := x.2.1) (k := x.2.2) (by rw [hx0]) v0 (fun b hb => HNEW.out b (Nat.le_trans HVZ.out hb)) HNI.out)
      clear hx0
      go_wp2_with fail
      with_reducible refine HCC.out.mono ?_
      rintro e vB ⟨p', n', rfl, hdp, hd, hip, hin, hb⟩
      have HDP := hide hdp
      have HDD := hide hd
      have HIP := hide hip
      have HIN := hide hin
      have HR4 := hide (HV4.out.below hb HV4.out.lt)
      have HR5 := hide (HV5.out.below hb HV5.out.lt)
      have HKB := hide (below_one HVK.out hb)
      clear hdp hd hip hin hb
      have HS4 := hide (HR4.out.far (Y := w.heap.size + 3) (by omega) #[.int .i64 p'.fr, .int .i64 p'.to, .slice p'.s.A p'.s.l.length p'.s.cap])
      have HS5 := hide (HR5.out.row [.int .i64 p'.fr, .int .i64 p'.to, .slice p'.s.A p'.s.l.length p'.s.cap])
      go_wp2_with (first | (refine wpList_store_row rfl 28 (.tmp 5) (.tmp 51) rfl _ #[.int .i64 p'.fr, .int .i64 p'.to, .slice p'.s.A p'.s.l.length p'.s.cap] rfl rfl 28 _ HR5.out Try.size28 rfl (one28 _ _ _ _ _) ?_) | (refine wpList_store_row rfl 25 (.tmp 4) (.tmp 52) rfl _ #[.slice n'.q.A n'.q.l.length n'.q.cap, .slice n'.a.A n'.a.l.length n'.a.cap] rfl rfl 25 _ HS4.out Try.size25 rfl (one25 _ _ _ _ _ _) ?_))
      have H4E := hide (HS4.out.row [.slice n'.q.A n'.q.l.length n'.q.cap, .slice n'.a.A n'.a.l.length n'.a.cap])
      have H5E := hide (HS5.out.far (Y := w.heap.size + 2) (by omega) #[.slice n'.q.A n'.q.l.length n'.q.cap, .slice n'.a.A n'.a.l.length n'.a.cap])
      have HKE := hide (below_setRow (below_setRow HKB.out (show w.heap.size ≤ w.heap.size + 3 by omega) #[.int .i64 p'.fr, .int .i64 p'.to, .slice p'.s.A p'.s.l.length p'.s.cap]) (show w.heap.size ≤ w.heap.size + 2 by omega) #[.slice n'.q.A n'.q.l.length n'.q.cap, .slice n'.a.A n'.a.l.length n'.a.cap])
      have HKP := hide (show Kept (okX ok w.heap.size (w.heap.size + 4)) vB ((vB.setRow (w.heap.size + 3) #[.int .i64 p'.fr, .int .i64 p'.to, .slice p'.s.A p'.s.l.length p'.s.cap]).setRow (w.heap.size + 2) #[.slice n'.q.A n'.q.l.length n'.q.cap, .slice n'.a.A n'.a.l.length n'.a.cap]) from (Kept.row (X := w.heap.size + 3) (okX_not (by omega) (by omega)) #[.int .i64 p'.fr, .int .i64 p'.to, .slice p'.s.A p'.s.l.length p'.s.cap]).trans (Kept.row (X := w.heap.size + 2) (okX_not (by omega) (by omega)) #[.slice n'.q.A n'.q.l.length n'.q.cap, .slice n'.a.A n'.a.l.length n'.a.cap]))
      have HNE := hide (HIN.out.keep HKP.out)
      have HPE := hide (HIP.out.keep HKP.out)
      generalize hvE : ((vB.setRow (w.heap.size + 3) #[.int .i64 p'.fr, .int .i64 p'.to, .slice p'.s.A p'.s.l.length p'.s.cap]).setRow (w.heap.size + 2) #[.slice n'.q.A n'.q.l.length n'.q.cap, .slice n'.a.A n'.a.l.length n'.a.cap]) = vE at *
      clear hvE
      refine wp_region_plan4 (fun W => Blk W (w.heap.size + 2) 25 [.slice n'.q.A n'.q.l.length n'.q.cap, .slice n'.a.A n'.a.l.length n'.a.cap] ∧ Blk W (w.heap.size + 3) 28 [.int .i64 p'.fr, .int .i64 p'.to, .slice p'.s.A p'.s.l.length p'.s.cap]) (.take 0 (.take 1 (.take 2 (.run 3 (.run 4 (.run 5 .done)))))) (by kernel_rfl) (by kernel_rfl) ⟨H4E.out.drew, H5E.out.drew⟩ ?_
      have HD4 := hide (show Blk vE.drew (w.heap.size + 2) 25 [.slice n'.q.A n'.q.l.length n'.q.cap, .slice n'.a.A n'.a.l.length n'.a.cap] from H4E.out.drew)
      have HD5 := hide (show Blk vE.drew (w.heap.size + 3) 28 [.int .i64 p'.fr, .int .i64 p'.to, .slice p'.s.A p'.s.l.length p'.s.cap] from H5E.out.drew)
      have HKD := hide (show Below w.heap.size w vE.drew from HKE.out.drew)
      have HND := hide (show n'.In (okX ok w.heap.size (w.heap.size + 4)) vE.drew from HNE.out.below (Below.refl _ _).drew)
      have HPD := hide (show Pkt.In (okX ok w.heap.size (w.heap.size + 4)) p' vE.drew from HPE.out.below (Below.refl _ _).drew)
      clear H4E H5E HKE HNE HPE
      generalize vE.drew = vD at *
      (refine plan4_take (o := ?_) (v := ?_) (by simp only [List.getElem?_toArray, List.getElem?_cons_zero]; rfl) (yields_run (by rfl) ?_) ?_; rotate_left; (focus (intro w' hw'; obtain ⟨e0, e1⟩ := hw'.1.c2; obtain ⟨f0, f1, f2⟩ := hw'.2.c3; go_simp <;> with_reducible rfl)); (simp only [Act.put, List.setIfInBounds_toArray, List.set_cons_zero, List.set_cons_succ]))
      (refine plan4_take (o := ?_) (v := ?_) (by simp only [List.getElem?_toArray, List.getElem?_cons_succ, List.getElem?_cons_zero]; rfl) (yields_run (by rfl) ?_) ?_; rotate_left; (focus (intro w' hw'; obtain ⟨e0, e1⟩ := hw'.1.c2; obtain ⟨f0, f1, f2⟩ := hw'.2.c3; go_simp <;> with_reducible rfl)); (simp only [Act.put, List.setIfInBounds_toArray, List.set_cons_zero, List.set_cons_succ]))
      (refine plan4_take (o := ?_) (v := ?_) (by simp only [List.getElem?_toArray, List.getElem?_cons_succ, List.getElem?_cons_zero]; rfl) (yields_run (by rfl) ?_) ?_; rotate_left; (focus (intro w' hw'; obtain ⟨e0, e1⟩ := hw'.1.c2; obtain ⟨f0, f1, f2⟩ := hw'.2.c3; go_simp <;> with_reducible rfl)); (simp only [Act.put, List.setIfInBounds_toArray, List.set_cons_zero, List.set_cons_succ]))
      refine plan4_run (o := ?_) (by simp only [List.getElem?_toArray, List.getElem?_cons_succ, List.getElem?_cons_zero]; rfl) ?_
      intro R HR
      have HE4 := hide (HD4.out.row [.slice n'.q.A n'.q.l.length n'.q.cap, .slice n'.a.A n'.a.l.length n'.a.cap])
      have HE5 := hide (HD5.out.far (Y := w.heap.size + 2) (by omega) #[.slice n'.q.A n'.q.l.length n'.q.cap, .slice n'.a.A n'.a.l.length n'.a.cap])
      refine wpList_store_row rfl 25 (.tmp 4) (.tmp 88) rfl _ #[.slice n'.q.A n'.q.l.length n'.q.cap, .slice n'.a.A n'.a.l.length n'.a.cap] rfl rfl 25 _ HD4.out Try.size25 rfl (one25 _ _ _ _ _ _) ?_
      refine HR.out _ _ ⟨HE4.out, HE5.out⟩ ?_
      clear HR
      refine plan4_run (o := ?_) (by simp only [List.getElem?_toArray, List.getElem?_cons_succ, List.getElem?_cons_zero]; rfl) ?_
      intro R HR
      have HG4 := hide (HE4.out.far (Y := w.heap.size + 3) (by omega) #[.int .i64 p'.fr, .int .i64 p'.to, .slice p'.s.A p'.s.l.length p'.s.cap])
      have HG5 := hide (HE5.out.row [.int .i64 p'.fr, .int .i64 p'.to, .slice p'.s.A p'.s.l.length p'.s.cap])
      refine wpList_store_row rfl 28 (.tmp 5) (.tmp 89) rfl _ #[.int .i64 p'.fr, .int .i64 p'.to, .slice p'.s.A p'.s.l.length p'.s.cap] rfl rfl 28 _ HE5.out Try.size28 rfl (one28 _ _ _ _ _) ?_
      refine HR.out _ _ ⟨HG4.out, HG5.out⟩ ?_
      clear HR
      refine plan4_run (o := ?_) (by simp only [List.getElem?_toArray, List.getElem?_cons_succ, List.getElem?_cons_zero]; rfl) ?_
      intro R HR
      go_wp2_with fail
      refine HR.out _ _ ⟨HG4.out, HG5.out⟩ ?_
      clear HR
      refine plan4_done ?_
      go_wp2_with fail
      refine bodyPost_ret (v := .tuple #[.agg #[.slice n'.q.A n'.q.l.length n'.q.cap, .slice n'.a.A n'.a.l.length n'.a.cap], .agg #[.int .i64 p'.fr, .int .i64 p'.to, .slice p'.s.A p'.s.l.length p'.s.cap], .int .i64 x.2.2]) (results_cell_cell_tmp rfl _ _ (w.heap.size + 2) 25 #[.slice n'.q.A n'.q.l.length n'.q.cap, .slice n'.a.A n'.a.l.length n'.a.cap] (0, 0) _ (w.heap.size + 3) 28 #[.int .i64 p'.fr, .int .i64 p'.to, .slice p'.s.A p'.s.l.length p'.s.cap] (0, 0) _ (.int .i64 x.2.2) rfl rfl rfl HG4.out HG5.out Try.underlying25 rfl Try.size25 Try.underlying28 rfl Try.size28) rfl ?_
      exact hap_fin n' p' x.2.2 vD (HX.out.trans (by rw [← HDP.out, ← HDD.out])) HPD.out HND.out HKD.out
    · obtain ⟨x, hx0⟩ : ∃ x, x = n.d.lose i := ⟨_, rfl⟩
      have HX := hide (show n.d.happ m = (Pk.zero, x.1, x.2) from (HHX.out.2.2.1 rfl).trans (by rw [hx0]))
      have HCC := hide (lose_is (n := n) (i := (i : Int)) (x := x.1) (k := x.2) (by rw [hx0]) v0 (fun b hb => HNEW.out b (Nat.le_trans HVZ.out hb)) HNI.out)
      clear hx0
      have below_pre : ∀ {v}, Below v0.heap.size v0 v → Below v0.heap.size v0 v := fun hb => hb
      go_wp2_with fail
      with_reducible refine (HCC.out).mono ?_
      rintro e vB ⟨n', rfl, hd, hin, hb⟩
      have HDD := hide hd
      have HIN := hide hin
      have HBB := hide (below_pre hb)
      have HR4 := hide (HV4.out.below HBB.out HV4.out.lt)
      have HR5 := hide (HV5.out.below HBB.out HV5.out.lt)
      have HKB := hide (below_one HVK.out HBB.out)
      clear hd hin hb
      go_wp2_with (refine wpList_store_row rfl 25 (.tmp 4) (.tmp 60) rfl _ #[.slice n'.q.A n'.q.l.length n'.q.cap, .slice n'.a.A n'.a.l.length n'.a.cap] rfl rfl 25 _ HR4.out Try.size25 rfl (one25 _ _ _ _ _ _) ?_)
      have H4E := hide (HR4.out.row [.slice n'.q.A n'.q.l.length n'.q.cap, .slice n'.a.A n'.a.l.length n'.a.cap])
      have H5E := hide (HR5.out.far (Y := w.heap.size + 2) (by omega) #[.slice n'.q.A n'.q.l.length n'.q.cap, .slice n'.a.A n'.a.l.length n'.a.cap])
      have HKE := hide (below_setRow HKB.out (show w.heap.size ≤ w.heap.size + 2 by omega) #[.slice n'.q.A n'.q.l.length n'.q.cap, .slice n'.a.A n'.a.l.length n'.a.cap])
      have HNE := hide (HIN.out.keep (Kept.row (X := w.heap.size + 2) (okX_not (by omega) (by omega)) #[.slice n'.q.A n'.q.l.length n'.q.cap, .slice n'.a.A n'.a.l.length n'.a.cap]))
      have HPE := hide (show Pkt.In (okX ok w.heap.size (w.heap.size + 4)) ⟨0, 0, ⟨none, [], 0⟩⟩ (vB.setRow (w.heap.size + 2) #[.slice n'.q.A n'.q.l.length n'.q.cap, .slice n'.a.A n'.a.l.length n'.a.cap]) from ⟨SlIn.none _, by unfold I64; decide, by unfold I64; decide⟩)
      generalize hvE : (vB.setRow (w.heap.size + 2) #[.slice n'.q.A n'.q.l.length n'.q.cap, .slice n'.a.A n'.a.l.length n'.a.cap]) = vE at *
      clear hvE
      refine wp_region_plan4 (fun W => Blk W (w.heap.size + 2) 25 [.slice n'.q.A n'.q.l.length n'.q.cap, .slice n'.a.A n'.a.l.length n'.a.cap] ∧ Blk W (w.heap.size + 3) 28 [.int .i64 0, .int .i64 0, .slice none 0 0]) (.take 0 (.take 1 (.take 2 (.run 3 (.run 4 (.run 5 .done)))))) (by kernel_rfl) (by kernel_rfl) ⟨H4E.out.drew, H5E.out.drew⟩ ?_
      have HD4 := hide (show Blk vE.drew (w.heap.size + 2) 25 [.slice n'.q.A n'.q.l.length n'.q.cap, .slice n'.a.A n'.a.l.length n'.a.cap] from H4E.out.drew)
      have HD5 := hide (show Blk vE.drew (w.heap.size + 3) 28 [.int .i64 0, .int .i64 0, .slice none 0 0] from H5E.out.drew)
      have HKD := hide (show Below w.heap.size w vE.drew from HKE.out.drew)
      have HND := hide (show n'.In (okX ok w.heap.size (w.heap.size + 4)) vE.drew from HNE.out.below (Below.refl _ _).drew)
      have HPD := hide (show Pkt.In (okX ok w.heap.size (w.heap.size + 4)) ⟨0, 0, ⟨none, [], 0⟩⟩ vE.drew from HPE.out.below (Below.refl _ _).drew)
      clear H4E H5E HKE HNE HPE
      generalize vE.drew = vD at *
      (refine plan4_take (o := ?_) (v := ?_) (by simp only [List.getElem?_toArray, List.getElem?_cons_zero]; rfl) (yields_run (by rfl) ?_) ?_; rotate_left; (focus (intro w' hw'; obtain ⟨e0, e1⟩ := hw'.1.c2; obtain ⟨f0, f1, f2⟩ := hw'.2.c3; go_simp <;> with_reducible rfl)); (simp only [Act.put, List.setIfInBounds_toArray, List.set_cons_zero, List.set_cons_succ]))
      (refine plan4_take (o := ?_) (v := ?_) (by simp only [List.getElem?_toArray, List.getElem?_cons_succ, List.getElem?_cons_zero]; rfl) (yields_run (by rfl) ?_) ?_; rotate_left; (focus (intro w' hw'; obtain ⟨e0, e1⟩ := hw'.1.c2; obtain ⟨f0, f1, f2⟩ := hw'.2.c3; go_simp <;> with_reducible rfl)); (simp only [Act.put, List.setIfInBounds_toArray, List.set_cons_zero, List.set_cons_succ]))
      (refine plan4_take (o := ?_) (v := ?_) (by simp only [List.getElem?_toArray, List.getElem?_cons_succ, List.getElem?_cons_zero]; rfl) (yields_run (by rfl) ?_) ?_; rotate_left; (focus (intro w' hw'; obtain ⟨e0, e1⟩ := hw'.1.c2; obtain ⟨f0, f1, f2⟩ := hw'.2.c3; go_simp <;> with_reducible rfl)); (simp only [Act.put, List.setIfInBounds_toArray, List.set_cons_zero, List.set_cons_succ]))
      refine plan4_run (o := ?_) (by simp only [List.getElem?_toArray, List.getElem?_cons_succ, List.getElem?_cons_zero]; rfl) ?_
      intro R HR
      have HE4 := hide (HD4.out.row [.slice n'.q.A n'.q.l.length n'.q.cap, .slice n'.a.A n'.a.l.length n'.a.cap])
      have HE5 := hide (HD5.out.far (Y := w.heap.size + 2) (by omega) #[.slice n'.q.A n'.q.l.length n'.q.cap, .slice n'.a.A n'.a.l.length n'.a.cap])
      refine wpList_store_row rfl 25 (.tmp 4) (.tmp 88) rfl _ #[.slice n'.q.A n'.q.l.length n'.q.cap, .slice n'.a.A n'.a.l.length n'.a.cap] rfl rfl 25 _ HD4.out Try.size25 rfl (one25 _ _ _ _ _ _) ?_
      refine HR.out _ _ ⟨HE4.out, HE5.out⟩ ?_
      clear HR
      refine plan4_run (o := ?_) (by simp only [List.getElem?_toArray, List.getElem?_cons_succ, List.getElem?_cons_zero]; rfl) ?_
      intro R HR
      have HG4 := hide (HE4.out.far (Y := w.heap.size + 3) (by omega) #[.int .i64 0, .int .i64 0, .slice none 0 0])
      have HG5 := hide (HE5.out.row [.int .i64 0, .int .i64 0, .slice none 0 0])
      refine wpList_store_row rfl 28 (.tmp 5) (.tmp 89) rfl _ #[.int .i64 0, .int .i64 0, .slice none 0 0] rfl rfl 28 _ HE5.out Try.size28 rfl (one28 _ _ _ _ _) ?_
      refine HR.out _ _ ⟨HG4.out, HG5.out⟩ ?_
      clear HR
      refine plan4_run (o := ?_) (by simp only [List.getElem?_toArray, List.getElem?_cons_succ, List.getElem?_cons_zero]; rfl) ?_
      intro R HR
      go_wp2_with fail
      refine HR.out _ _ ⟨HG4.out, HG5.out⟩ ?_
      clear HR
      refine plan4_done ?_
      go_wp2_with fail
      refine bodyPost_ret (v := .tuple #[.agg #[.slice n'.q.A n'.q.l.length n'.q.cap, .slice n'.a.A n'.a.l.length n'.a.cap], .agg #[.int .i64 0, .int .i64 0, .slice none 0 0], .int .i64 x.2]) (results_cell_cell_tmp rfl _ _ (w.heap.size + 2) 25 #[.slice n'.q.A n'.q.l.length n'.q.cap, .slice n'.a.A n'.a.l.length n'.a.cap] (0, 0) _ (w.heap.size + 3) 28 #[.int .i64 0, .int .i64 0, .slice none 0 0] (0, 0) _ (.int .i64 x.2) rfl rfl rfl HG4.out HG5.out Try.underlying25 rfl Try.size25 Try.underlying28 rfl Try.size28) rfl ?_
      exact hap_fin n' ⟨0, 0, ⟨none, [], 0⟩⟩ x.2 vD (HX.out.trans (by rw [← HDD.out]; rfl)) HPD.out HND.out HKD.out
    · obtain ⟨x, hx0⟩ : ∃ x, x = n.d.again i := ⟨_, rfl⟩
      have HX := hide (show n.d.happ m = (Pk.zero, x.1, x.2) from (HHX.out.2.2.2.1 rfl).trans (by rw [hx0]))
      have HCC := hide (again_is (n := n) (i := (i : Int)) (x := x.1) (k := x.2) (by rw [hx0]) v0 (fun b hb => HNEW.out b (Nat.le_trans HVZ.out hb)) HNI.out)
      clear hx0
      have below_pre : ∀ {v}, Below v0.heap.size v0 v → Below v0.heap.size v0 v := fun hb => hb
      go_wp2_with fail
      with_reducible refine (HCC.out).mono ?_
      rintro e vB ⟨n', rfl, hd, hin, hb⟩
      have HDD := hide hd
      have HIN := hide hin
      have HBB := hide (below_pre hb)
      have HR4 := hide (HV4.out.below HBB.out HV4.out.lt)
      have HR5 := hide (HV5.out.below HBB.out HV5.out.lt)
      have HKB := hide (below_one HVK.out HBB.out)
      clear hd hin hb
      go_wp2_with (refine wpList_store_row rfl 25 (.tmp 4) (.tmp 68) rfl _ #[.slice n'.q.A n'.q.l.length n'.q.cap, .slice n'.a.A n'.a.l.length n'.a.cap] rfl rfl 25 _ HR4.out Try.size25 rfl (one25 _ _ _ _ _ _) ?_)
      have H4E := hide (HR4.out.row [.slice n'.q.A n'.q.l.length n'.q.cap, .slice n'.a.A n'.a.l.length n'.a.cap])
      have H5E := hide (HR5.out.far (Y := w.heap.size + 2) (by omega) #[.slice n'.q.A n'.q.l.length n'.q.cap, .slice n'.a.A n'.a.l.length n'.a.cap])
      have HKE := hide (below_setRow HKB.out (show w.heap.size ≤ w.heap.size + 2 by omega) #[.slice n'.q.A n'.q.l.length n'.q.cap, .slice n'.a.A n'.a.l.length n'.a.cap])
      have HNE := hide (HIN.out.keep (Kept.row (X := w.heap.size + 2) (okX_not (by omega) (by omega)) #[.slice n'.q.A n'.q.l.length n'.q.cap, .slice n'.a.A n'.a.l.length n'.a.cap]))
      have HPE := hide (show Pkt.In (okX ok w.heap.size (w.heap.size + 4)) ⟨0, 0, ⟨none, [], 0⟩⟩ (vB.setRow (w.heap.size + 2) #[.slice n'.q.A n'.q.l.length n'.q.cap, .slice n'.a.A n'.a.l.length n'.a.cap]) from ⟨SlIn.none _, by unfold I64; decide, by unfold I64; decide⟩)
      generalize hvE : (vB.setRow (w.heap.size + 2) #[.slice n'.q.A n'.q.l.length n'.q.cap, .slice n'.a.A n'.a.l.length n'.a.cap]) = vE at *
      clear hvE
      refine wp_region_plan4 (fun W => Blk W (w.heap.size + 2) 25 [.slice n'.q.A n'.q.l.length n'.q.cap, .slice n'.a.A n'.a.l.length n'.a.cap] ∧ Blk W (w.heap.size + 3) 28 [.int .i64 0, .int .i64 0, .slice none 0 0]) (.take 0 (.take 1 (.take 2 (.run 3 (.run 4 (.run 5 .done)))))) (by kernel_rfl) (by kernel_rfl) ⟨H4E.out.drew, H5E.out.drew⟩ ?_
      have HD4 := hide (show Blk vE.drew (w.heap.size + 2) 25 [.slice n'.q.A n'.q.l.length n'.q.cap, .slice n'.a.A n'.a.l.length n'.a.cap] from H4E.out.drew)
      have HD5 := hide (show Blk vE.drew (w.heap.size + 3) 28 [.int .i64 0, .int .i64 0, .slice none 0 0] from H5E.out.drew)
      have HKD := hide (show Below w.heap.size w vE.drew from HKE.out.drew)
      have HND := hide (show n'.In (okX ok w.heap.size (w.heap.size + 4)) vE.drew from HNE.out.below (Below.refl _ _).drew)
      have HPD := hide (show Pkt.In (okX ok w.heap.size (w.heap.size + 4)) ⟨0, 0, ⟨none, [], 0⟩⟩ vE.drew from HPE.out.below (Below.refl _ _).drew)
      clear H4E H5E HKE HNE HPE
      generalize vE.drew = vD at *
      (refine plan4_take (o := ?_) (v := ?_) (by simp only [List.getElem?_toArray, List.getElem?_cons_zero]; rfl) (yields_run (by rfl) ?_) ?_; rotate_left; (focus (intro w' hw'; obtain ⟨e0, e1⟩ := hw'.1.c2; obtain ⟨f0, f1, f2⟩ := hw'.2.c3; go_simp <;> with_reducible rfl)); (simp only [Act.put, List.setIfInBounds_toArray, List.set_cons_zero, List.set_cons_succ]))
      (refine plan4_take (o := ?_) (v := ?_) (by simp only [List.getElem?_toArray, List.getElem?_cons_succ, List.getElem?_cons_zero]; rfl) (yields_run (by rfl) ?_) ?_; rotate_left; (focus (intro w' hw'; obtain ⟨e0, e1⟩ := hw'.1.c2; obtain ⟨f0, f1, f2⟩ := hw'.2.c3; go_simp <;> with_reducible rfl)); (simp only [Act.put, List.setIfInBounds_toArray, List.set_cons_zero, List.set_cons_succ]))
      (refine plan4_take (o := ?_) (v := ?_) (by simp only [List.getElem?_toArray, List.getElem?_cons_succ, List.getElem?_cons_zero]; rfl) (yields_run (by rfl) ?_) ?_; rotate_left; (focus (intro w' hw'; obtain ⟨e0, e1⟩ := hw'.1.c2; obtain ⟨f0, f1, f2⟩ := hw'.2.c3; go_simp <;> with_reducible rfl)); (simp only [Act.put, List.setIfInBounds_toArray, List.set_cons_zero, List.set_cons_succ]))
      refine plan4_run (o := ?_) (by simp only [List.getElem?_toArray, List.getElem?_cons_succ, List.getElem?_cons_zero]; rfl) ?_
      intro R HR
      have HE4 := hide (HD4.out.row [.slice n'.q.A n'.q.l.length n'.q.cap, .slice n'.a.A n'.a.l.length n'.a.cap])
      have HE5 := hide (HD5.out.far (Y := w.heap.size + 2) (by omega) #[.slice n'.q.A n'.q.l.length n'.q.cap, .slice n'.a.A n'.a.l.length n'.a.cap])
      refine wpList_store_row rfl 25 (.tmp 4) (.tmp 88) rfl _ #[.slice n'.q.A n'.q.l.length n'.q.cap, .slice n'.a.A n'.a.l.length n'.a.cap] rfl rfl 25 _ HD4.out Try.size25 rfl (one25 _ _ _ _ _ _) ?_
      refine HR.out _ _ ⟨HE4.out, HE5.out⟩ ?_
      clear HR
      refine plan4_run (o := ?_) (by simp only [List.getElem?_toArray, List.getElem?_cons_succ, List.getElem?_cons_zero]; rfl) ?_
      intro R HR
      have HG4 := hide (HE4.out.far (Y := w.heap.size + 3) (by omega) #[.int .i64 0, .int .i64 0, .slice none 0 0])
      have HG5 := hide (HE5.out.row [.int .i64 0, .int .i64 0, .slice none 0 0])
      refine wpList_store_row rfl 28 (.tmp 5) (.tmp 89) rfl _ #[.int .i64 0, .int .i64 0, .slice none 0 0] rfl rfl 28 _ HE5.out Try.size28 rfl (one28 _ _ _ _ _) ?_
      refine HR.out _ _ ⟨HG4.out, HG5.out⟩ ?_
      clear HR
      refine plan4_run (o := ?_) (by simp only [List.getElem?_toArray, List.getElem?_cons_succ, List.getElem?_cons_zero]; rfl) ?_
      intro R HR
      go_wp2_with fail
      refine HR.out _ _ ⟨HG4.out, HG5.out⟩ ?_
      clear HR
      refine plan4_done ?_
      go_wp2_with fail
      refine bodyPost_ret (v := .tuple #[.agg #[.slice n'.q.A n'.q.l.length n'.q.cap, .slice n'.a.A n'.a.l.length n'.a.cap], .agg #[.int .i64 0, .int .i64 0, .slice none 0 0], .int .i64 x.2]) (results_cell_cell_tmp rfl _ _ (w.heap.size + 2) 25 #[.slice n'.q.A n'.q.l.length n'.q.cap, .slice n'.a.A n'.a.l.length n'.a.cap] (0, 0) _ (w.heap.size + 3) 28 #[.int .i64 0, .int .i64 0, .slice none 0 0] (0, 0) _ (.int .i64 x.2) rfl rfl rfl HG4.out HG5.out Try.underlying25 rfl Try.size25 Try.underlying28 rfl Try.size28) rfl ?_
      exact hap_fin n' ⟨0, 0, ⟨none, [], 0⟩⟩ x.2 vD (HX.out.trans (by rw [← HDD.out]; rfl)) HPD.out HND.out HKD.out
    · obtain ⟨x, hx0⟩ : ∃ x, x = n.d.cut f2 t2 true := ⟨_, rfl⟩
      have HX := hide (show n.d.happ m = (Pk.zero, x.1, x.2) from (HHX.out.2.2.2.2.1 rfl).trans (by rw [hx0]))
      have HCC := hide (cut_is (n := n) (a := (f2 : Int)) (b := (t2 : Int)) (on := true) (x := x.1) (k := x.2) (by rw [hx0]) v0 (fun b hb => HNEW.out b (Nat.le_trans HVZ.out hb)) HNI.out)
      clear hx0
      have below_pre : ∀ {v}, Below v0.heap.size v0 v → Below v0.heap.size v0 v := fun hb => hb
      go_wp2_with fail
      with_reducible refine (HCC.out).mono ?_
      rintro e vB ⟨n', rfl, hd, hin, hb⟩
      have HDD := hide hd
      have HIN := hide hin
      have HBB := hide (below_pre hb)
      have HR4 := hide (HV4.out.below HBB.out HV4.out.lt)
      have HR5 := hide (HV5.out.below HBB.out HV5.out.lt)
      have HKB := hide (below_one HVK.out HBB.out)
      clear hd hin hb
      go_wp2_with (refine wpList_store_row rfl 25 (.tmp 4) (.tmp 77) rfl _ #[.slice n'.q.A n'.q.l.length n'.q.cap, .slice n'.a.A n'.a.l.length n'.a.cap] rfl rfl 25 _ HR4.out Try.size25 rfl (one25 _ _ _ _ _ _) ?_)
      have H4E := hide (HR4.out.row [.slice n'.q.A n'.q.l.length n'.q.cap, .slice n'.a.A n'.a.l.length n'.a.cap])
      have H5E := hide (HR5.out.far (Y := w.heap.size + 2) (by omega) #[.slice n'.q.A n'.q.l.length n'.q.cap, .slice n'.a.A n'.a.l.length n'.a.cap])
      have HKE := hide (below_setRow HKB.out (show w.heap.size ≤ w.heap.size + 2 by omega) #[.slice n'.q.A n'.q.l.length n'.q.cap, .slice n'.a.A n'.a.l.length n'.a.cap])
      have HNE := hide (HIN.out.keep (Kept.row (X := w.heap.size + 2) (okX_not (by omega) (by omega)) #[.slice n'.q.A n'.q.l.length n'.q.cap, .slice n'.a.A n'.a.l.length n'.a.cap]))
      have HPE := hide (show Pkt.In (okX ok w.heap.size (w.heap.size + 4)) ⟨0, 0, ⟨none, [], 0⟩⟩ (vB.setRow (w.heap.size + 2) #[.slice n'.q.A n'.q.l.length n'.q.cap, .slice n'.a.A n'.a.l.length n'.a.cap]) from ⟨SlIn.none _, by unfold I64; decide, by unfold I64; decide⟩)
      generalize hvE : (vB.setRow (w.heap.size + 2) #[.slice n'.q.A n'.q.l.length n'.q.cap, .slice n'.a.A n'.a.l.length n'.a.cap]) = vE at *
      clear hvE
      refine wp_region_plan4 (fun W => Blk W (w.heap.size + 2) 25 [.slice n'.q.A n'.q.l.length n'.q.cap, .slice n'.a.A n'.a.l.length n'.a.cap] ∧ Blk W (w.heap.size + 3) 28 [.int .i64 0, .int .i64 0, .slice none 0 0]) (.take 0 (.take 1 (.take 2 (.run 3 (.run 4 (.run 5 .done)))))) (by kernel_rfl) (by kernel_rfl) ⟨H4E.out.drew, H5E.out.drew⟩ ?_
      have HD4 := hide (show Blk vE.drew (w.heap.size + 2) 25 [.slice n'.q.A n'.q.l.length n'.q.cap, .slice n'.a.A n'.a.l.length n'.a.cap] from H4E.out.drew)
      have HD5 := hide (show Blk vE.drew (w.heap.size + 3) 28 [.int .i64 0, .int .i64 0, .slice none 0 0] from H5E.out.drew)
      have HKD := hide (show Below w.heap.size w vE.drew from HKE.out.drew)
      have HND := hide (show n'.In (okX ok w.heap.size (w.heap.size + 4)) vE.drew from HNE.out.below (Below.refl _ _).drew)
      have HPD := hide (show Pkt.In (okX ok w.heap.size (w.heap.size + 4)) ⟨0, 0, ⟨none, [], 0⟩⟩ vE.drew from HPE.out.below (Below.refl _ _).drew)
      clear H4E H5E HKE HNE HPE
      generalize vE.drew = vD at *
      (refine plan4_take (o := ?_) (v := ?_) (by simp only [List.getElem?_toArray, List.getElem?_cons_zero]; rfl) (yields_run (by rfl) ?_) ?_; rotate_left; (focus (intro w' hw'; obtain ⟨e0, e1⟩ := hw'.1.c2; obtain ⟨f0, f1, f2⟩ := hw'.2.c3; go_simp <;> with_reducible rfl)); (simp only [Act.put, List.setIfInBounds_toArray, List.set_cons_zero, List.set_cons_succ]))
      (refine plan4_take (o := ?_) (v := ?_) (by simp only [List.getElem?_toArray, List.getElem?_cons_succ, List.getElem?_cons_zero]; rfl) (yields_run (by rfl) ?_) ?_; rotate_left; (focus (intro w' hw'; obtain ⟨e0, e1⟩ := hw'.1.c2; obtain ⟨f0, f1, f2⟩ := hw'.2.c3; go_simp <;> with_reducible rfl)); (simp only [Act.put, List.setIfInBounds_toArray, List.set_cons_zero, List.set_cons_succ]))
      (refine plan4_take (o := ?_) (v := ?_) (by simp only [List.getElem?_toArray, List.getElem?_cons_succ, List.getElem?_cons_zero]; rfl) (yields_run (by rfl) ?_) ?_; rotate_left; (focus (intro w' hw'; obtain ⟨e0, e1⟩ := hw'.1.c2; obtain ⟨f0, f1, f2⟩ := hw'.2.c3; go_simp <;> with_reducible rfl)); (simp only [Act.put, List.setIfInBounds_toArray, List.set_cons_zero, List.set_cons_succ]))
      refine plan4_run (o := ?_) (by simp only [List.getElem?_toArray, List.getElem?_cons_succ, List.getElem?_cons_zero]; rfl) ?_
      intro R HR
      have HE4 := hide (HD4.out.row [.slice n'.q.A n'.q.l.length n'.q.cap, .slice n'.a.A n'.a.l.length n'.a.cap])
      have HE5 := hide (HD5.out.far (Y := w.heap.size + 2) (by omega) #[.slice n'.q.A n'.q.l.length n'.q.cap, .slice n'.a.A n'.a.l.length n'.a.cap])
      refine wpList_store_row rfl 25 (.tmp 4) (.tmp 88) rfl _ #[.slice n'.q.A n'.q.l.length n'.q.cap, .slice n'.a.A n'.a.l.length n'.a.cap] rfl rfl 25 _ HD4.out Try.size25 rfl (one25 _ _ _ _ _ _) ?_
      refine HR.out _ _ ⟨HE4.out, HE5.out⟩ ?_
      clear HR
      refine plan4_run (o := ?_) (by simp only [List.getElem?_toArray, List.getElem?_cons_succ, List.getElem?_cons_zero]; rfl) ?_
      intro R HR
      have HG4 := hide (HE4.out.far (Y := w.heap.size + 3) (by omega) #[.int .i64 0, .int .i64 0, .slice none 0 0])
      have HG5 := hide (HE5.out.row [.int .i64 0, .int .i64 0, .slice none 0 0])
      refine wpList_store_row rfl 28 (.tmp 5) (.tmp 89) rfl _ #[.int .i64 0, .int .i64 0, .slice none 0 0] rfl rfl 28 _ HE5.out Try.size28 rfl (one28 _ _ _ _ _) ?_
      refine HR.out _ _ ⟨HG4.out, HG5.out⟩ ?_
      clear HR
      refine plan4_run (o := ?_) (by simp only [List.getElem?_toArray, List.getElem?_cons_succ, List.getElem?_cons_zero]; rfl) ?_
      intro R HR
      go_wp2_with fail
      refine HR.out _ _ ⟨HG4.out, HG5.out⟩ ?_
      clear HR
      refine plan4_done ?_
      go_wp2_with fail
      refine bodyPost_ret (v := .tuple #[.agg #[.slice n'.q.A n'.q.l.length n'.q.cap, .slice n'.a.A n'.a.l.length n'.a.cap], .agg #[.int .i64 0, .int .i64 0, .slice none 0 0], .int .i64 x.2]) (results_cell_cell_tmp rfl _ _ (w.heap.size + 2) 25 #[.slice n'.q.A n'.q.l.length n'.q.cap, .slice n'.a.A n'.a.l.length n'.a.cap] (0, 0) _ (w.heap.size + 3) 28 #[.int .i64 0, .int .i64 0, .slice none 0 0] (0, 0) _ (.int .i64 x.2) rfl rfl rfl HG4.out HG5.out Try.underlying25 rfl Try.size25 Try.underlying28 rfl Try.size28) rfl ?_
      exact hap_fin n' ⟨0, 0, ⟨none, [], 0⟩⟩ x.2 vD (HX.out.trans (by rw [← HDD.out]; rfl)) HPD.out HND.out HKD.out
    · obtain ⟨x, hx0⟩ : ∃ x, x = n.d.cut f2 t2 false := ⟨_, rfl⟩
      have HX := hide (show n.d.happ m = (Pk.zero, x.1, x.2) from (HHX.out.2.2.2.2.2 rfl).trans (by rw [hx0]))
      have HCC := hide (cut_is (n := n) (a := (f2 : Int)) (b := (t2 : Int)) (on := false) (x := x.1) (k := x.2) (by rw [hx0]) v0 (fun b hb => HNEW.out b (Nat.le_trans HVZ.out hb)) HNI.out)
      clear hx0
      have below_pre : ∀ {v}, Below v0.heap.size v0 v → Below v0.heap.size v0 v := fun hb => hb
      go_wp2_with fail
      with_reducible refine (HCC.out).mono ?_
      rintro e vB ⟨n', rfl, hd, hin, hb⟩
      have HDD := hide hd
      have HIN := hide hin
      have HBB := hide (below_pre hb)
      have HR4 := hide (HV4.out.below HBB.out HV4.out.lt)
      have HR5 := hide (HV5.out.below HBB.out HV5.out.lt)
      have HKB := hide (below_one HVK.out HBB.out)
      clear hd hin hb
      go_wp2_with (refine wpList_store_row rfl 25 (.tmp 4) (.tmp 86) rfl _ #[.slice n'.q.A n'.q.l.length n'.q.cap, .slice n'.a.A n'.a.l.length n'.a.cap] rfl rfl 25 _ HR4.out Try.size25 rfl (one25 _ _ _ _ _ _) ?_)
      have H4E := hide (HR4.out.row [.slice n'.q.A n'.q.l.length n'.q.cap, .slice n'.a.A n'.a.l.length n'.a.cap])
      have H5E := hide (HR5.out.far (Y := w.heap.size + 2) (by omega) #[.slice n'.q.A n'.q.l.length n'.q.cap, .slice n'.a.A n'.a.l.length n'.a.cap])
      have HKE := hide (below_setRow HKB.out (show w.heap.size ≤ w.heap.size + 2 by omega) #[.slice n'.q.A n'.q.l.length n'.q.cap, .slice n'.a.A n'.a.l.length n'.a.cap])
      have HNE := hide (HIN.out.keep (Kept.row (X := w.heap.size + 2) (okX_not (by omega) (by omega)) #[.slice n'.q.A n'.q.l.length n'.q.cap, .slice n'.a.A n'.a.l.length n'.a.cap]))
      have HPE := hide (show Pkt.In (okX ok w.heap.size (w.heap.size + 4)) ⟨0, 0, ⟨none, [], 0⟩⟩ (vB.setRow (w.heap.size + 2) #[.slice n'.q.A n'.q.l.length n'.q.cap, .slice n'.a.A n'.a.l.length n'.a.cap]) from ⟨SlIn.none _, by unfold I64; decide, by unfold I64; decide⟩)
      generalize hvE : (vB.setRow (w.heap.size + 2) #[.slice n'.q.A n'.q.l.length n'.q.cap, .slice n'.a.A n'.a.l.length n'.a.cap]) = vE at *
      clear hvE
      refine wp_region_plan4 (fun W => Blk W (w.heap.size + 2) 25 [.slice n'.q.A n'.q.l.length n'.q.cap, .slice n'.a.A n'.a.l.length n'.a.cap] ∧ Blk W (w.heap.size + 3) 28 [.int .i64 0, .int .i64 0, .slice none 0 0]) (.take 0 (.take 1 (.take 2 (.run 3 (.run 4 (.run 5 .done)))))) (by kernel_rfl) (by kernel_rfl) ⟨H4E.out.drew, H5E.out.drew⟩ ?_
      have HD4 := hide (show Blk vE.drew (w.heap.size + 2) 25 [.slice n'.q.A n'.q.l.length n'.q.cap, .slice n'.a.A n'.a.l.length n'.a.cap] from H4E.out.drew)
      have HD5 := hide (show Blk vE.drew (w.heap.size + 3) 28 [.int .i64 0, .int .i64 0, .slice none 0 0] from H5E.out.drew)
      have HKD := hide (show Below w.heap.size w vE.drew from HKE.out.drew)
      have HND := hide (show n'.In (okX ok w.heap.size (w.heap.size + 4)) vE.drew from HNE.out.below (Below.refl _ _).drew)
      have HPD := hide (show Pkt.In (okX ok w.heap.size (w.heap.size + 4)) ⟨0, 0, ⟨none, [], 0⟩⟩ vE.drew from HPE.out.below (Below.refl _ _).drew)
      clear H4E H5E HKE HNE HPE
      generalize vE.drew = vD at *
      (refine plan4_take (o := ?_) (v := ?_) (by simp only [List.getElem?_toArray, List.getElem?_cons_zero]; rfl) (yields_run (by rfl) ?_) ?_; rotate_left; (focus (intro w' hw'; obtain ⟨e0, e1⟩ := hw'.1.c2; obtain ⟨f0, f1, f2⟩ := hw'.2.c3; go_simp <;> with_reducible rfl)); (simp only [Act.put, List.setIfInBounds_toArray, List.set_cons_zero, List.set_cons_succ]))
      (refine plan4_take (o := ?_) (v := ?_) (by simp only [List.getElem?_toArray, List.getElem?_cons_succ, List.getElem?_cons_zero]; rfl) (yields_run (by rfl) ?_) ?_; rotate_left; (focus (intro w' hw'; obtain ⟨e0, e1⟩ := hw'.1.c2; obtain ⟨f0, f1, f2⟩ := hw'.2.c3; go_simp <;> with_reducible rfl)); (simp only [Act.put, List.setIfInBounds_toArray, List.set_cons_zero, List.set_cons_succ]))
      (refine plan4_take (o := ?_) (v := ?_) (by simp only [List.getElem?_toArray, List.getElem?_cons_succ, List.getElem?_cons_zero]; rfl) (yields_run (by rfl) ?_) ?_; rotate_left; (focus (intro w' hw'; obtain ⟨e0, e1⟩ := hw'.1.c2; obtain ⟨f0, f1, f2⟩ := hw'.2.c3; go_simp <;> with_reducible rfl)); (simp only [Act.put, List.setIfInBounds_toArray, List.set_cons_zero, List.set_cons_succ]))
      refine plan4_run (o := ?_) (by simp only [List.getElem?_toArray, List.getElem?_cons_succ, List.getElem?_cons_zero]; rfl) ?_
      intro R HR
      have HE4 := hide (HD4.out.row [.slice n'.q.A n'.q.l.length n'.q.cap, .slice n'.a.A n'.a.l.length n'.a.cap])
      have HE5 := hide (HD5.out.far (Y := w.heap.size + 2) (by omega) #[.slice n'.q.A n'.q.l.length n'.q.cap, .slice n'.a.A n'.a.l.length n'.a.cap])
      refine wpList_store_row rfl 25 (.tmp 4) (.tmp 88) rfl _ #[.slice n'.q.A n'.q.l.length n'.q.cap, .slice n'.a.A n'.a.l.length n'.a.cap] rfl rfl 25 _ HD4.out Try.size25 rfl (one25 _ _ _ _ _ _) ?_
      refine HR.out _ _ ⟨HE4.out, HE5.out⟩ ?_
      clear HR
      refine plan4_run (o := ?_) (by simp only [List.getElem?_toArray, List.getElem?_cons_succ, List.getElem?_cons_zero]; rfl) ?_
      intro R HR
      have HG4 := hide (HE4.out.far (Y := w.heap.size + 3) (by omega) #[.int .i64 0, .int .i64 0, .slice none 0 0])
      have HG5 := hide (HE5.out.row [.int .i64 0, .int .i64 0, .slice none 0 0])
      refine wpList_store_row rfl 28 (.tmp 5) (.tmp 89) rfl _ #[.int .i64 0, .int .i64 0, .slice none 0 0] rfl rfl 28 _ HE5.out Try.size28 rfl (one28 _ _ _ _ _) ?_
      refine HR.out _ _ ⟨HG4.out, HG5.out⟩ ?_
      clear HR
      refine plan4_run (o := ?_) (by simp only [List.getElem?_toArray, List.getElem?_cons_succ, List.getElem?_cons_zero]; rfl) ?_
      intro R HR
      go_wp2_with fail
      refine HR.out _ _ ⟨HG4.out, HG5.out⟩ ?_
      clear HR
      refine plan4_done ?_
      go_wp2_with fail
      refine bodyPost_ret (v := .tuple #[.agg #[.slice n'.q.A n'.q.l.length n'.q.cap, .slice n'.a.A n'.a.l.length n'.a.cap], .agg #[.int .i64 0, .int .i64 0, .slice none 0 0], .int .i64 x.2]) (results_cell_cell_tmp rfl _ _ (w.heap.size + 2) 25 #[.slice n'.q.A n'.q.l.length n'.q.cap, .slice n'.a.A n'.a.l.length n'.a.cap] (0, 0) _ (w.heap.size + 3) 28 #[.int .i64 0, .int .i64 0, .slice none 0 0] (0, 0) _ (.int .i64 x.2) rfl rfl rfl HG4.out HG5.out Try.underlying25 rfl Try.size25 Try.underlying28 rfl Try.size28) rfl ?_
      exact hap_fin n' ⟨0, 0, ⟨none, [], 0⟩⟩ x.2 vD (HX.out.trans (by rw [← HDD.out]; rfl)) HPD.out HND.out HKD.out
end Go.Proofs.Ythmaakiibgdigaa
