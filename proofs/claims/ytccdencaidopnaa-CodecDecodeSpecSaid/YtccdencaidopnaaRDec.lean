/- The reference's Decode. -/
import Derived.Test.YtccdencaidopnaaRVL
import Derived.Test.YtccdencaidopnaaDecE
import Derived.Test.YtccdencaidopnaaREncL
import Derived.Test.YtccdencaidopnaaRChk
import Derived.Test.YtccdencaidopnaaSane
import Derived.Test.YtccdencaidopnaaDiff
namespace Go.Proofs.Ytccdencaidopnaa
open Go.RowKit Go.Deep

theorem rvalue_all : ∀ d, d ≤ 16 → RVAt d := by
  intro d
  induction d using Nat.strongRecOn with
  | _ d ih =>
  intro hd R a l cap at' n w hn hr hat hl hcap hcap'
  by_cases h0 : at' < l.length
  · by_cases h1 : l[at'].toNat = 1
    · exact rvalue_int R d a l cap at' n w hr hl h0 h1
    · by_cases h2 : l[at'].toNat = 2
      · exact rvalue_text R d a l cap at' n w hr hl hcap hcap' h0 h2
      · by_cases h3 : l[at'].toNat = 3
        · exact rvalue_list d hd (fun d' e => ih d' (by omega) (by omega)) R a l cap at' n w hn hr hl hcap hcap' h0 h3
        · exact rvalue_other R d a l cap at' n w hr hl h0 h1 h2 h3
  · exact rvalue_end R d a l cap at' n w hr (by omega)

/-- What the last region of Decode keeps. -/
structure RD (R X : Nat) (a : Option Addr) (l : List UInt8) (cap p : Nat) (bd : Bool) (k m : Int) (s : ByteArray) (A : Option Addr) (N C : Nat) (w : World) : Prop where
  rr : RR R a l cap p bd w
  box : w.heap[X]? = some (.cells #[.int .i64 k, .int .i64 m, .string s, .slice A N C] 24 (0, 0))
theorem RD.below {R X : Nat} {a : Option Addr} {l : List UInt8} {cap p : Nat} {bd : Bool} {k m : Int} {s : ByteArray} {A : Option Addr} {N C : Nat} {w w' : World} (h : RD R X a l cap p bd k m s A N C w) (hb : Below w.heap.size w w') : RD R X a l cap p bd k m s A N C w' :=
  ⟨⟨(hb.block _ h.rr.lt).trans h.rr.block, fun i hi => by
    obtain ⟨b, o, ha, hn, hlt, hc⟩ := h.rr.bytes i hi
    exact ⟨b, o, ha, hn, Nat.lt_of_lt_of_le hlt hb.size, (World.cell?_of_block (a := ⟨b, o + i, none⟩) (hb.block b hlt)).trans hc⟩⟩, (hb.block _ (Array.getElem?_eq_some_iff.1 h.box).1).trans h.box⟩
theorem RD.cells {R X : Nat} {a : Option Addr} {l : List UInt8} {cap p : Nat} {bd : Bool} {k m : Int} {s : ByteArray} {A : Option Addr} {N C : Nat} {w : World} (h : RD R X a l cap p bd k m s A N C w) : (w.cell? ⟨X, 0, none⟩ = some (.int .i64 k) ∧ w.cell? ⟨X, 1, none⟩ = some (.int .i64 m) ∧ w.cell? ⟨X, 2, none⟩ = some (.string s) ∧ w.cell? ⟨X, 3, none⟩ = some (.slice A N C)) ∧ ∀ i, w.frozen? ⟨X, i, none⟩ = false :=
  ⟨⟨by rw [cell_of_row w X 0 _ _ _ h.box]; rfl, by rw [cell_of_row w X 1 _ _ _ h.box]; rfl, by rw [cell_of_row w X 2 _ _ _ h.box]; rfl, by rw [cell_of_row w X 3 _ _ _ h.box]; rfl⟩, fun i => frozen_of_row w X i _ _ h.box⟩

set_option maxRecDepth 10000 in
set_option maxHeartbeats 4000000 in
theorem rdecode_any (a : Option Addr) (l : List UInt8) (cap : Nat) (w : World) (h : Raw w a l cap) (hl : l.length ≤ 100000) : Calls Try.prog 19 #[.slice a l.length cap] w (DecPost l w) := by
  have HS := hide (show RR (w.heap.size + 1) a l cap 0 false ((w.alloc Z24).alloc (.cells #[.slice a l.length cap, .int .i64 0, .bool false] 60)) from by
    refine ⟨by simpa using heap_alloc_new (w.alloc Z24) (.cells #[.slice a l.length cap, .int .i64 0, .bool false] 60), fun i hi => ?_⟩
    obtain ⟨b, o, e, hlt, hc⟩ := (h.inb (by intro e; rw [e] at hi; simp at hi)).bytes i hi
    refine ⟨b, o, e, by omega, by simp; omega, ?_⟩
    rw [World.cell?_of_block (a := ⟨b, o + i, none⟩) (Below.heap_alloc _ _ _ (by simp; omega)), World.cell?_of_block (a := ⟨b, o + i, none⟩) (Below.heap_alloc _ _ _ hlt)]
    exact hc)
  have HV := hide (rvalue_all 16 (Nat.le_refl _) (w.heap.size + 1) a l cap 0 0 _ (by decide) HS.out (Nat.zero_le _) (by omega) h.le h.top)
  have HRES := hide (show ResB ((w.alloc Z24).alloc (.cells #[.slice a l.length cap, .int .i64 0, .bool false] 60)) w.heap.size from (Below.heap_alloc _ _ _ (by simp)).trans (heap_alloc_new w _))
  have HBE := hide (show Below w.heap.size w ((w.alloc Z24).alloc (.cells #[.slice a l.length cap, .int .i64 0, .bool false] 60)) from (below_new w _).alloc (by simp) _)
  have HRAW := hide h
  clear h
  go_enter Try.func19, Try.ntmps19
  go_wp2_with fail
  refine HV.out.mono ?_
  rintro e w1 he
  obtain ⟨k, m, s, A, N, C, p, bd, rfl, hone⟩ := he.one
  have HON := hide hone
  have HR1 := hide (HRES.out.only hone.2.2.1 (by omega))
  have HB1 := hide (below_only HBE.out hone.2.2.1 (by omega))
  have HSZ1 := hide (show w.heap.size + 2 ≤ w1.heap.size by have := hone.2.2.1.size; simpa using this)
  have HRD : Hid (RD (w.heap.size + 1) w1.heap.size a l cap p bd k m s A N C (w1.alloc (.cells #[.int .i64 k, .int .i64 m, .string s, .slice A N C] 24))) := hide ⟨hone.2.1.alloc _, heap_alloc_new w1 _⟩
  have HRR : Hid (ResB (w1.alloc (.cells #[.int .i64 k, .int .i64 m, .string s, .slice A N C] 24)) w.heap.size) := hide ((Below.heap_alloc _ _ _ (by have := HSZ1.out; omega)).trans HR1.out)
  have HBB : Hid (Below w.heap.size w (w1.alloc (.cells #[.int .i64 k, .int .i64 m, .string s, .slice A N C] 24))) := hide (HB1.out.alloc (by have := HSZ1.out; omega) _)
  have hpl := hone.1
  have hcase := hone.2.2.2
  have HIN : Hid (∀ t : VT, t.In w1 → t.In (w1.alloc (.cells #[.int .i64 k, .int .i64 m, .string s, .slice A N C] 24))) := hide (fun t ht => ht.alloc _)
  clear hone he HON HB1 HR1 HV HBE HRES HS
  go_wp2_with fail
  refine name_code ?_
  intro Wr HWr
  have HF : Hid (RD (w.heap.size + 1) w1.heap.size a l cap p bd k m s A N C Wr ∧ ResB Wr w.heap.size ∧ Below w.heap.size w Wr ∧ (∀ t : VT, t.In w1 → t.In Wr)) := by
    have e : Wr = (w1.alloc (.cells #[.int .i64 k, .int .i64 m, .string s, .slice A N C] 24)) := HWr.out
    subst e
    exact hide ⟨HRD.out, HRR.out, HBB.out, HIN.out⟩
  clear HWr HRD HRR HBB HIN
  have HX := hide (show w.heap.size < w1.heap.size by have := HSZ1.out; omega)
  have HS0 : Hid (Hid (Below Wr.heap.size Wr Wr.drew)) := hide (hide (Below.refl _ _).drew)
  rcases hcase with ⟨rfl, t, hc4, hin, hw, hdp, hbl, hlu, _⟩ | ⟨rfl, hno⟩
  · obtain ⟨rfl, rfl, rfl, rfl, rfl, rfl⟩ : t.kind = k ∧ t.num = m ∧ t.str = s ∧ t.adr = A ∧ t.els.length = N ∧ t.cap = C := by simpa [cells4, VT.sl] using hc4
    clear hc4
    have HT := hide (And.intro (HF.out.2.2.2 t hin) (And.intro hw (And.intro hdp hlu)))
    have HTB := hide (show ∀ b ∈ t.blocks, b ≠ w.heap.size from fun b hb => by have := (hbl b hb).1; simp at this; omega)
    clear hin hw hdp hbl hlu
    by_cases hpe : p = l.length
    · have hbne : ((p : Int) != (l.length : Int)) = false := by simp; omega
      have HLE := hide (show l = t.enc by have := HT.out.2.2.2; rw [hpe] at this; simpa using this)
      have HCK := hide (show chk t = 0 by simp [chk, HT.out.2.1]; have := HT.out.2.2.1; omega)
      have HSZ := hide (show t.sz ≤ 1000000 by have h1 := VT.sz_le_enc _ t (Nat.le_refl _) HT.out.2.1; rw [← HLE.out] at h1; omega)
      have HEL := hide (show t.enc.length ≤ 4294967296 by rw [← HLE.out]; omega)
      have hlne : l ≠ [] := by rw [HLE.out]; exact enc_ne t
      obtain ⟨b, o, rfl⟩ : ∃ b o, a = some ⟨b, o, none⟩ := by
        have := (HRAW.out.inb hlne).bytes 0 (List.length_pos_iff.2 hlne)
        obtain ⟨b, o, e, _⟩ := this
        exact ⟨b, o, e⟩
      have HCB := hide (show ∀ w', Below Wr.heap.size Wr w' → (convert 27 9 (.slice (some ⟨b, o, none⟩) l.length cap)).run Try.prog w' = .ok (.string ⟨t.enc.toArray⟩) w' from fun w' hb => by
        have hq := (((HRAW.out.later HF.out.2.2.1).later hb).inb hlne).conv l.length cap (Nat.le_refl _)
        rw [List.take_length] at hq
        rw [← HLE.out]
        exact hq)
      generalize hS : (⟨t.enc.toArray⟩ : ByteArray) = S at *
      clear hlne
      refine wp_region_plan3 (fun W => Hid (Below Wr.heap.size Wr W)) (.take 0 (.take 1 (.take 2 (.take 3 (.take 4 (.take 5 (.take 6 (.take 7 (.take 8 (.take 9 (.take 10 (.take 11 (.take 12 (.take 13 (.take 14 (.run 15 (.take 16 (.take 17 (.take 18 (.take 19 (.take 22 (.take 23 (.run 20 (.run 21 (.take 24 (.take 25 .done)))))))))))))))))))))))))) (by kernel_rfl) (by kernel_rfl) HS0.out ?_
      (refine plan3_take (o := ?_) (v := ?_) (by simp only [List.getElem?_toArray, List.getElem?_cons_zero]; rfl) (yields_run (by rfl) ?_) ?_; rotate_left; (focus (intro w' _; go_simp <;> with_reducible rfl)); (simp only [Act.put, List.setIfInBounds_toArray, List.set_cons_zero, List.set_cons_succ]))
      (refine plan3_take (o := ?_) (v := ?_) (by simp only [List.getElem?_toArray, List.getElem?_cons_succ, List.getElem?_cons_zero]; rfl) (yields_run (by rfl) ?_) ?_; rotate_left; (focus (intro w' _; go_simp <;> with_reducible rfl)); (simp only [Act.put, List.setIfInBounds_toArray, List.set_cons_zero, List.set_cons_succ]))
      (refine plan3_take (o := ?_) (v := ?_) (by simp only [List.getElem?_toArray, List.getElem?_cons_succ, List.getElem?_cons_zero]; rfl) (yields_run (by rfl) ?_) ?_; rotate_left; (focus (intro w' _; go_simp <;> with_reducible rfl)); (simp only [Act.put, List.setIfInBounds_toArray, List.set_cons_zero, List.set_cons_succ]))
      (refine plan3_take (o := ?_) (v := ?_) (by simp only [List.getElem?_toArray, List.getElem?_cons_succ, List.getElem?_cons_zero]; rfl) (yields_run (by rfl) ?_) ?_; rotate_left; (focus (intro w' hS; obtain ⟨c0, c1, c2, cf⟩ := (HF.out.1.below hS.out).rr.cells; go_simp <;> with_reducible rfl)); (simp only [Act.put, List.setIfInBounds_toArray, List.set_cons_zero, List.set_cons_succ]))
      (refine plan3_take (o := ?_) (v := ?_) (by simp only [List.getElem?_toArray, List.getElem?_cons_succ, List.getElem?_cons_zero]; rfl) (yields_run (by rfl) ?_) ?_; rotate_left; (focus (intro w' _; go_simp <;> with_reducible rfl)); (simp only [Act.put, List.setIfInBounds_toArray, List.set_cons_zero, List.set_cons_succ]))
      (refine plan3_take (o := ?_) (v := ?_) (by simp only [List.getElem?_toArray, List.getElem?_cons_succ, List.getElem?_cons_zero]; rfl) (yields_run (by rfl) ?_) ?_; rotate_left; (focus (intro w' _; go_simp <;> with_reducible rfl)); (simp only [Act.put, List.setIfInBounds_toArray, List.set_cons_zero, List.set_cons_succ]))
      (refine plan3_take (o := ?_) (v := ?_) (by simp only [List.getElem?_toArray, List.getElem?_cons_succ, List.getElem?_cons_zero]; rfl) (yields_run (by rfl) ?_) ?_; rotate_left; (focus (intro w' _; go_simp <;> with_reducible rfl)); (simp only [Act.put, List.setIfInBounds_toArray, List.set_cons_zero, List.set_cons_succ]))
      (refine plan3_take (o := ?_) (v := ?_) (by simp only [List.getElem?_toArray, List.getElem?_cons_succ, List.getElem?_cons_zero]; rfl) (yields_run (by rfl) ?_) ?_; rotate_left; (focus (intro w' _; go_simp <;> with_reducible rfl)); (simp only [Act.put, List.setIfInBounds_toArray, List.set_cons_zero, List.set_cons_succ]))
      (refine plan3_take (o := ?_) (v := ?_) (by simp only [List.getElem?_toArray, List.getElem?_cons_succ, List.getElem?_cons_zero]; rfl) (yields_run (by rfl) ?_) ?_; rotate_left; (focus (intro w' hS; obtain ⟨c0, c1, c2, cf⟩ := (HF.out.1.below hS.out).rr.cells; go_simp <;> with_reducible rfl)); (simp only [Act.put, List.setIfInBounds_toArray, List.set_cons_zero, List.set_cons_succ]))
      (refine plan3_take (o := ?_) (v := ?_) (by simp only [List.getElem?_toArray, List.getElem?_cons_succ, List.getElem?_cons_zero]; rfl) (yields_run (by rfl) ?_) ?_; rotate_left; (focus (intro w' _; go_simp <;> with_reducible rfl)); (simp only [Act.put, List.setIfInBounds_toArray, List.set_cons_zero, List.set_cons_succ]))
      (refine plan3_take (o := ?_) (v := ?_) (by simp only [List.getElem?_toArray, List.getElem?_cons_succ, List.getElem?_cons_zero]; rfl) (yields_run (by rfl) ?_) ?_; rotate_left; (focus (intro w' _; go_simp <;> with_reducible rfl)); (simp only [Act.put, List.setIfInBounds_toArray, List.set_cons_zero, List.set_cons_succ]))
      (refine plan3_take (o := ?_) (v := ?_) (by simp only [List.getElem?_toArray, List.getElem?_cons_succ, List.getElem?_cons_zero]; rfl) (yields_run (by rfl) ?_) ?_; rotate_left; (focus (intro w' _; go_simp <;> with_reducible rfl)); (simp only [Act.put, List.setIfInBounds_toArray, List.set_cons_zero, List.set_cons_succ]))
      (refine plan3_take (o := ?_) (v := ?_) (by simp only [List.getElem?_toArray, List.getElem?_cons_succ, List.getElem?_cons_zero]; rfl) (yields_run (by rfl) ?_) ?_; rotate_left; (focus (intro w' _; go_simp <;> with_reducible rfl)); (simp only [Act.put, List.setIfInBounds_toArray, List.set_cons_zero, List.set_cons_succ]))
      (refine plan3_take (o := ?_) (v := ?_) (by simp only [List.getElem?_toArray, List.getElem?_cons_succ, List.getElem?_cons_zero]; rfl) (yields_run (by rfl) ?_) ?_; rotate_left; (focus (intro w' _; go_simp <;> with_reducible rfl)); (simp only [Act.put, List.setIfInBounds_toArray, List.set_cons_zero, List.set_cons_succ]))
      (refine plan3_take (o := ?_) (v := ?_) (by simp only [List.getElem?_toArray, List.getElem?_cons_succ, List.getElem?_cons_zero]; rfl) (yields_run (by rfl) ?_) ?_; rotate_left; (focus (intro w' hS; obtain ⟨⟨c0, c1, c2, c3⟩, cf⟩ := (HF.out.1.below hS.out).cells; go_simp <;> with_reducible rfl)); (simp only [Act.put, List.setIfInBounds_toArray, List.set_cons_zero, List.set_cons_succ]))
      refine plan3_run (o := ?_) (by simp only [List.getElem?_toArray, List.getElem?_cons_succ, List.getElem?_cons_zero]; rfl) ?_
      intro R0 HR
      go_wp2_with fail
      have hck := rcheck_any t Wr.drew (HT.out.1.move fun _ _ => rfl) HSZ.out
      rw [VT.val, HCK.out] at hck
      refine hck.mono ?_
      clear hck
      rintro e wA ⟨rfl, hb⟩
      have HSA : Hid (Hid (Below Wr.heap.size Wr wA)) := hide (hide (below_one HS0.out.out hb))
      clear hb
      go_wp2_with fail
      refine HR.out _ _ HSA.out ?_
      clear HR
      (refine plan3_take (o := ?_) (v := ?_) (by simp only [List.getElem?_toArray, List.getElem?_cons_succ, List.getElem?_cons_zero]; rfl) (yields_run (by rfl) ?_) ?_; rotate_left; (focus (intro w' _; go_simp <;> with_reducible rfl)); (simp only [Act.put, List.setIfInBounds_toArray, List.set_cons_zero, List.set_cons_succ]))
      (refine plan3_take (o := ?_) (v := ?_) (by simp only [List.getElem?_toArray, List.getElem?_cons_succ, List.getElem?_cons_zero]; rfl) (yields_run (by rfl) ?_) ?_; rotate_left; (focus (intro w' _; go_simp <;> with_reducible rfl)); (simp only [Act.put, List.setIfInBounds_toArray, List.set_cons_zero, List.set_cons_succ]))
      (refine plan3_take (o := ?_) (v := ?_) (by simp only [List.getElem?_toArray, List.getElem?_cons_succ, List.getElem?_cons_zero]; rfl) (yields_run (by rfl) ?_) ?_; rotate_left; (focus (intro w' _; go_simp <;> with_reducible rfl)); (simp only [Act.put, List.setIfInBounds_toArray, List.set_cons_zero, List.set_cons_succ]))
      (refine plan3_take (o := ?_) (v := ?_) (by simp only [List.getElem?_toArray, List.getElem?_cons_succ, List.getElem?_cons_zero]; rfl) (yields_run (by rfl) ?_) ?_; rotate_left; (focus (intro w' hS; obtain ⟨⟨c0, c1, c2, c3⟩, cf⟩ := (HF.out.1.below hS.out).cells; go_simp <;> with_reducible rfl)); (simp only [Act.put, List.setIfInBounds_toArray, List.set_cons_zero, List.set_cons_succ]))
      (refine plan3_take (o := ?_) (v := ?_) (by simp only [List.getElem?_toArray, List.getElem?_cons_succ, List.getElem?_cons_zero]; rfl) (yields_run (by rfl) ?_) ?_; rotate_left; (focus (intro w' _; go_simp <;> with_reducible rfl)); (simp only [Act.put, List.setIfInBounds_toArray, List.set_cons_zero, List.set_cons_succ]))
      (refine plan3_take (o := ?_) (v := ?_) (by simp only [List.getElem?_toArray, List.getElem?_cons_succ, List.getElem?_cons_zero]; rfl) (yields_run (by rfl) ?_) ?_; rotate_left; (focus (intro w' hS; have hq := HCB.out w' hS.out; go_simp <;> with_reducible rfl)); (simp only [Act.put, List.setIfInBounds_toArray, List.set_cons_zero, List.set_cons_succ]))
      refine plan3_run (o := ?_) (by simp only [List.getElem?_toArray, List.getElem?_cons_succ, List.getElem?_cons_zero]; rfl) ?_
      intro R0 HR
      go_wp2_with fail
      have hen := renc_any _ t (Nat.le_refl _) wA (HT.out.1.below HSA.out.out (Nat.le_refl _)) HEL.out
      rw [VT.val] at hen
      refine hen.mono ?_
      clear hen
      rintro e wB ⟨v, rfl, hb, hov⟩
      have HSB : Hid (Hid (Below Wr.heap.size Wr wB)) := hide (hide (below_one HSA.out.out hb))
      have hcv := hov.conv
      have HCV := hide hcv
      clear hb hcv
      go_wp2_with fail
      refine HR.out _ _ HSB.out ?_
      clear HR
      refine plan3_run (o := ?_) (by simp only [List.getElem?_toArray, List.getElem?_cons_succ, List.getElem?_cons_zero]; rfl) ?_
      intro R0 HR
      have hcv := HCV.out
      go_wp2_with fail
      refine HR.out _ _ HSB.out ?_
      clear HR hcv
      (refine plan3_take (o := ?_) (v := ?_) (by simp only [List.getElem?_toArray, List.getElem?_cons_succ, List.getElem?_cons_zero]; rfl) (yields_run (by rfl) ?_) ?_; rotate_left; (focus (intro w' _; go_simp <;> with_reducible rfl)); (simp only [Act.put, List.setIfInBounds_toArray, List.set_cons_zero, List.set_cons_succ]))
      (refine plan3_take (o := ?_) (v := ?_) (by simp only [List.getElem?_toArray, List.getElem?_cons_succ, List.getElem?_cons_zero]; rfl) (yields_run (by rfl) ?_) ?_; rotate_left; (focus (intro w' _; go_simp <;> with_reducible rfl)); (simp only [Act.put, List.setIfInBounds_toArray, List.set_cons_zero, List.set_cons_succ]))
      refine plan3_done ?_
      have HRB := hide (show ResB wB w.heap.size from (HSB.out.out.block _ (Array.getElem?_eq_some_iff.1 HF.out.2.1).1).trans HF.out.2.1)
      obtain ⟨⟨x0, x1, x2, x3⟩, xf⟩ := HRB.out.cells
      obtain ⟨⟨c0, c1, c2, c3⟩, cf⟩ := (HF.out.1.below HSB.out.out).cells
      have HBD := hide (((((below_one HF.out.2.2.1 HSB.out.out).setCell (p := ⟨w.heap.size, 0, none⟩) (Nat.le_refl _) (.int .i64 t.kind)).setCell (p := ⟨w.heap.size, 1, none⟩) (Nat.le_refl _) (.int .i64 t.num)).setCell (p := ⟨w.heap.size, 2, none⟩) (Nat.le_refl _) (.string t.str)).setCell (p := ⟨w.heap.size, 3, none⟩) (Nat.le_refl _) (.slice t.adr t.els.length t.cap))
      have HTI := hide (show t.In (put4 wB w.heap.size (.int .i64 t.kind) (.int .i64 t.num) (.string t.str) (.slice t.adr t.els.length t.cap)) from (HT.out.1.below HSB.out.out (Nat.le_refl _)).move fun b hb => put4_block _ _ _ _ _ _ _ (by have := HTB.out b hb; omega))
      go_wp2_with fail
      refine bodyPost_ret (v := .tuple #[.agg #[.int .i64 t.kind, .int .i64 t.num, .string t.str, .slice t.adr t.els.length t.cap], .int .i64 0]) (by simp [results, Try.results19, go_sem, x0, x1, x2, x3]) rfl ?_
      exact ⟨.inl ⟨t, by rw [VT.val], HTI.out, HT.out.2.1, HT.out.2.2.1, HLE.out⟩, HBD.out⟩
    · have hbne : ((p : Int) != (l.length : Int)) = true := by simp; omega
      have HNO := hide (show ∀ u : VT, u.wf = true → u.dep ≤ 16 → u.fits → l ≠ u.enc from fun u hu _ hf h => by
        obtain ⟨hin, hw, _, hlu⟩ := HT.out
        have h9 := (VT.enc_prefix _ t u (l.drop p) [] (Nat.le_refl _) hw hu (VT.In.fits _ (Nat.le_refl _) hin) hf (by simpa [← h] using hlu.symm)).2
        have := congrArg List.length h9
        simp at this
        omega)
      refine wp_region_plan3 (fun W => Hid (Below Wr.heap.size Wr W)) (.take 0 (.take 1 (.take 2 (.take 3 (.take 4 (.take 5 (.take 6 (.take 7 (.take 8 (.take 9 (.take 10 (.take 11 (.take 12 (.take 13 (.take 14 (.take 15 (.take 16 (.take 17 (.take 18 (.take 19 (.take 20 (.take 21 (.take 22 (.take 23 (.take 24 (.take 25 .done)))))))))))))))))))))))))) (by kernel_rfl) (by kernel_rfl) HS0.out ?_
      (refine plan3_take (o := ?_) (v := ?_) (by simp only [List.getElem?_toArray, List.getElem?_cons_zero]; rfl) (yields_run (by rfl) ?_) ?_; rotate_left; (focus (intro w' _; go_simp <;> with_reducible rfl)); (simp only [Act.put, List.setIfInBounds_toArray, List.set_cons_zero, List.set_cons_succ]))
      (refine plan3_take (o := ?_) (v := ?_) (by simp only [List.getElem?_toArray, List.getElem?_cons_succ, List.getElem?_cons_zero]; rfl) (yields_run (by rfl) ?_) ?_; rotate_left; (focus (intro w' _; go_simp <;> with_reducible rfl)); (simp only [Act.put, List.setIfInBounds_toArray, List.set_cons_zero, List.set_cons_succ]))
      (refine plan3_take (o := ?_) (v := ?_) (by simp only [List.getElem?_toArray, List.getElem?_cons_succ, List.getElem?_cons_zero]; rfl) (yields_run (by rfl) ?_) ?_; rotate_left; (focus (intro w' _; go_simp <;> with_reducible rfl)); (simp only [Act.put, List.setIfInBounds_toArray, List.set_cons_zero, List.set_cons_succ]))
      (refine plan3_take (o := ?_) (v := ?_) (by simp only [List.getElem?_toArray, List.getElem?_cons_succ, List.getElem?_cons_zero]; rfl) (yields_run (by rfl) ?_) ?_; rotate_left; (focus (intro w' hS; obtain ⟨c0, c1, c2, cf⟩ := (HF.out.1.below hS.out).rr.cells; go_simp <;> with_reducible rfl)); (simp only [Act.put, List.setIfInBounds_toArray, List.set_cons_zero, List.set_cons_succ]))
      (refine plan3_take (o := ?_) (v := ?_) (by simp only [List.getElem?_toArray, List.getElem?_cons_succ, List.getElem?_cons_zero]; rfl) (yields_run (by rfl) ?_) ?_; rotate_left; (focus (intro w' _; go_simp <;> with_reducible rfl)); (simp only [Act.put, List.setIfInBounds_toArray, List.set_cons_zero, List.set_cons_succ]))
      (refine plan3_take (o := ?_) (v := ?_) (by simp only [List.getElem?_toArray, List.getElem?_cons_succ, List.getElem?_cons_zero]; rfl) (yields_run (by rfl) ?_) ?_; rotate_left; (focus (intro w' _; go_simp <;> with_reducible rfl)); (simp only [Act.put, List.setIfInBounds_toArray, List.set_cons_zero, List.set_cons_succ]))
      (refine plan3_take (o := ?_) (v := ?_) (by simp only [List.getElem?_toArray, List.getElem?_cons_succ, List.getElem?_cons_zero]; rfl) (yields_run (by rfl) ?_) ?_; rotate_left; (focus (intro w' _; go_simp <;> with_reducible rfl)); (simp only [Act.put, List.setIfInBounds_toArray, List.set_cons_zero, List.set_cons_succ]))
      (refine plan3_take (o := ?_) (v := ?_) (by simp only [List.getElem?_toArray, List.getElem?_cons_succ, List.getElem?_cons_zero]; rfl) (yields_run (by rfl) ?_) ?_; rotate_left; (focus (intro w' _; go_simp <;> with_reducible rfl)); (simp only [Act.put, List.setIfInBounds_toArray, List.set_cons_zero, List.set_cons_succ]))
      (refine plan3_take (o := ?_) (v := ?_) (by simp only [List.getElem?_toArray, List.getElem?_cons_succ, List.getElem?_cons_zero]; rfl) (yields_run (by rfl) ?_) ?_; rotate_left; (focus (intro w' hS; obtain ⟨c0, c1, c2, cf⟩ := (HF.out.1.below hS.out).rr.cells; go_simp <;> with_reducible rfl)); (simp only [Act.put, List.setIfInBounds_toArray, List.set_cons_zero, List.set_cons_succ]))
      (refine plan3_take (o := ?_) (v := ?_) (by simp only [List.getElem?_toArray, List.getElem?_cons_succ, List.getElem?_cons_zero]; rfl) (yields_run (by rfl) ?_) ?_; rotate_left; (focus (intro w' _; go_simp <;> with_reducible rfl)); (simp only [Act.put, List.setIfInBounds_toArray, List.set_cons_zero, List.set_cons_succ]))
      (refine plan3_take (o := ?_) (v := ?_) (by simp only [List.getElem?_toArray, List.getElem?_cons_succ, List.getElem?_cons_zero]; rfl) (yields_run (by rfl) ?_) ?_; rotate_left; (focus (intro w' _; go_simp <;> with_reducible rfl)); (simp only [Act.put, List.setIfInBounds_toArray, List.set_cons_zero, List.set_cons_succ]))
      (refine plan3_take (o := ?_) (v := ?_) (by simp only [List.getElem?_toArray, List.getElem?_cons_succ, List.getElem?_cons_zero]; rfl) (yields_run (by rfl) ?_) ?_; rotate_left; (focus (intro w' _; go_simp <;> with_reducible rfl)); (simp only [Act.put, List.setIfInBounds_toArray, List.set_cons_zero, List.set_cons_succ]))
      (refine plan3_take (o := ?_) (v := ?_) (by simp only [List.getElem?_toArray, List.getElem?_cons_succ, List.getElem?_cons_zero]; rfl) (yields_run (by rfl) ?_) ?_; rotate_left; (focus (intro w' _; go_simp <;> with_reducible rfl)); (simp only [Act.put, List.setIfInBounds_toArray, List.set_cons_zero, List.set_cons_succ]))
      (refine plan3_take (o := ?_) (v := ?_) (by simp only [List.getElem?_toArray, List.getElem?_cons_succ, List.getElem?_cons_zero]; rfl) (yields_run (by rfl) ?_) ?_; rotate_left; (focus (intro w' _; go_simp <;> with_reducible rfl)); (simp only [Act.put, List.setIfInBounds_toArray, List.set_cons_zero, List.set_cons_succ]))
      (refine plan3_take (o := ?_) (by simp only [List.getElem?_toArray, List.getElem?_cons_succ, List.getElem?_cons_zero]; rfl) (yields_not (by rfl)) ?_; (simp only [Act.put, List.setIfInBounds_toArray, List.set_cons_zero, List.set_cons_succ]))
      (refine plan3_take (o := ?_) (by simp only [List.getElem?_toArray, List.getElem?_cons_succ, List.getElem?_cons_zero]; rfl) (yields_not (by rfl)) ?_; (simp only [Act.put, List.setIfInBounds_toArray, List.set_cons_zero, List.set_cons_succ]))
      (refine plan3_take (o := ?_) (by simp only [List.getElem?_toArray, List.getElem?_cons_succ, List.getElem?_cons_zero]; rfl) (yields_not (by rfl)) ?_; (simp only [Act.put, List.setIfInBounds_toArray, List.set_cons_zero, List.set_cons_succ]))
      (refine plan3_take (o := ?_) (v := ?_) (by simp only [List.getElem?_toArray, List.getElem?_cons_succ, List.getElem?_cons_zero]; rfl) (yields_run (by rfl) ?_) ?_; rotate_left; (focus (intro w' _; go_simp <;> with_reducible rfl)); (simp only [Act.put, List.setIfInBounds_toArray, List.set_cons_zero, List.set_cons_succ]))
      (refine plan3_take (o := ?_) (v := ?_) (by simp only [List.getElem?_toArray, List.getElem?_cons_succ, List.getElem?_cons_zero]; rfl) (yields_run (by rfl) ?_) ?_; rotate_left; (focus (intro w' _; go_simp <;> with_reducible rfl)); (simp only [Act.put, List.setIfInBounds_toArray, List.set_cons_zero, List.set_cons_succ]))
      (refine plan3_take (o := ?_) (by simp only [List.getElem?_toArray, List.getElem?_cons_succ, List.getElem?_cons_zero]; rfl) (yields_not (by rfl)) ?_; (simp only [Act.put, List.setIfInBounds_toArray, List.set_cons_zero, List.set_cons_succ]))
      (refine plan3_take (o := ?_) (by simp only [List.getElem?_toArray, List.getElem?_cons_succ, List.getElem?_cons_zero]; rfl) (yields_not (by rfl)) ?_; (simp only [Act.put, List.setIfInBounds_toArray, List.set_cons_zero, List.set_cons_succ]))
      (refine plan3_take (o := ?_) (by simp only [List.getElem?_toArray, List.getElem?_cons_succ, List.getElem?_cons_zero]; rfl) (yields_not (by rfl)) ?_; (simp only [Act.put, List.setIfInBounds_toArray, List.set_cons_zero, List.set_cons_succ]))
      (refine plan3_take (o := ?_) (by simp only [List.getElem?_toArray, List.getElem?_cons_succ, List.getElem?_cons_zero]; rfl) (yields_not (by rfl)) ?_; (simp only [Act.put, List.setIfInBounds_toArray, List.set_cons_zero, List.set_cons_succ]))
      (refine plan3_take (o := ?_) (by simp only [List.getElem?_toArray, List.getElem?_cons_succ, List.getElem?_cons_zero]; rfl) (yields_not (by rfl)) ?_; (simp only [Act.put, List.setIfInBounds_toArray, List.set_cons_zero, List.set_cons_succ]))
      (refine plan3_take (o := ?_) (by simp only [List.getElem?_toArray, List.getElem?_cons_succ, List.getElem?_cons_zero]; rfl) (yields_not (by rfl)) ?_; (simp only [Act.put, List.setIfInBounds_toArray, List.set_cons_zero, List.set_cons_succ]))
      (refine plan3_take (o := ?_) (v := ?_) (by simp only [List.getElem?_toArray, List.getElem?_cons_succ, List.getElem?_cons_zero]; rfl) (yields_run (by rfl) ?_) ?_; rotate_left; (focus (intro w' _; go_simp <;> with_reducible rfl)); (simp only [Act.put, List.setIfInBounds_toArray, List.set_cons_zero, List.set_cons_succ]))
      refine plan3_done ?_
      obtain ⟨⟨x0, x1, x2, x3⟩, xf⟩ := HF.out.2.1.cells
      have HBD := hide (((((HF.out.2.2.1.setCell (p := ⟨w.heap.size, 0, none⟩) (Nat.le_refl _) (.int .i64 0)).setCell (p := ⟨w.heap.size, 1, none⟩) (Nat.le_refl _) (.int .i64 0)).setCell (p := ⟨w.heap.size, 2, none⟩) (Nat.le_refl _) (.string ⟨#[]⟩)).setCell (p := ⟨w.heap.size, 3, none⟩) (Nat.le_refl _) (.slice none 0 0)).drew)
      go_wp2_with fail
      refine bodyPost_ret (v := .tuple #[.agg #[.int .i64 0, .int .i64 0, .string ⟨#[]⟩, .slice none 0 0], .int .i64 10]) (by simp [results, Try.results19, go_sem, x0, x1, x2, x3]) rfl ?_
      exact ⟨.inr ⟨rfl, HNO.out⟩, HBD.out⟩
  · have HNO := hide (show ∀ u : VT, u.wf = true → u.dep ≤ 16 → u.fits → l ≠ u.enc from fun u hu hd hf h => hno u [] hu hd hf (by simpa using h))
    clear hno
    refine wp_region_plan3 (fun W => Hid (Below Wr.heap.size Wr W)) (.take 0 (.take 1 (.take 2 (.take 3 (.take 4 (.take 5 (.take 6 (.take 7 (.take 8 (.take 9 (.take 10 (.take 11 (.take 12 (.take 13 (.take 14 (.take 15 (.take 16 (.take 17 (.take 18 (.take 19 (.take 20 (.take 21 (.take 22 (.take 23 (.take 24 (.take 25 .done)))))))))))))))))))))))))) (by kernel_rfl) (by kernel_rfl) HS0.out ?_
    (refine plan3_take (o := ?_) (v := ?_) (by simp only [List.getElem?_toArray, List.getElem?_cons_zero]; rfl) (yields_run (by rfl) ?_) ?_; rotate_left; (focus (intro w' _; go_simp <;> with_reducible rfl)); (simp only [Act.put, List.setIfInBounds_toArray, List.set_cons_zero, List.set_cons_succ]))
    (refine plan3_take (o := ?_) (v := ?_) (by simp only [List.getElem?_toArray, List.getElem?_cons_succ, List.getElem?_cons_zero]; rfl) (yields_run (by rfl) ?_) ?_; rotate_left; (focus (intro w' _; go_simp <;> with_reducible rfl)); (simp only [Act.put, List.setIfInBounds_toArray, List.set_cons_zero, List.set_cons_succ]))
    (refine plan3_take (o := ?_) (v := ?_) (by simp only [List.getElem?_toArray, List.getElem?_cons_succ, List.getElem?_cons_zero]; rfl) (yields_run (by rfl) ?_) ?_; rotate_left; (focus (intro w' _; go_simp <;> with_reducible rfl)); (simp only [Act.put, List.setIfInBounds_toArray, List.set_cons_zero, List.set_cons_succ]))
    (refine plan3_take (o := ?_) (v := ?_) (by simp only [List.getElem?_toArray, List.getElem?_cons_succ, List.getElem?_cons_zero]; rfl) (yields_run (by rfl) ?_) ?_; rotate_left; (focus (intro w' hS; obtain ⟨c0, c1, c2, cf⟩ := (HF.out.1.below hS.out).rr.cells; go_simp <;> with_reducible rfl)); (simp only [Act.put, List.setIfInBounds_toArray, List.set_cons_zero, List.set_cons_succ]))
    (refine plan3_take (o := ?_) (v := ?_) (by simp only [List.getElem?_toArray, List.getElem?_cons_succ, List.getElem?_cons_zero]; rfl) (yields_run (by rfl) ?_) ?_; rotate_left; (focus (intro w' _; go_simp <;> with_reducible rfl)); (simp only [Act.put, List.setIfInBounds_toArray, List.set_cons_zero, List.set_cons_succ]))
    (refine plan3_take (o := ?_) (by simp only [List.getElem?_toArray, List.getElem?_cons_succ, List.getElem?_cons_zero]; rfl) (yields_not (by rfl)) ?_; (simp only [Act.put, List.setIfInBounds_toArray, List.set_cons_zero, List.set_cons_succ]))
    (refine plan3_take (o := ?_) (by simp only [List.getElem?_toArray, List.getElem?_cons_succ, List.getElem?_cons_zero]; rfl) (yields_not (by rfl)) ?_; (simp only [Act.put, List.setIfInBounds_toArray, List.set_cons_zero, List.set_cons_succ]))
    (refine plan3_take (o := ?_) (by simp only [List.getElem?_toArray, List.getElem?_cons_succ, List.getElem?_cons_zero]; rfl) (yields_not (by rfl)) ?_; (simp only [Act.put, List.setIfInBounds_toArray, List.set_cons_zero, List.set_cons_succ]))
    (refine plan3_take (o := ?_) (by simp only [List.getElem?_toArray, List.getElem?_cons_succ, List.getElem?_cons_zero]; rfl) (yields_not (by rfl)) ?_; (simp only [Act.put, List.setIfInBounds_toArray, List.set_cons_zero, List.set_cons_succ]))
    (refine plan3_take (o := ?_) (by simp only [List.getElem?_toArray, List.getElem?_cons_succ, List.getElem?_cons_zero]; rfl) (yields_not (by rfl)) ?_; (simp only [Act.put, List.setIfInBounds_toArray, List.set_cons_zero, List.set_cons_succ]))
    (refine plan3_take (o := ?_) (by simp only [List.getElem?_toArray, List.getElem?_cons_succ, List.getElem?_cons_zero]; rfl) (yields_not (by rfl)) ?_; (simp only [Act.put, List.setIfInBounds_toArray, List.set_cons_zero, List.set_cons_succ]))
    (refine plan3_take (o := ?_) (by simp only [List.getElem?_toArray, List.getElem?_cons_succ, List.getElem?_cons_zero]; rfl) (yields_not (by rfl)) ?_; (simp only [Act.put, List.setIfInBounds_toArray, List.set_cons_zero, List.set_cons_succ]))
    (refine plan3_take (o := ?_) (v := ?_) (by simp only [List.getElem?_toArray, List.getElem?_cons_succ, List.getElem?_cons_zero]; rfl) (yields_run (by rfl) ?_) ?_; rotate_left; (focus (intro w' _; go_simp <;> with_reducible rfl)); (simp only [Act.put, List.setIfInBounds_toArray, List.set_cons_zero, List.set_cons_succ]))
    (refine plan3_take (o := ?_) (v := ?_) (by simp only [List.getElem?_toArray, List.getElem?_cons_succ, List.getElem?_cons_zero]; rfl) (yields_run (by rfl) ?_) ?_; rotate_left; (focus (intro w' _; go_simp <;> with_reducible rfl)); (simp only [Act.put, List.setIfInBounds_toArray, List.set_cons_zero, List.set_cons_succ]))
    (refine plan3_take (o := ?_) (by simp only [List.getElem?_toArray, List.getElem?_cons_succ, List.getElem?_cons_zero]; rfl) (yields_not (by rfl)) ?_; (simp only [Act.put, List.setIfInBounds_toArray, List.set_cons_zero, List.set_cons_succ]))
    (refine plan3_take (o := ?_) (by simp only [List.getElem?_toArray, List.getElem?_cons_succ, List.getElem?_cons_zero]; rfl) (yields_not (by rfl)) ?_; (simp only [Act.put, List.setIfInBounds_toArray, List.set_cons_zero, List.set_cons_succ]))
    (refine plan3_take (o := ?_) (by simp only [List.getElem?_toArray, List.getElem?_cons_succ, List.getElem?_cons_zero]; rfl) (yields_not (by rfl)) ?_; (simp only [Act.put, List.setIfInBounds_toArray, List.set_cons_zero, List.set_cons_succ]))
    (refine plan3_take (o := ?_) (v := ?_) (by simp only [List.getElem?_toArray, List.getElem?_cons_succ, List.getElem?_cons_zero]; rfl) (yields_run (by rfl) ?_) ?_; rotate_left; (focus (intro w' _; go_simp <;> with_reducible rfl)); (simp only [Act.put, List.setIfInBounds_toArray, List.set_cons_zero, List.set_cons_succ]))
    (refine plan3_take (o := ?_) (v := ?_) (by simp only [List.getElem?_toArray, List.getElem?_cons_succ, List.getElem?_cons_zero]; rfl) (yields_run (by rfl) ?_) ?_; rotate_left; (focus (intro w' _; go_simp <;> with_reducible rfl)); (simp only [Act.put, List.setIfInBounds_toArray, List.set_cons_zero, List.set_cons_succ]))
    (refine plan3_take (o := ?_) (by simp only [List.getElem?_toArray, List.getElem?_cons_succ, List.getElem?_cons_zero]; rfl) (yields_not (by rfl)) ?_; (simp only [Act.put, List.setIfInBounds_toArray, List.set_cons_zero, List.set_cons_succ]))
    (refine plan3_take (o := ?_) (by simp only [List.getElem?_toArray, List.getElem?_cons_succ, List.getElem?_cons_zero]; rfl) (yields_not (by rfl)) ?_; (simp only [Act.put, List.setIfInBounds_toArray, List.set_cons_zero, List.set_cons_succ]))
    (refine plan3_take (o := ?_) (by simp only [List.getElem?_toArray, List.getElem?_cons_succ, List.getElem?_cons_zero]; rfl) (yields_not (by rfl)) ?_; (simp only [Act.put, List.setIfInBounds_toArray, List.set_cons_zero, List.set_cons_succ]))
    (refine plan3_take (o := ?_) (by simp only [List.getElem?_toArray, List.getElem?_cons_succ, List.getElem?_cons_zero]; rfl) (yields_not (by rfl)) ?_; (simp only [Act.put, List.setIfInBounds_toArray, List.set_cons_zero, List.set_cons_succ]))
    (refine plan3_take (o := ?_) (by simp only [List.getElem?_toArray, List.getElem?_cons_succ, List.getElem?_cons_zero]; rfl) (yields_not (by rfl)) ?_; (simp only [Act.put, List.setIfInBounds_toArray, List.set_cons_zero, List.set_cons_succ]))
    (refine plan3_take (o := ?_) (by simp only [List.getElem?_toArray, List.getElem?_cons_succ, List.getElem?_cons_zero]; rfl) (yields_not (by rfl)) ?_; (simp only [Act.put, List.setIfInBounds_toArray, List.set_cons_zero, List.set_cons_succ]))
    (refine plan3_take (o := ?_) (v := ?_) (by simp only [List.getElem?_toArray, List.getElem?_cons_succ, List.getElem?_cons_zero]; rfl) (yields_run (by rfl) ?_) ?_; rotate_left; (focus (intro w' _; go_simp <;> with_reducible rfl)); (simp only [Act.put, List.setIfInBounds_toArray, List.set_cons_zero, List.set_cons_succ]))
    refine plan3_done ?_
    obtain ⟨⟨x0, x1, x2, x3⟩, xf⟩ := HF.out.2.1.cells
    have HBD := hide (((((HF.out.2.2.1.setCell (p := ⟨w.heap.size, 0, none⟩) (Nat.le_refl _) (.int .i64 0)).setCell (p := ⟨w.heap.size, 1, none⟩) (Nat.le_refl _) (.int .i64 0)).setCell (p := ⟨w.heap.size, 2, none⟩) (Nat.le_refl _) (.string ⟨#[]⟩)).setCell (p := ⟨w.heap.size, 3, none⟩) (Nat.le_refl _) (.slice none 0 0)).drew)
    go_wp2_with fail
    refine bodyPost_ret (v := .tuple #[.agg #[.int .i64 0, .int .i64 0, .string ⟨#[]⟩, .slice none 0 0], .int .i64 10]) (by simp [results, Try.results19, go_sem, x0, x1, x2, x3]) rfl ?_
    exact ⟨.inr ⟨rfl, HNO.out⟩, HBD.out⟩
end Go.Proofs.Ytccdencaidopnaa
