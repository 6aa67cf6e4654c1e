/- The reference's words, numbers. -/
import Derived.Test.YtalgceplcahgbaaDoorApp
import Derived.Test.YtalgceplcahgbaaDoorRnd
import Derived.Test.YtalgceplcahgbaaDoorPlan
namespace Go.Proofs.YtalgceplcahgbaaDoor
open Go.RowKit

theorem bv_shl24 (c : UInt8) : ((c.toNat : Nat) : Int) * 16777216 % (4294967296 : Int) = (((BitVec.ofNat 32 c.toNat <<< 24).toNat : Nat) : Int) := by
  rw [bv_byte]; exact bv_shl' _ 24
theorem bs_shl24 (c : UInt8) : ((c.toNat : Nat) : Int) * (16777216 : Int) = (((BitVec.ofNat 32 c.toNat <<< 24).toNat : Nat) : Int) := by
  have := c.toNat_lt
  rw [← bv_shl24]; omega
theorem bv_shl16 (c : UInt8) : ((c.toNat : Nat) : Int) * 65536 % (4294967296 : Int) = (((BitVec.ofNat 32 c.toNat <<< 16).toNat : Nat) : Int) := by
  rw [bv_byte]; exact bv_shl' _ 16
theorem bs_shl16 (c : UInt8) : ((c.toNat : Nat) : Int) * (65536 : Int) = (((BitVec.ofNat 32 c.toNat <<< 16).toNat : Nat) : Int) := by
  have := c.toNat_lt
  rw [← bv_shl16]; omega
theorem bv_shl8 (c : UInt8) : ((c.toNat : Nat) : Int) * 256 % (4294967296 : Int) = (((BitVec.ofNat 32 c.toNat <<< 8).toNat : Nat) : Int) := by
  rw [bv_byte]; exact bv_shl' _ 8
theorem bs_shl8 (c : UInt8) : ((c.toNat : Nat) : Int) * (256 : Int) = (((BitVec.ofNat 32 c.toNat <<< 8).toNat : Nat) : Int) := by
  have := c.toNat_lt
  rw [← bv_shl8]; omega

set_option maxHeartbeats 400000 in
theorem rword_any (b o cap : Nat) (l : List UInt8) (w : World) (hl : Bs w b o l) (h : 4 ≤ l.length) :
    Calls Tryd.prog 76 #[.slice (some ⟨b, o, none⟩) 4 cap] w fun e w' => e = .returned (uv (wd l 0)) ∧ ∃ m, w' = w.drewN m := by
  have c0 := hl 0 (by omega)
  have c1 := hl 1 (by omega)
  have c2 := hl 2 (by omega)
  have c3 := hl 3 (by omega)
  have HW := hide (wd_sum l 0)
  simp only [List.getD_eq_getElem?_getD, Nat.zero_add] at HW
  rw [List.getElem?_eq_getElem (show 0 < l.length by omega), List.getElem?_eq_getElem (show 1 < l.length by omega), List.getElem?_eq_getElem (show 2 < l.length by omega), List.getElem?_eq_getElem (show 3 < l.length by omega)] at HW
  simp only [Option.getD_some] at HW
  rw [Nat.add_zero] at c0
  have b0 := (l[0]'(by omega)).toNat_lt
  have b1 := (l[1]'(by omega)).toNat_lt
  have b2 := (l[2]'(by omega)).toNat_lt
  have b3 := (l[3]'(by omega)).toNat_lt
  generalize l[0]'(by omega) = x0 at *
  generalize l[1]'(by omega) = x1 at *
  generalize l[2]'(by omega) = x2 at *
  generalize l[3]'(by omega) = x3 at *
  clear hl
  go_enter Tryd.func76, Tryd.ntmps76
  go_wp2_with fail
  go_quiet (fail)
  go_wp2_with fail
  go_ret
  refine ⟨?_, nq, rfl⟩
  refine ret_num ?_
  rw [HW.out, bs_shl24, bs_shl16, bs_shl8, bv_byte x3, bv_or, bv_or, bv_or]

/-- The numbers K. -/
def kws : List U32 := (List.range 64).map kw
theorem kws_len : kws.length = 64 := by simp [kws]
theorem kws_get {t : Nat} (h : t < 64) : (uc kws)[t]? = some (uv (kw t)) := by
  rw [uc_get (by rw [kws_len]; exact h)]; simp [kws]
attribute [irreducible] kws

theorem wpList_built {P : Program} {ops : Array Oper} {rest : List Oper} {o : Oper} {a : Act} {w : World} {Q : Exit → Act → World → Prop} (hg : o.guard = none) (t : TypeId) (parts : Array (Nat × Operand)) (ho : o.op = .build t parts) (cells : Array Value)
    (hf : P.built t (parts.map fun (i, x) => (i, a.eval x)).toList = some cells) (h : wpList P ops Q rest (a.put o.dst (.agg cells)) w) : wpList P ops Q (o :: rest) a w :=
  wpList_build hg t parts ho (by rw [hf]; rfl) (by rw [hf]; exact h)
theorem kws_one : (uc kws).toArray.all (·.oneCell') = true := all_oneCell_toArray (uc_one _)
theorem kws_size : (uc kws).toArray.size = 64 := by simp [uc_len, kws_len]

set_option maxRecDepth 100000 in
set_option maxHeartbeats 800000 in
theorem numbers_any (w : World) : Calls Tryd.prog 78 #[] w fun e w' => e = .returned (.agg (uc kws).toArray) ∧ Below w.heap.size w w' := by
  go_enter Tryd.func78, Tryd.ntmps78
  have HS := hide kws_size
  have HZ := hide (show (Tryd.prog.info? 91).map (·.size) = some (uc kws).toArray.size by rw [kws_size]; exact Tryd.size91)
  go_wp2_with (first | (refine wpList_built rfl 91 _ rfl (uc kws).toArray (by kernel_rfl) ?_) | (refine wpList_store_row rfl 91 (.tmp 0) (.tmp 1) rfl w.heap.size _ rfl rfl 91 _ (heap_alloc_new w _) HZ.out (by rw [HS.out]; rfl) kws_one ?_))
  refine bodyPost_ret (v := .agg (uc kws).toArray) (results_cell_row rfl _ _ w.heap.size 91 _ (0, 0) _ rfl (setRow_heap _ _ _ _ _ _ (heap_alloc_new w _)) Tryd.underlying91 rfl HZ.out) rfl ⟨rfl, below_setRow (below_new w _) (Nat.le_refl _) _⟩
end Go.Proofs.YtalgceplcahgbaaDoor

/- The reference's block. -/
namespace Go.Proofs.YtalgceplcahgbaaDoor
open Go.RowKit

theorem Tryd.size73 : (Tryd.prog.info? 73).map (·.size) = some 8 := by kernel_rfl

theorem rror2 (x : U32) (w : World) : Calls Tryd.prog 77 #[uv x, .int .i64 2] w fun e w' => e = .returned (uv (ror x 2)) ∧ ∃ m, w' = w.drewN m := rror_is x 2 2 w rfl (by decide) (by decide)
theorem rror6 (x : U32) (w : World) : Calls Tryd.prog 77 #[uv x, .int .i64 6] w fun e w' => e = .returned (uv (ror x 6)) ∧ ∃ m, w' = w.drewN m := rror_is x 6 6 w rfl (by decide) (by decide)
theorem rror7 (x : U32) (w : World) : Calls Tryd.prog 77 #[uv x, .int .i64 7] w fun e w' => e = .returned (uv (ror x 7)) ∧ ∃ m, w' = w.drewN m := rror_is x 7 7 w rfl (by decide) (by decide)
theorem rror11 (x : U32) (w : World) : Calls Tryd.prog 77 #[uv x, .int .i64 11] w fun e w' => e = .returned (uv (ror x 11)) ∧ ∃ m, w' = w.drewN m := rror_is x 11 11 w rfl (by decide) (by decide)
theorem rror13 (x : U32) (w : World) : Calls Tryd.prog 77 #[uv x, .int .i64 13] w fun e w' => e = .returned (uv (ror x 13)) ∧ ∃ m, w' = w.drewN m := rror_is x 13 13 w rfl (by decide) (by decide)
theorem rror17 (x : U32) (w : World) : Calls Tryd.prog 77 #[uv x, .int .i64 17] w fun e w' => e = .returned (uv (ror x 17)) ∧ ∃ m, w' = w.drewN m := rror_is x 17 17 w rfl (by decide) (by decide)
theorem rror18 (x : U32) (w : World) : Calls Tryd.prog 77 #[uv x, .int .i64 18] w fun e w' => e = .returned (uv (ror x 18)) ∧ ∃ m, w' = w.drewN m := rror_is x 18 18 w rfl (by decide) (by decide)
theorem rror19 (x : U32) (w : World) : Calls Tryd.prog 77 #[uv x, .int .i64 19] w fun e w' => e = .returned (uv (ror x 19)) ∧ ∃ m, w' = w.drewN m := rror_is x 19 19 w rfl (by decide) (by decide)
theorem rror22 (x : U32) (w : World) : Calls Tryd.prog 77 #[uv x, .int .i64 22] w fun e w' => e = .returned (uv (ror x 22)) ∧ ∃ m, w' = w.drewN m := rror_is x 22 22 w rfl (by decide) (by decide)
theorem rror25 (x : U32) (w : World) : Calls Tryd.prog 77 #[uv x, .int .i64 25] w fun e w' => e = .returned (uv (ror x 25)) ∧ ∃ m, w' = w.drewN m := rror_is x 25 25 w rfl (by decide) (by decide)

theorem sched_val3 (A B C D E F X Y : U32) : (((((A.toNat : Nat) : Int) + bits .xor .u32 (bits .xor .u32 ((B.toNat : Nat) : Int) ((C.toNat : Nat) : Int)) (((X.toNat : Nat) : Int) / 8)) % (4294967296 : Int) + ((D.toNat : Nat) : Int)) % (4294967296 : Int) + bits .xor .u32 (bits .xor .u32 ((E.toNat : Nat) : Int) ((F.toNat : Nat) : Int)) (((Y.toNat : Nat) : Int) / 1024)) % (4294967296 : Int) = (((A + (B ^^^ C ^^^ X >>> 3) + D + (E ^^^ F ^^^ Y >>> 10)).toNat : Nat) : Int) := by
  rw [← sched_val]
  omega

/-- What the block's loops keep: the state that came in, the result, the words. -/
structure RB (w : World) (s : S8) (l : List UInt8) (k : Nat) (W : World) : Prop where
  st : Blk W w.heap.size 73 (uc (words s))
  res : Blk W (w.heap.size + 1) 73 (List.replicate 8 (uv 0))
  ws : Blk W (w.heap.size + 1 + 1) 91 (uc (fillw l k))
  bel : Below w.heap.size w W
theorem RB.below {w W W' : World} {s : S8} {l : List UInt8} {k : Nat} (h : RB w s l k W) (hb : Below W.heap.size W W') : RB w s l k W' := ⟨h.st.below hb h.st.lt, h.res.below hb h.res.lt, h.ws.below hb h.ws.lt, below_one h.bel hb⟩
theorem RB.drewN {w W : World} {s : S8} {l : List UInt8} {k : Nat} (h : RB w s l k W) (n : Nat) : RB w s l k (W.drewN n) := ⟨h.st.drewN n, h.res.drewN n, h.ws.drewN n, below_drewN h.bel n⟩
theorem RB.drew {w W : World} {s : S8} {l : List UInt8} {k : Nat} (h : RB w s l k W) : RB w s l k W.drew := ⟨h.st.drew, h.res.drew, h.ws.drew, below_drewN h.bel 1⟩
theorem RB.set {w W : World} {s : S8} {l : List UInt8} {k : Nat} (h : RB w s l k W) (hk : k < 64) : RB w s l (k + 1) (W.setCell ⟨w.heap.size + 1 + 1, k, none⟩ (uv (wv l k))) :=
  ⟨h.st.apart (by show w.heap.size ≠ w.heap.size + 1 + 1; omega) _, h.res.apart (by show w.heap.size + 1 ≠ w.heap.size + 1 + 1; omega) _, by rw [← fillw_set l hk]; exact h.ws.set k _, h.bel.setCell (by show w.heap.size ≤ w.heap.size + 1 + 1; omega) _⟩
theorem RB.old {w W : World} {s : S8} {l : List UInt8} {k b o : Nat} {m : List UInt8} (h : RB w s l k W) (hb : Bs w b o m) (hm : b < w.heap.size) : Bs W b o m := hb.below h.bel hm
theorem RB.cw {w W : World} {s : S8} {l : List UInt8} {k i : Nat} (h : RB w s l k W) (hi : i < k) (hi' : i < 64) : W.cell? ⟨w.heap.size + 1 + 1, i, none⟩ = some (uv (wv l i)) := (h.ws.cell i).trans (fillw_get l hi hi')
theorem RB.cz {w W : World} {s : S8} {l : List UInt8} {k : Nat} (h : RB w s l k W) (hi' : k < 64) : W.cell? ⟨w.heap.size + 1 + 1, k, none⟩ = some (.int .u32 0) := (h.ws.cell k).trans (fillw_at l hi')
/-- The words up to k, and maybe more. -/
abbrev RBs (w : World) (s : S8) (l : List UInt8) (k : Nat) (W : World) : Prop := ∃ j, k ≤ j ∧ RB w s l j W
theorem RBs_cw {w W : World} {s : S8} {l : List UInt8} {k i : Nat} (h : RBs w s l k W) (hi : i < k) (hi' : i < 64) : W.cell? ⟨w.heap.size + 1 + 1, i, none⟩ = some (uv (wv l i)) := by
  obtain ⟨j, hj, h⟩ := h
  exact h.cw (by omega) hi'
theorem words_cells {w : World} {S T : Nat} {s : S8} (h : Blk w S T (uc (words s))) :
    w.cell? ⟨S, 0, none⟩ = some (uv s.a) ∧ w.cell? ⟨S, 1, none⟩ = some (uv s.b) ∧ w.cell? ⟨S, 2, none⟩ = some (uv s.c) ∧ w.cell? ⟨S, 3, none⟩ = some (uv s.d) ∧
    w.cell? ⟨S, 4, none⟩ = some (uv s.e) ∧ w.cell? ⟨S, 5, none⟩ = some (uv s.f) ∧ w.cell? ⟨S, 6, none⟩ = some (uv s.g) ∧ w.cell? ⟨S, 7, none⟩ = some (uv s.h) :=
  ⟨(Blk.cell h 0).trans rfl, (Blk.cell h 1).trans rfl, (Blk.cell h 2).trans rfl, (Blk.cell h 3).trans rfl, (Blk.cell h 4).trans rfl, (Blk.cell h 5).trans rfl, (Blk.cell h 6).trans rfl, (Blk.cell h 7).trans rfl⟩
theorem RB.start (w : World) (s : S8) (l : List UInt8) : RB w s l 0 ((((w.alloc (.cells (uc (words s)).toArray 73)).alloc (.cells (List.replicate 8 (uv 0)).toArray 73)).alloc (.cells (List.replicate 64 (uv 0)).toArray 91)).setRow (w.heap.size + 1 + 1) (List.replicate 64 (uv 0)).toArray) := by
  have h1 := Blk.new w 73 (uc (words s))
  have h2 := Blk.new (w.alloc (.cells (uc (words s)).toArray 73)) 73 (List.replicate 8 (uv 0))
  have h3 := Blk.new ((w.alloc (.cells (uc (words s)).toArray 73)).alloc (.cells (List.replicate 8 (uv 0)).toArray 73)) 91 (List.replicate 64 (uv 0))
  have hb := ((below_new w (.cells (uc (words s)).toArray 73)).alloc (by simp) (.cells (List.replicate 8 (uv 0)).toArray 73)).alloc (by simp; omega) (.cells (List.replicate 64 (uv 0)).toArray 91)
  simp only [World.size_alloc] at h2 h3
  refine ⟨?_, ?_, ?_, below_setRow hb (by omega) _⟩
  · exact (setRow_other _ _ _ _ (by omega)).trans ((h1.alloc _).alloc _)
  · exact (setRow_other _ _ _ _ (by omega)).trans (h2.alloc _)
  · rw [fillw_zero]; exact h3.row _

set_option maxRecDepth 100000 in
set_option maxHeartbeats 4000000 in
theorem rblock_any (s : S8) (b o cap : Nat) (l : List UInt8) (w : World) (hl : Bs w b o l) (h : l.length = 64) (hc64 : 64 ≤ cap) (hcap : cap ≤ 9223372036854775807) :
    Calls Tryd.prog 52 #[.agg (uc (words s)).toArray, .slice (some ⟨b, o, none⟩) 64 cap] w fun e w' => e = .returned (.agg (uc (words (comp s l))).toArray) ∧ Below w.heap.size w w' := by
  have HH := hide h
  have HL := hide hl
  have HB := hide (hl.lt (by omega))
  clear h hl
  have HW0 : Hid ((((w.alloc (.cells (uc (words s)).toArray 73)).alloc (.cells (List.replicate 8 (uv 0)).toArray 73)).alloc (.cells (List.replicate 64 (uv 0)).toArray 91)).heap[w.heap.size + 1 + 1]? = some (.cells (List.replicate 64 (uv 0)).toArray 91 (0, 0))) := by
    have h3 := Blk.new ((w.alloc (.cells (uc (words s)).toArray 73)).alloc (.cells (List.replicate 8 (uv 0)).toArray 73)) 91 (List.replicate 64 (uv 0))
    simp only [World.size_alloc] at h3
    exact hide h3
  have HO : Hid ((List.replicate 64 (uv 0)).toArray.all (fun x => x.oneCell') = true) := hide (by kernel_rfl)
  have HRB := hide (RB.start w s l)
  go_enter Tryd.func52, Tryd.ntmps52
  go_wp2_with (first | (refine wpList_built rfl 91 _ rfl (List.replicate 64 (uv 0)).toArray (by kernel_rfl) ?_) | (refine wpList_store_row rfl 91 (.tmp 5) (.tmp 22) rfl (w.heap.size + 1 + 1) (List.replicate 64 (uv 0)).toArray rfl rfl 91 _ HW0.out Tryd.size91 rfl HO.out ?_))
  refine name_code ?_
  intro W0 HW00
  have HR0 : Hid (RB w s l 0 W0) := by
    have e := HW00.out
    subst e
    exact HRB
  clear HW00 HRB HW0 HO
  go_loopw [6] (fun i wr => ∃ k : Nat, k ≤ 16 ∧ i = .int .i64 k ∧ Hid (RB w s l k wr)) (fun i _ => 16 - (intOf i).toNat)
  case atStart => exact ⟨0, by omega, rfl, HR0⟩
  case round =>
    clear HR0
    obtain ⟨k, hk, rfl, HR⟩ := hrel
    by_cases hlt : k < 16
    · have hlk := hide ((HR.out.old HL.out HB.out).drop (4 * k))
      have HLN := hide (show 4 ≤ (l.drop (4 * k)).length by rw [List.length_drop, HH.out]; omega)
      have HW := hide (show wd (l.drop (4 * k)) 0 = wv l k by rw [wd_drop, wv_first l k hlt])
      go_wp2_with fail
      with_reducible refine (rword_any b (o + 4 * k) (cap - 4 * k) (l.drop (4 * k)) wr hlk.out HLN.out).mono ?_
      rintro e w' ⟨rfl, m, rfl⟩
      rw [HW.out]
      have HS := hide (HR.out.drewN m)
      clear HR hlk HLN HW
      generalize wr.drewN m = W1 at HS ⊢
      have hc := HS.out.cz (by omega)
      have hf := HS.out.ws.free k
      go_wp2_with fail
      go_roundw
      case rel => exact ⟨k + 1, by omega, by go_num, hide (HS.out.set (by omega))⟩
      case measure => simp [intOf]; omega
    · have h16 : 16 ≤ k := by omega
      have HR16 : Hid (RB w s l 16 wr) := by
        have : k = 16 := by omega
        rw [← this]; exact HR
      clear HR
      generalize k = k1 at *
      go_wp2_with fail
      go_loopw [7] (fun i wr => ∃ k : Nat, 16 ≤ k ∧ k ≤ 64 ∧ i = .int .i64 k ∧ Hid (RB w s l k wr)) (fun i _ => 64 - (intOf i).toNat)
      case atStart => exact ⟨16, by omega, by omega, rfl, HR16⟩
      case round =>
        clear HR16 h16 hk hlt
        obtain ⟨k, hk16, hk64, rfl, HS⟩ := hrel
        by_cases hlt : k < 64
        · have c15 := HS.out.cw (i := k - 15) (by omega) (by omega)
          have c2 := HS.out.cw (i := k - 2) (by omega) (by omega)
          have e15 : IntKind.i64.wrap ((k : Int) - 15) = (k : Int) - 15 := IntWalk.i64_in _ (by omega)
          have e2 : IntKind.i64.wrap ((k : Int) - 2) = (k : Int) - 2 := IntWalk.i64_in _ (by omega)
          have e16 : IntKind.i64.wrap ((k : Int) - 16) = (k : Int) - 16 := IntWalk.i64_in _ (by omega)
          have g16 : 0 ≤ (k : Int) - 16 ∧ (k : Int) - 16 < 64 := by omega
          have t16 : ((k : Int) - 16).toNat = k - 16 := by omega
          have e7 : IntKind.i64.wrap ((k : Int) - 7) = (k : Int) - 7 := IntWalk.i64_in _ (by omega)
          have g7 : 0 ≤ (k : Int) - 7 ∧ (k : Int) - 7 < 64 := by omega
          have t7 : ((k : Int) - 7).toNat = k - 7 := by omega
          have b16 : 16 ≤ (k : Int) := by omega
          have b7 : 7 ≤ (k : Int) := by omega
          have b15 : 15 ≤ (k : Int) := by omega
          have b2 : 2 ≤ (k : Int) := by omega
          have l16 : (k : Int) - 16 < 64 := g16.2
          have l7 : (k : Int) - 7 < 64 := g7.2
          have hk64' : (k : Int) < 64 := by omega
          have HW := hide (wv_next l k hk16 hlt)
          go_wp2_with fail
          clear c15 c2
          have HSD := hide HS.out.drew
          refine wp_region_plan (RBs w s l k) (.take 0 (.take 1 (.take 2 (.take 3 (.take 4 (.take 5 (.take 7 (.take 10 (.take 11 (.take 14 (.take 15 (.take 16 (.take 17 (.take 19 (.take 21 (.take 24 (.take 25 (.run 6 (.run 8 (.take 9 (.take 12 (.take 13 (.take 18 (.run 20 (.run 22 (.take 23 (.take 26 (.take 27 (.take 28 (.run 29 .done)))))))))))))))))))))))))))))) (by kernel_rfl) (by kernel_rfl) ⟨k, Nat.le_refl _, HS.out.drew⟩ ?_
          (refine plan_take (o := ?_) (v := ?_) (by simp only [List.getElem?_toArray, List.getElem?_cons_zero]; rfl) (yields_run (by rfl) ?_) ?_; rotate_left; (focus (intro w' _; go_simp <;> with_reducible rfl)); (simp only [Act.put, List.setIfInBounds_toArray, List.set_cons_zero, List.set_cons_succ]))
          (refine plan_take (o := ?_) (v := ?_) (by simp only [List.getElem?_toArray, List.getElem?_cons_succ, List.getElem?_cons_zero]; rfl) (yields_run (by rfl) ?_) ?_; rotate_left; (focus (intro w' _; go_simp <;> with_reducible rfl)); (simp only [Act.put, List.setIfInBounds_toArray, List.set_cons_zero, List.set_cons_succ]))
          (refine plan_take (o := ?_) (v := ?_) (by simp only [List.getElem?_toArray, List.getElem?_cons_succ, List.getElem?_cons_zero]; rfl) (yields_run (by rfl) ?_) ?_; rotate_left; (focus (intro w' _; go_simp <;> with_reducible rfl)); (simp only [Act.put, List.setIfInBounds_toArray, List.set_cons_zero, List.set_cons_succ]))
          (refine plan_take (o := ?_) (v := ?_) (by simp only [List.getElem?_toArray, List.getElem?_cons_succ, List.getElem?_cons_zero]; rfl) (yields_run (by rfl) ?_) ?_; rotate_left; (focus (intro w' _; go_simp <;> with_reducible rfl)); (simp only [Act.put, List.setIfInBounds_toArray, List.set_cons_zero, List.set_cons_succ]))
          (refine plan_take (o := ?_) (v := ?_) (by simp only [List.getElem?_toArray, List.getElem?_cons_succ, List.getElem?_cons_zero]; rfl) (yields_run (by rfl) ?_) ?_; rotate_left; (focus (intro w' hS; have d16 := RBs_cw hS (i := k - 16) (by omega) (by omega); go_simp <;> with_reducible rfl)); (simp only [Act.put, List.setIfInBounds_toArray, List.set_cons_zero, List.set_cons_succ]))
          (refine plan_take (o := ?_) (v := ?_) (by simp only [List.getElem?_toArray, List.getElem?_cons_succ, List.getElem?_cons_zero]; rfl) (yields_run (by rfl) ?_) ?_; rotate_left; (focus (intro w' _; go_simp <;> with_reducible rfl)); (simp only [Act.put, List.setIfInBounds_toArray, List.set_cons_zero, List.set_cons_succ]))
          (refine plan_take (o := ?_) (v := ?_) (by simp only [List.getElem?_toArray, List.getElem?_cons_succ, List.getElem?_cons_zero]; rfl) (yields_run (by rfl) ?_) ?_; rotate_left; (focus (intro w' _; go_simp <;> with_reducible rfl)); (simp only [Act.put, List.setIfInBounds_toArray, List.set_cons_zero, List.set_cons_succ]))
          (refine plan_take (o := ?_) (v := ?_) (by simp only [List.getElem?_toArray, List.getElem?_cons_succ, List.getElem?_cons_zero]; rfl) (yields_run (by rfl) ?_) ?_; rotate_left; (focus (intro w' _; go_simp <;> with_reducible rfl)); (simp only [Act.put, List.setIfInBounds_toArray, List.set_cons_zero, List.set_cons_succ]))
          (refine plan_take (o := ?_) (v := ?_) (by simp only [List.getElem?_toArray, List.getElem?_cons_succ, List.getElem?_cons_zero]; rfl) (yields_run (by rfl) ?_) ?_; rotate_left; (focus (intro w' _; go_simp <;> with_reducible rfl)); (simp only [Act.put, List.setIfInBounds_toArray, List.set_cons_zero, List.set_cons_succ]))
          (refine plan_take (o := ?_) (v := ?_) (by simp only [List.getElem?_toArray, List.getElem?_cons_succ, List.getElem?_cons_zero]; rfl) (yields_run (by rfl) ?_) ?_; rotate_left; (focus (intro w' _; go_simp <;> with_reducible rfl)); (simp only [Act.put, List.setIfInBounds_toArray, List.set_cons_zero, List.set_cons_succ]))
          (refine plan_take (o := ?_) (v := ?_) (by simp only [List.getElem?_toArray, List.getElem?_cons_succ, List.getElem?_cons_zero]; rfl) (yields_run (by rfl) ?_) ?_; rotate_left; (focus (intro w' _; go_simp <;> with_reducible rfl)); (simp only [Act.put, List.setIfInBounds_toArray, List.set_cons_zero, List.set_cons_succ]))
          (refine plan_take (o := ?_) (v := ?_) (by simp only [List.getElem?_toArray, List.getElem?_cons_succ, List.getElem?_cons_zero]; rfl) (yields_run (by rfl) ?_) ?_; rotate_left; (focus (intro w' _; go_simp <;> with_reducible rfl)); (simp only [Act.put, List.setIfInBounds_toArray, List.set_cons_zero, List.set_cons_succ]))
          (refine plan_take (o := ?_) (v := ?_) (by simp only [List.getElem?_toArray, List.getElem?_cons_succ, List.getElem?_cons_zero]; rfl) (yields_run (by rfl) ?_) ?_; rotate_left; (focus (intro w' hS; have d7 := RBs_cw hS (i := k - 7) (by omega) (by omega); go_simp <;> with_reducible rfl)); (simp only [Act.put, List.setIfInBounds_toArray, List.set_cons_zero, List.set_cons_succ]))
          (refine plan_take (o := ?_) (v := ?_) (by simp only [List.getElem?_toArray, List.getElem?_cons_succ, List.getElem?_cons_zero]; rfl) (yields_run (by rfl) ?_) ?_; rotate_left; (focus (intro w' _; go_simp <;> with_reducible rfl)); (simp only [Act.put, List.setIfInBounds_toArray, List.set_cons_zero, List.set_cons_succ]))
          (refine plan_take (o := ?_) (v := ?_) (by simp only [List.getElem?_toArray, List.getElem?_cons_succ, List.getElem?_cons_zero]; rfl) (yields_run (by rfl) ?_) ?_; rotate_left; (focus (intro w' _; go_simp <;> with_reducible rfl)); (simp only [Act.put, List.setIfInBounds_toArray, List.set_cons_zero, List.set_cons_succ]))
          (refine plan_take (o := ?_) (v := ?_) (by simp only [List.getElem?_toArray, List.getElem?_cons_succ, List.getElem?_cons_zero]; rfl) (yields_run (by rfl) ?_) ?_; rotate_left; (focus (intro w' _; go_simp <;> with_reducible rfl)); (simp only [Act.put, List.setIfInBounds_toArray, List.set_cons_zero, List.set_cons_succ]))
          (refine plan_take (o := ?_) (v := ?_) (by simp only [List.getElem?_toArray, List.getElem?_cons_succ, List.getElem?_cons_zero]; rfl) (yields_run (by rfl) ?_) ?_; rotate_left; (focus (intro w' _; go_simp <;> with_reducible rfl)); (simp only [Act.put, List.setIfInBounds_toArray, List.set_cons_zero, List.set_cons_succ]))
          refine plan_run (o := ?_) (by simp only [List.getElem?_toArray, List.getElem?_cons_succ, List.getElem?_cons_zero]; rfl) ?_
          intro R HR
          go_wp2_with fail
          with_reducible refine (rror7 _ _).mono ?_
          rintro e w' ⟨rfl, m1, rfl⟩
          go_wp2_with fail
          refine HR.out _ _ ⟨k, Nat.le_refl _, HS.out.drewN _⟩ ?_
          clear HR
          refine plan_run (o := ?_) (by simp only [List.getElem?_toArray, List.getElem?_cons_succ, List.getElem?_cons_zero]; rfl) ?_
          intro R HR
          go_wp2_with fail
          with_reducible refine (rror18 _ _).mono ?_
          rintro e w' ⟨rfl, m2, rfl⟩
          go_wp2_with fail
          refine HR.out _ _ ⟨k, Nat.le_refl _, HS.out.drewN _⟩ ?_
          clear HR
          (refine plan_take (o := ?_) (v := ?_) (by simp only [List.getElem?_toArray, List.getElem?_cons_succ, List.getElem?_cons_zero]; rfl) (yields_run (by rfl) ?_) ?_; rotate_left; (focus (intro w' _; go_simp <;> with_reducible rfl)); (simp only [Act.put, List.setIfInBounds_toArray, List.set_cons_zero, List.set_cons_succ]))
          (refine plan_take (o := ?_) (v := ?_) (by simp only [List.getElem?_toArray, List.getElem?_cons_succ, List.getElem?_cons_zero]; rfl) (yields_run (by rfl) ?_) ?_; rotate_left; (focus (intro w' _; go_simp <;> with_reducible rfl)); (simp only [Act.put, List.setIfInBounds_toArray, List.set_cons_zero, List.set_cons_succ]))
          (refine plan_take (o := ?_) (v := ?_) (by simp only [List.getElem?_toArray, List.getElem?_cons_succ, List.getElem?_cons_zero]; rfl) (yields_run (by rfl) ?_) ?_; rotate_left; (focus (intro w' _; go_simp <;> with_reducible rfl)); (simp only [Act.put, List.setIfInBounds_toArray, List.set_cons_zero, List.set_cons_succ]))
          (refine plan_take (o := ?_) (v := ?_) (by simp only [List.getElem?_toArray, List.getElem?_cons_succ, List.getElem?_cons_zero]; rfl) (yields_run (by rfl) ?_) ?_; rotate_left; (focus (intro w' _; go_simp <;> with_reducible rfl)); (simp only [Act.put, List.setIfInBounds_toArray, List.set_cons_zero, List.set_cons_succ]))
          refine plan_run (o := ?_) (by simp only [List.getElem?_toArray, List.getElem?_cons_succ, List.getElem?_cons_zero]; rfl) ?_
          intro R HR
          go_wp2_with fail
          with_reducible refine (rror17 _ _).mono ?_
          rintro e w' ⟨rfl, m3, rfl⟩
          go_wp2_with fail
          refine HR.out _ _ ⟨k, Nat.le_refl _, HS.out.drewN _⟩ ?_
          clear HR
          refine plan_run (o := ?_) (by simp only [List.getElem?_toArray, List.getElem?_cons_succ, List.getElem?_cons_zero]; rfl) ?_
          intro R HR
          go_wp2_with fail
          with_reducible refine (rror19 _ _).mono ?_
          rintro e w' ⟨rfl, m4, rfl⟩
          go_wp2_with fail
          refine HR.out _ _ ⟨k, Nat.le_refl _, HS.out.drewN _⟩ ?_
          clear HR
          (refine plan_take (o := ?_) (v := ?_) (by simp only [List.getElem?_toArray, List.getElem?_cons_succ, List.getElem?_cons_zero]; rfl) (yields_run (by rfl) ?_) ?_; rotate_left; (focus (intro w' _; go_simp <;> with_reducible rfl)); (simp only [Act.put, List.setIfInBounds_toArray, List.set_cons_zero, List.set_cons_succ]))
          (refine plan_take (o := ?_) (v := ?_) (by simp only [List.getElem?_toArray, List.getElem?_cons_succ, List.getElem?_cons_zero]; rfl) (yields_run (by rfl) ?_) ?_; rotate_left; (focus (intro w' _; go_simp <;> with_reducible rfl)); (simp only [Act.put, List.setIfInBounds_toArray, List.set_cons_zero, List.set_cons_succ]))
          (refine plan_take (o := ?_) (v := ?_) (by simp only [List.getElem?_toArray, List.getElem?_cons_succ, List.getElem?_cons_zero]; rfl) (yields_run (by rfl) ?_) ?_; rotate_left; (focus (intro w' _; go_simp <;> with_reducible rfl)); (simp only [Act.put, List.setIfInBounds_toArray, List.set_cons_zero, List.set_cons_succ]))
          (refine plan_take (o := ?_) (v := ?_) (by simp only [List.getElem?_toArray, List.getElem?_cons_succ, List.getElem?_cons_zero]; rfl) (yields_run (by rfl) ?_) ?_; rotate_left; (focus (intro w' _; go_simp <;> with_reducible rfl)); (simp only [Act.put, List.setIfInBounds_toArray, List.set_cons_zero, List.set_cons_succ]))
          refine plan_run (o := ?_) (by simp only [List.getElem?_toArray, List.getElem?_cons_succ, List.getElem?_cons_zero]; rfl) ?_
          intro R HR
          refine name_list ?_
          intro W1 HW1
          have HSW : Hid (RB w s l k W1) := by
            have e := HW1.out
            subst e
            exact hide (HS.out.drewN _)
          clear HW1
          have dc := HSW.out.cz hlt
          have df := HSW.out.ws.free k
          go_wp2_with fail
          clear dc df
          have HN := hide (HSW.out.set hlt)
          rw [HW.out] at HN
          unfold nextw at HN
          refine HR.out _ _ ⟨k + 1, by omega, by rw [sched_val3]; exact HN.out⟩ ?_
          refine plan_done ?_
          clear HR
          go_wp2_with fail
          go_roundw
          case rel => exact ⟨k + 1, by omega, by omega, by go_num, hide (by first | (rw [sched_val]; exact HN.out) | (rw [sched_val3]; exact HN.out))⟩
          case measure => simp [intOf]; omega
        · have h64 : 64 ≤ k := by omega
          have HS64 : Hid (RB w s l 64 wr) := by
            have : k = 64 := by omega
            rw [← this]; exact HS
          clear HS
          generalize k = k2 at *
          have HKZ := hide (show (Tryd.prog.info? 91).map (·.size) = some (uc kws).toArray.size by rw [kws_size]; exact Tryd.size91)
          have HKS := hide kws_size
          go_wp2_with fail
          with_reducible refine (numbers_any wr).mono ?_
          rintro e w5 ⟨rfl, hb5⟩
          have HS5 := hide (HS64.out.below hb5)
          clear HS64 hb5
          go_wp2_with (refine wpList_store_row rfl 91 (.tmp 10) (.tmp 78) rfl w5.heap.size _ rfl rfl 91 _ (heap_alloc_new w5 _) HKZ.out (by rw [HKS.out]; rfl) kws_one ?_)
          refine name_code ?_
          intro W6 HW6
          have HS6 : Hid (RB w s l 64 W6 ∧ Blk W6 w5.heap.size 91 (uc kws)) := by
            have e := HW6.out
            subst e
            have hlt := HS5.out.ws.lt
            exact hide ⟨HS5.out.below (below_setRow (below_new w5 _) (Nat.le_refl _) _), (Blk.new w5 91 (List.replicate 64 (uv 0))).row _⟩
          clear HW6 HS5 HKZ HKS
          generalize w5.heap.size = KK at *
          obtain ⟨a0, a1, a2, a3, a4, a5, a6, a7⟩ := words_cells HS6.out.1.st
          go_wp2_with fail
          go_quiet (fail)
          go_wp2_with fail
          have HW3 := hide (And.intro (HS6.out.1.drewN nq) (Blk.drewN HS6.out.2 nq))
          clear a0 a1 a2 a3 a4 a5 a6 a7 HS6
          generalize W6.drewN nq = W3 at *
          go_loopw [11, 12, 13, 14, 15, 16, 17, 18, 19] (fun a b c d e f g h i wr => ∃ t : Nat, t ≤ 64 ∧ i = .int .i64 t ∧ ∃ r : S8, Hid (r = rnds (wv l) s t) ∧ a = uv r.a ∧ b = uv r.b ∧ c = uv r.c ∧ d = uv r.d ∧ e = uv r.e ∧ f = uv r.f ∧ g = uv r.g ∧ h = uv r.h ∧ Hid (RB w s l 64 wr ∧ Blk wr KK 91 (uc kws))) (fun _ _ _ _ _ _ _ _ i _ => 64 - (intOf i).toNat)
          case atStart => exact ⟨0, by omega, rfl, s, hide (rnds_zero _ _).symm, rfl, rfl, rfl, rfl, rfl, rfl, rfl, rfl, HW3⟩
          case round =>
            clear HW3
            obtain ⟨t, ht, rfl, ⟨ra, rb, rc, rd, re, rf, rg, rh⟩, HR, rfl, rfl, rfl, rfl, rfl, rfl, rfl, rfl, HW⟩ := hrel
            by_cases hlt : t < 64
            · have ck := (HW.out.2.cell t).trans (kws_get hlt)
              have cw := HW.out.1.cw hlt hlt
              go_wp2_with fail
              go_quiet ((go_at_call 77; first | exact Calls.quiet_of (rror_is _ 6 _ _ rfl (by decide) (by decide)) | exact Calls.quiet_of (rror_is _ 11 _ _ rfl (by decide) (by decide)) | exact Calls.quiet_of (rror_is _ 25 _ _ rfl (by decide) (by decide))))
              go_wp2_with (go_at_call 77; (first | (with_reducible refine (rror2 _ _).mono ?_) | (with_reducible refine (rror13 _ _).mono ?_) | (with_reducible refine (rror22 _ _).mono ?_)); (rintro e w' ⟨rfl, m, rfl⟩))
              go_roundw
              case rel =>
                refine ⟨t + 1, by omega, by go_num, rnd (kw t) (wv l t) ⟨ra, rb, rc, rd, re, rf, rg, rh⟩, hide (by rw [rnds_succ, ← HR.out]), ?_, ?_, ?_, ?_, ?_, ?_, ?_, ?_, ?_⟩
                · rw [pw_val, qw_val, sum_val, rnd_eq]
                · rw [rnd_eq]
                · rw [rnd_eq]
                · rw [rnd_eq]
                · rw [pw_val, sum_val, rnd_eq]
                · rw [rnd_eq]
                · rw [rnd_eq]
                · rw [rnd_eq]
                · exact hide ⟨HW.out.1.drewN _, Blk.drewN HW.out.2 _⟩
              case measure => simp [intOf]; omega
            · have h64 : 64 ≤ t := by omega
              have HR64 : Hid ((⟨ra, rb, rc, rd, re, rf, rg, rh⟩ : S8) = rnds (wv l) s 64) := by
                have : t = 64 := by omega
                rw [← this]; exact HR
              clear HR
              obtain ⟨a0, a1, a2, a3, a4, a5, a6, a7⟩ := words_cells HW.out.1.st
              have hr := HW.out.1.res
              go_wp2_with (refine wpList_store_row rfl 73 (.tmp 4) (.tmp 190) rfl (w.heap.size + 1) #[Value.int .u32 ((((s.a.toNat : Nat) : Int) + ((ra.toNat : Nat) : Int)) % 4294967296), Value.int .u32 ((((s.b.toNat : Nat) : Int) + ((rb.toNat : Nat) : Int)) % 4294967296), Value.int .u32 ((((s.c.toNat : Nat) : Int) + ((rc.toNat : Nat) : Int)) % 4294967296), Value.int .u32 ((((s.d.toNat : Nat) : Int) + ((rd.toNat : Nat) : Int)) % 4294967296), Value.int .u32 ((((s.e.toNat : Nat) : Int) + ((re.toNat : Nat) : Int)) % 4294967296), Value.int .u32 ((((s.f.toNat : Nat) : Int) + ((rf.toNat : Nat) : Int)) % 4294967296), Value.int .u32 ((((s.g.toNat : Nat) : Int) + ((rg.toNat : Nat) : Int)) % 4294967296), Value.int .u32 ((((s.h.toNat : Nat) : Int) + ((rh.toNat : Nat) : Int)) % 4294967296)] rfl rfl 73 _ hr Tryd.size73 rfl (by kernel_rfl) ?_)
              refine bodyPost_ret (v := .agg #[Value.int .u32 ((((s.a.toNat : Nat) : Int) + ((ra.toNat : Nat) : Int)) % 4294967296), Value.int .u32 ((((s.b.toNat : Nat) : Int) + ((rb.toNat : Nat) : Int)) % 4294967296), Value.int .u32 ((((s.c.toNat : Nat) : Int) + ((rc.toNat : Nat) : Int)) % 4294967296), Value.int .u32 ((((s.d.toNat : Nat) : Int) + ((rd.toNat : Nat) : Int)) % 4294967296), Value.int .u32 ((((s.e.toNat : Nat) : Int) + ((re.toNat : Nat) : Int)) % 4294967296), Value.int .u32 ((((s.f.toNat : Nat) : Int) + ((rf.toNat : Nat) : Int)) % 4294967296), Value.int .u32 ((((s.g.toNat : Nat) : Int) + ((rg.toNat : Nat) : Int)) % 4294967296), Value.int .u32 ((((s.h.toNat : Nat) : Int) + ((rh.toNat : Nat) : Int)) % 4294967296)]) (results_cell_row rfl _ _ (w.heap.size + 1) 73 #[Value.int .u32 ((((s.a.toNat : Nat) : Int) + ((ra.toNat : Nat) : Int)) % 4294967296), Value.int .u32 ((((s.b.toNat : Nat) : Int) + ((rb.toNat : Nat) : Int)) % 4294967296), Value.int .u32 ((((s.c.toNat : Nat) : Int) + ((rc.toNat : Nat) : Int)) % 4294967296), Value.int .u32 ((((s.d.toNat : Nat) : Int) + ((rd.toNat : Nat) : Int)) % 4294967296), Value.int .u32 ((((s.e.toNat : Nat) : Int) + ((re.toNat : Nat) : Int)) % 4294967296), Value.int .u32 ((((s.f.toNat : Nat) : Int) + ((rf.toNat : Nat) : Int)) % 4294967296), Value.int .u32 ((((s.g.toNat : Nat) : Int) + ((rg.toNat : Nat) : Int)) % 4294967296), Value.int .u32 ((((s.h.toNat : Nat) : Int) + ((rh.toNat : Nat) : Int)) % 4294967296)] (0, 0) _ rfl (setRow_heap _ _ _ _ _ _ hr) Tryd.underlying73 rfl Tryd.size73) rfl ⟨?_, below_setRow HW.out.1.bel (by omega) _⟩
              rw [comp_eq, ← HR64.out]
              unfold add8
              simp only [sum_val]
              rfl
end Go.Proofs.YtalgceplcahgbaaDoor

/- The reference's padded text. -/
namespace Go.Proofs.YtalgceplcahgbaaDoor
open Go.RowKit

/-- A row of bytes that grows. -/
structure PI (w : World) (g cap : Nat) (L : List UInt8) (W : World) : Prop where
  own : W.ownsRow w.heap.size 5 1 (.slice (some ⟨g, 0, none⟩) L.length cap) L.length (bc L)
  bel : Below w.heap.size w W
  le : L.length ≤ cap
  cap63 : cap ≤ 9223372036854775807
  ge : w.heap.size ≤ g

theorem PI.of {w W1 W : World} {v v' : Value} {l L : List UInt8} {N : Nat} (h : W1.ownsRow w.heap.size 5 1 v l.length (bc l)) (hb : Below w.heap.size w W1) (h2 : W.ownsRow w.heap.size 5 1 v' N (bc L)) (h3 : W1.grownBy W v.ownBlock) (hN : N = L.length) (hpos : 0 < N) :
    ∃ g cap, v' = .slice (some ⟨g, 0, none⟩) N cap ∧ PI w g cap L W := by
  subst hN
  obtain ⟨g, cap, rfl, ho, _, hg, hc, hm⟩ := own_form h2 hpos
  exact ⟨g, cap, rfl, ho, hb.grown h3 hb.size (fun k hk => (h.lt k hk).1), hc, hm, hg⟩

/-- One byte more. -/
theorem app_byte {w W : World} {g cap : Nat} {L : List UInt8} (h : Hid (PI w g cap L W)) (b : UInt8) (n : Nat) (hn : n = L.length) (u : Int) (hu : u = (b.toNat : Nat)) {o : Oper} {a : Act} {K : Act → World → Prop} {Q : Exit → Act → World → Prop} (s x : Operand)
    (ho : o.op = .call { callee := .builtin .append, args := #[s, x], argTypes := #[22, 22] }) (hs : a.eval s = .slice (some ⟨g, 0, none⟩) n cap) (hx : a.eval x = .slice (some ⟨W.heap.size, 0, none⟩) 1 1) (hb : n + 1 ≤ 1000000000)
    (hk : ∀ g' cap' w', Hid (PI w g' cap' (L ++ [b]) w') → K (a.put o.dst (.slice (some ⟨g', 0, none⟩) (n + 1) cap')) w') : o.wp Tryd.prog a (W.alloc (.cells #[.int .u8 u] 5)) K Q := by
  subst hn hu
  have hB : Bs (W.alloc (.cells #[.int .u8 (b.toNat : Nat)] 5)) W.heap.size 0 [b] := (show Blk (W.alloc (.cells #[.int .u8 (b.toNat : Nat)] 5)) W.heap.size 5 (bc [b]) from Blk.new W 5 (bc [b])).bs
  refine wp_app5 s x ho w.heap.size _ L.length L hs (h.out.own.alloc _) (some ⟨W.heap.size, 0, none⟩) 1 1 [b] hx ⟨rfl, Sb.of hB, fun h => by cases h⟩ hb (by have := h.out.bel.size; simp; omega) (L.length + 1) (L ++ [b]) rfl rfl ?_
  intro v' w' h2 h3
  obtain ⟨g', cap', rfl, hp⟩ := PI.of (h.out.own.alloc _) (h.out.bel.alloc h.out.bel.size _) h2 h3 (by simp) (by omega)
  exact hk g' cap' w' (hide hp)

def zc (n : Nat) : Nat := (119 - n % 64) % 64
theorem padd_eq (l : List UInt8) : padd l = l ++ (0x80 :: (List.replicate (zc l.length) 0 ++ bits8 l.length)) := by unfold padd zeros zc; rfl

set_option maxRecDepth 100000 in
set_option maxHeartbeats 800000 in
theorem rpadded_any (a : Option Addr) (n cap : Nat) (l : List UInt8) (w : World) (hl : Src w a n cap l) (hn : n ≤ 100000000) :
    Calls Tryd.prog 51 #[.slice a n cap] w fun e w' => ∃ g c N, e = .returned (.slice (some ⟨g, 0, none⟩) N c) ∧ N = (padd l).length ∧ N ≤ c ∧ c ≤ 9223372036854775807 ∧ Bs w' g 0 (padd l) ∧ Below w.heap.size w w' ∧ w.heap.size ≤ g := by
  have HE := hide (own_empty w w.heap.size 5 5 1 rfl (Nat.le_refl _))
  have HL := hide (hl.below (below_new w (.cells #[] 5)))
  have HBEL := hide (below_new w (.cells #[] 5))
  have hn9 : 0 + n ≤ 1000000000 := by omega
  have hn91 : n + 1 ≤ 1000000000 := by omega
  have HAP := hide (show ∀ v1 w1, w1.ownsRow w.heap.size 5 1 v1 n (bc l) → (w.alloc (.cells #[] 5)).grownBy w1 (Value.slice (some ⟨w.heap.size, 0, none⟩) 0 0).ownBlock →
      (w1.alloc (.cells #[.int .u8 128] 5)).ownsRow w.heap.size 5 1 v1 n (bc l) ∧ Src (w1.alloc (.cells #[.int .u8 128] 5)) (some ⟨w1.heap.size, 0, none⟩) 1 1 [128] ∧ w.heap.size ≤ (w1.alloc (.cells #[.int .u8 128] 5)).heap.size ∧
      ∀ v2 w2, w2.ownsRow w.heap.size 5 1 v2 (n + 1) (bc (l ++ [128])) → (w1.alloc (.cells #[.int .u8 128] 5)).grownBy w2 v1.ownBlock → ∃ g c, v2 = .slice (some ⟨g, 0, none⟩) (n + 1) c ∧ Hid (PI w g c (l ++ [128]) w2) by
    intro v1 w1 h1 hg1
    have hb1 : Below w.heap.size w w1 := (below_new w (.cells #[] 5)).grown hg1 (by simp) (fun k hk => by cases hk; exact Nat.le_refl _)
    have hB : Bs (w1.alloc (.cells #[.int .u8 128] 5)) w1.heap.size 0 [128] := (show Blk (w1.alloc (.cells #[.int .u8 128] 5)) w1.heap.size 5 (bc [128]) from Blk.new w1 5 (bc [128])).bs
    refine ⟨h1.alloc _, ⟨rfl, Sb.of hB, fun h => by cases h⟩, by have := hb1.size; simp; omega, fun v2 w2 h2 hg2 => ?_⟩
    have hle := hl.len
    subst hle
    obtain ⟨g, c, e, hp⟩ := PI.of (h1.alloc _) (hb1.alloc hb1.size _) h2 hg2 (by simp) (by omega)
    exact ⟨g, c, e, hide hp⟩)
  have HLE := hide hl.len
  clear hl
  go_enter Tryd.func51, Tryd.ntmps51
  go_wp2_with (first | (refine wpList_of_wp (by rfl) (wp_app5 (.tmp 6) (.tmp 7) rfl w.heap.size _ 0 [] rfl HE.out a n cap l rfl HL.out hn9 (by simp) n l (by omega) (by simp) ?_); intro v1 w1 h1 hg1; obtain ⟨q1, q2, q3, q4⟩ := HAP.out v1 w1 h1 hg1; clear h1 hg1) | (refine wpList_of_wp (by rfl) (wp_app5 (.tmp 8) (.tmp 9) rfl w.heap.size v1 n l rfl q1 (some ⟨w1.heap.size, 0, none⟩) 1 1 [128] rfl q2 hn91 q3 (n + 1) (l ++ [128]) rfl rfl ?_); intro v2 w2 h2 hg2; obtain ⟨g, c, rfl, HP⟩ := q4 v2 w2 h2 hg2; clear h2 hg2))
  have HP0 : Hid (PI w g c (l ++ (128 :: List.replicate 0 0)) w2) := HP
  clear HE HL HBEL HAP q1 q2 q3 q4 HP
  go_loopw [3] (fun v wr => ∃ k g c : Nat, k ≤ zc n ∧ v = .slice (some ⟨g, 0, none⟩) (n + 1 + k : Nat) c ∧ n + 1 + k ≤ c ∧ c ≤ 9223372036854775807 ∧ Hid (PI w g c (l ++ (128 :: List.replicate k 0)) wr)) (fun v _ => n + 100 - (match v with | .slice _ m _ => m | _ => 0))
  case atStart => exact ⟨0, g, c, by omega, rfl, by have := HP0.out.le; have := HLE.out; simp at *; omega, HP0.out.cap63, HP0⟩
  case round =>
    clear HP0
    obtain ⟨k, g, c, hk, rfl, hc, hc63, HP⟩ := hrel
    have hz64 : zc n < 64 := by unfold zc; omega
    by_cases hlt : k < zc n
    · have hmod : ¬ (n + 1 + k) % 64 = 56 := by unfold zc at hlt; omega
      go_wp2_with (refine wpList_of_wp (by rfl) (app_byte HP 0 (n + 1 + k) (by have := HLE.out; simp; omega) _ rfl (.tmp 15) (.tmp 16) rfl rfl rfl (by omega) ?_); intro g' c' w' HP')
      go_roundw
      case rel =>
        have e : l ++ 128 :: List.replicate k 0 ++ [0] = l ++ 128 :: List.replicate (k + 1) 0 := by rw [List.append_assoc, List.cons_append, ← List.replicate_succ']
        rw [e] at HP'
        have hl1 := HP'.out.le
        simp only [List.length_append, List.length_cons, List.length_replicate] at hl1
        rw [← HLE.out] at hl1
        exact ⟨k + 1, g', c', by omega, rfl, by omega, HP'.out.cap63, HP'⟩
      case measure => simp only []; omega
    · have hmod : (n + 1 + k) % 64 = 56 := by unfold zc at hlt; unfold zc at hk; omega
      obtain rfl : k = zc n := by omega
      have hmodI : ((n : Int) + 1 + ((zc n : Nat) : Int)) % 64 = 56 := by omega
      clear hmod
      have HP0 : Hid (PI w g c (l ++ 128 :: (List.replicate (zc n) 0 ++ (bits8 n).take (8 - 8))) wr) := by simpa using HP
      have HBT := hide (fun k (hk : k < 8) => bits8_int n k hk (by omega))
      clear HP hlt hk
      go_wp2_with fail
      clear hmodI
      go_loopw [3, 5] (fun v i wr => ∃ (m g c : Nat) (t : Int), m ≤ 8 ∧ i = .int .i64 t ∧ t = (m : Int) - 1 ∧ v = .slice (some ⟨g, 0, none⟩) (n + 1 + zc n + (8 - m) : Nat) c ∧ n + 1 + zc n + (8 - m) ≤ c ∧ c ≤ 9223372036854775807 ∧ Hid (PI w g c (l ++ 128 :: (List.replicate (zc n) 0 ++ (bits8 n).take (8 - m))) wr)) (fun _ i _ => (intOf i + 1).toNat)
      case atStart => exact ⟨8, g, c, 7, by omega, rfl, rfl, rfl, hc, hc63, HP0⟩
      case round =>
        clear HP0
        obtain ⟨m, g, c, t, hm, rfl, ht, rfl, hc, hc63, HP⟩ := hrel
        rcases m with _ | j
        · have hneg : t < 0 := by omega
          clear ht
          have HP8 : Hid (PI w g c (l ++ 128 :: (List.replicate (zc n) 0 ++ (bits8 n).take (8 - 0))) wr) := HP
          clear HP
          go_wp2_with fail
          go_ret
          have e : l ++ 128 :: (List.replicate (zc n) 0 ++ (bits8 n).take (8 - 0)) = padd l := by
            rw [padd_eq, ← HLE.out, List.take_of_length_le (by rw [bits8_len]; omega)]
          rw [e] at HP8
          have hlen : n + 1 + zc n + (8 - 0) = (padd l).length := by
            rw [← e]; have := HLE.out; simp [bits8_len]; omega
          have hr := HP8.out.own
          rw [← hlen] at hr
          exact ⟨g, c, _, rfl, hlen, hc, hc63, row_bytes hr, HP8.out.bel, HP8.out.ge⟩
        · obtain rfl : t = (j : Int) := by omega
          clear ht
          have hb := HBT.out j (by omega)
          have e : (l ++ 128 :: (List.replicate (zc n) 0 ++ (bits8 n).take (8 - (j + 1)))) ++ [(bits8 n).getD (7 - j) 0] = l ++ 128 :: (List.replicate (zc n) 0 ++ (bits8 n).take (8 - j)) := by
            have h7 : 7 - j < (bits8 n).length := by rw [bits8_len]; omega
            rw [List.append_assoc, List.cons_append, List.append_assoc, show 8 - j = 7 - j + 1 by omega, List.take_succ_eq_append_getElem h7, show 8 - (j + 1) = 7 - j by omega, List.getD_eq_getElem?_getD, List.getElem?_eq_getElem h7]
            rfl
          have HE := hide e
          have HB := hide hb
          clear e hb
          go_wp2_with (refine wpList_of_wp (by rfl) (app_byte HP ((bits8 n).getD (7 - j) 0) (n + 1 + zc n + (8 - (j + 1))) (by have := HLE.out; simp [bits8_len]; omega) _ (by rw [HB.out, Int.mul_comm]) (.tmp 26) (.tmp 32) rfl rfl rfl (by omega) ?_); intro g' c' w' HP')
          rw [HE.out] at HP'
          go_roundw
          case rel =>
            have hl1 := HP'.out.le
            have hn1 := HLE.out
            simp [bits8_len] at hl1
            exact ⟨j, g', c', _, by omega, rfl, rfl, by rw [show n + 1 + zc n + (7 - j) + 1 = n + 1 + zc n + (8 - j) by omega], by omega, HP'.out.cap63, HP'⟩
          case measure => simp [intOf]
end Go.Proofs.YtalgceplcahgbaaDoor
