/- Cut of the reference. -/
import Derived.Test.YthmaakiibgdigaaCut
import Derived.Test.YthmaakiibgdigaaIsc
namespace Go.Proofs.Ythmaakiibgdigaa
open Go.RowKit
variable {ok : Nat → Prop}

/-- The pairs of a row of all pairs, as far as y. -/
def rowTo (x y : Nat) : List (Int × Int) := ((List.range y).filter fun (z : Nat) => decide (x < z)).map fun (z : Nat) => ((x : Int), (z : Int))
theorem rowTo_first (x : Nat) : rowTo x (x + 1) = [] := by
  unfold rowTo
  rw [List.map_eq_nil_iff, List.filter_eq_nil_iff]
  intro z hz
  have := List.mem_range.1 hz
  simp
  omega
theorem rowTo_succ {x y : Nat} (h : x < y) : rowTo x (y + 1) = rowTo x y ++ [((x : Int), (y : Int))] := by
  unfold rowTo
  rw [List.range_succ, List.filter_append, List.map_append]
  simp [h]
def rowsTo (x : Nat) : List (Int × Int) := (List.range x).flatMap fun (z : Nat) => rowTo z 24
theorem rowsTo_succ (x : Nat) : rowsTo (x + 1) = rowsTo x ++ rowTo x 24 := by
  unfold rowsTo
  rw [List.range_succ, List.flatMap_append]
  simp
theorem rowsTo_all : rowsTo 24 = allPr := rfl
def wantP (l : List (Int × Int)) (p : Int × Int) (on : Bool) (q : Int × Int) : Bool := if q = p then on else l.contains q
theorem cutA_eq (l : List (Int × Int)) (p : Int × Int) (on : Bool) : cutA l p on = allPr.filter (wantP l p on) := by
  unfold cutA
  refine List.filter_congr fun q _ => ?_
  unfold wantP
  by_cases h : q = p
  · simp [h]
  · simp [h]
theorem rows_bound (P : Int × Int → Bool) (x y : Nat) (hx : x < 24) (hy : y ≤ 24) : ((rowsTo x ++ rowTo x y).filter P).length ≤ 1000 := by
  have h1 := List.length_filter_le P (rowsTo x ++ rowTo x y)
  have h2 : (rowTo x y).length ≤ y := by
    unfold rowTo
    rw [List.length_map]
    exact Nat.le_trans (List.length_filter_le _ _) (by simp)
  have h3 : ∀ x, (rowsTo x).length ≤ x * 24 := by
    intro x
    induction x with
    | zero => simp [rowsTo]
    | succ x ih =>
      rw [rowsTo_succ, List.length_append]
      have h4 : (rowTo x 24).length ≤ 24 := by
        unfold rowTo
        rw [List.length_map]
        exact Nat.le_trans (List.length_filter_le _ _) (by simp)
      omega
  have h4 := h3 x
  rw [List.length_append] at h1
  omega
theorem rcut_fin {w w5 : World} {q : Sl Pkt} {a : Sl (Int × Int)} {x : Nt × Int} (hb : Below w.heap.size w w5) (hq : PksIn ok q w) (ha : SlIn prC ok a w5) (hr : ∀ y ∈ a.l, I64 y.1 ∧ I64 y.2) (hx : x = (⟨q.l.map Pkt.d, a.l⟩, 0)) :
    Ans ok w x (.returned (.tuple #[.agg #[.slice q.A q.l.length q.cap, .slice a.A a.l.length a.cap], .int .i64 0])) w5 :=
  ⟨⟨q, a⟩, by rw [hx], by rw [hx]; rfl, ⟨hq.below hb, ha, hr⟩, hb⟩

set_option maxRecDepth 100000 in
set_option maxHeartbeats 6400000 in
theorem rcut_lt (n : Net) (a b : Int) (on : Bool) (w : World) (hok : ∀ b, w.heap.size ≤ b → ok b) (hi : n.In ok w) (hc : n.d.chk = true) (ha : siteB a = true) (hbb : siteB b = true) (hab : a < b) : Calls Try.prog 19 #[n.v, .int .i64 a, .int .i64 b, .bool on] w (Ans ok w (⟨n.d.q, cutA n.d.a (a, b) on⟩, 0)) := by
  obtain ⟨⟨qA, ql, qc⟩, ⟨aA, al, ac⟩⟩ := n
  have HB := hide (show Below w.heap.size w ((w.alloc (.cells #[.slice qA ql.length qc, .slice aA al.length ac] 25)).alloc (.cells #[.slice none 0 0, .slice none 0 0] 25)) from (below_new _ _).alloc (by simp) _)
  have HX0 := hide (show Blk ((w.alloc (.cells #[.slice qA ql.length qc, .slice aA al.length ac] 25)).alloc (.cells #[.slice none 0 0, .slice none 0 0] 25)) w.heap.size 25 [.slice qA ql.length qc, .slice aA al.length ac] from (Blk.new w 25 [.slice qA ql.length qc, .slice aA al.length ac]).alloc _)
  have b2 := Blk.new (w.alloc (.cells #[.slice qA ql.length qc, .slice aA al.length ac] 25)) 25 [.slice none 0 0, .slice none 0 0]
  simp only [World.size_alloc] at b2
  have HX2 := hide b2
  clear b2
  have HI := hide hi
  clear hi
  have HC := hide (rcheck_ok hc ((w.alloc (.cells #[.slice qA ql.length qc, .slice aA al.length ac] 25)).alloc (.cells #[.slice none 0 0, .slice none 0 0] 25)) (HI.out.below HB.out))
  have HSA := hide (fun W => site_is ha W)
  have HSB := hide (fun W => site_is hbb W)
  have hrA : 0 ≤ a ∧ a < 24 := by simpa [siteB] using ha
  have hrB : 0 ≤ b ∧ b < 24 := by simpa [siteB] using hbb
  have hneq : (a == b) = false := beq_eq_false_iff_ne.2 (by omega)
  have HLO := hide (show min a b = a from Int.min_eq_left (by omega))
  have HHI := hide (show max a b = b from Int.max_eq_right (by omega))
  clear hc ha hbb
  obtain ⟨i55, hi55⟩ := hinfo55
  have HI55 := hide hi55
  clear hi55
  go_enter Try.func19, Try.ntmps19
  go_wp2_with fail
  refine HC.out.mono ?_
  rintro e w1 ⟨rfl, hb⟩
  have HK := hide (below_one HB.out hb)
  have HRR := hide (HX2.out.below hb HX2.out.lt)
  have HRA := hide (HX0.out.below hb HX0.out.lt)
  clear hb
  go_wp2_with fail
  refine (HSA.out _).mono ?_
  rintro e w2 ⟨rfl, rfl⟩
  go_wp2_with fail
  refine (HSB.out _).mono ?_
  rintro e w2 ⟨rfl, rfl⟩
  go_wp2_with fail
  have HIC := hide (fun (x y : Nat) (hxy : x < y) W (hW : Below w1.heap.size w1 W) => isCut_any ⟨⟨qA, ql, qc⟩, ⟨aA, al, ac⟩⟩ (x : Int) (y : Int) W (HI.out.below (HK.out.trans (hW.mono HK.out.size))))
  have HPN := hide (show ∀ x y : Nat, x < y → (Net.d ⟨⟨qA, ql, qc⟩, ⟨aA, al, ac⟩⟩).isCut (x : Int) (y : Int) = al.contains ((x : Int), (y : Int)) from fun x y hxy => by
    unfold Nt.isCut pairN
    rw [Int.min_eq_left (by omega), Int.max_eq_right (by omega)]
    rfl)
  go_loopw [11, 10, 12, 13] (fun i l _ _ wr => ∃ (x : Nat) (A : Option Addr) (c : Nat), x ≤ 24 ∧ i = .int .i64 x ∧ l = .slice A ((rowsTo x).filter (wantP al (a, b) on)).length c ∧ Hid (wr.ownsRow w1.heap.size 55 2 (.slice A ((rowsTo x).filter (wantP al (a, b) on)).length c) ((rowsTo x).filter (wantP al (a, b) on)).length (((rowsTo x).filter (wantP al (a, b) on)).flatMap prC)) ∧ Hid (Below w1.heap.size w1 wr)) (fun i _ _ _ _ => 24 - (intOf i).toNat)
  case atStart => exact ⟨0, none, 0, by omega, rfl, rfl, hide ⟨by simp [rowsTo], .inl ⟨rfl, rfl⟩⟩, hide (Below.refl _ _)⟩
  case round =>
    obtain ⟨x, A, c, hx, rfl, rfl, HO, HBw⟩ := hrel
    by_cases hlt : x < 24
    · have hlt' : (x : Int) < 24 := by omega
      go_wp2_with fail
      go_loopw [12, 10, 13] (fun i l _ wr => ∃ (y : Nat) (A : Option Addr) (c : Nat), x < y ∧ y ≤ 24 ∧ i = .int .i64 y ∧ l = .slice A ((rowsTo x ++ rowTo x y).filter (wantP al (a, b) on)).length c ∧ Hid (wr.ownsRow w1.heap.size 55 2 (.slice A ((rowsTo x ++ rowTo x y).filter (wantP al (a, b) on)).length c) ((rowsTo x ++ rowTo x y).filter (wantP al (a, b) on)).length (((rowsTo x ++ rowTo x y).filter (wantP al (a, b) on)).flatMap prC)) ∧ Hid (Below w1.heap.size w1 wr)) (fun i _ _ _ => 24 - (intOf i).toNat)
      case atStart => exact ⟨x + 1, A, c, by omega, by omega, by go_num, by rw [rowTo_first, List.append_nil], hide (by rw [rowTo_first, List.append_nil]; exact HO.out), HBw⟩
      case round =>
        clear HO HBw
        obtain ⟨y, A, c, hxy, hy, rfl, rfl, HO, HBw⟩ := hrel
        by_cases hlty : y < 24
        · have hlty' : (y : Int) < 24 := by omega
          have HSC := hide (show (rowsTo x ++ rowTo x (y + 1)).filter (wantP al (a, b) on) = (rowsTo x ++ rowTo x y).filter (wantP al (a, b) on) ++ (if wantP al (a, b) on ((x : Int), (y : Int)) then [((x : Int), (y : Int))] else []) by
            rw [rowTo_succ hxy, ← List.append_assoc, List.filter_append, List.filter_cons, List.filter_nil])
          have HLN := hide (rows_bound (wantP al (a, b) on) x y hlt hy)
          have HCN := HIC.out x y hxy wr HBw.out
          rw [HPN.out x y hxy] at HCN
          have HWT := hide (show wantP al (a, b) on ((x : Int), (y : Int)) = if ((x : Int), (y : Int)) = (a, b) then on else al.contains ((x : Int), (y : Int)) from rfl)
          generalize al.contains ((x : Int), (y : Int)) = bb at *
          have HCN := hide HCN
          obtain ⟨c0, c1⟩ := (HRA.out.below HBw.out HRA.out.lt).c2
          go_wp2_with fail
          refine HCN.out.mono ?_
          rintro e w2 ⟨rfl, hb⟩
          have HB2 := hide (HBw.out.trans (hb.mono HBw.out.size))
          have HO2 := hide (own_later HO.out hb)
          clear hb c0 c1
          by_cases hqx : (x : Int) = a
          · have ex : ((x : Int) == min a b) = true := by rw [HLO.out]; simpa using hqx
            by_cases hqy : (y : Int) = b
            · have ey : ((y : Int) == max a b) = true := by rw [HHI.out]; simpa using hqy
              have HWW := hide (HWT.out.trans (if_pos (by rw [hqx, hqy])))
              clear hqx hqy
              cases on with
              | true =>
                have HP1 := hide (HSC.out.trans (by rw [HWW.out]; rfl) : (rowsTo x ++ rowTo x (y + 1)).filter (wantP al (a, b) true) = (rowsTo x ++ rowTo x y).filter (wantP al (a, b) true) ++ [((x : Int), (y : Int))])
                have hzW : w1.heap.size ≤ (w2.alloc (.cells #[.int .i64 (x : Int), .int .i64 (y : Int)] 55)).heap.size := by have := HB2.out.size; simp; omega
                have HOW2 := hide (own_later HO2.out (below_new w2 (.cells #[.int .i64 (x : Int), .int .i64 (y : Int)] 55)))
                have hln := HLN.out
                generalize hL : (rowsTo x ++ rowTo x y).filter (wantP al (a, b) true) = L at *
                go_wp2_with (refine wpList_app rfl (.tmp 60) (.tmp 64) 23 rfl w1.heap.size 55 i55 _ 2 16 Try.underlying23 HI55.out rfl (by omega) _ L.length (L.flatMap prC) rfl HOW2.out (some ⟨w2.heap.size, 0, none⟩) 1 1 [.int .i64 (x : Int), .int .i64 (y : Int)] rfl (fun h => by cases h) rfl (new_cells w2 55 [.int .i64 (x : Int), .int .i64 (y : Int)]) (pr_one ((x : Int), (y : Int))) (by unfold maxLen; omega) (by omega) hzW ?_; intro A6 c6 w6 hown hg; have HO6 := hide hown; have HB6 := hide (below_app (HB2.out.alloc HB2.out.size (.cells #[.int .i64 (x : Int), .int .i64 (y : Int)] 55)) HOW2.out hg (Nat.le_refl _) hzW); clear hown hg)
                go_roundw
                case rel => exact ⟨y + 1, A6, c6, by omega, by omega, by go_num, by rw [HP1.out, List.length_append]; rfl, hide (by rw [HP1.out, List.length_append, List.flatMap_append]; exact HO6.out), HB6⟩
                case measure => simp [intOf]; omega
              | false =>
                have HP1 := hide (HSC.out.trans (by rw [HWW.out, if_neg (by decide), List.append_nil]) : (rowsTo x ++ rowTo x (y + 1)).filter (wantP al (a, b) false) = (rowsTo x ++ rowTo x y).filter (wantP al (a, b) false))
                go_wp2_with fail
                go_roundw
                case rel => exact ⟨y + 1, A, c, by omega, by omega, by go_num, by rw [HP1.out, List.filter_append, List.length_append], hide (by rw [HP1.out]; exact HO2.out), HB2⟩
                case measure => simp [intOf]; omega
            · have ey : ((y : Int) == max a b) = false := by rw [HHI.out]; exact beq_eq_false_iff_ne.2 hqy
              have HWW := hide (HWT.out.trans (if_neg (fun e => hqy (Prod.mk.inj e).2)))
              clear hqx hqy
              cases bb with
              | true =>
                have HP1 := hide (HSC.out.trans (by rw [HWW.out]; rfl) : (rowsTo x ++ rowTo x (y + 1)).filter (wantP al (a, b) on) = (rowsTo x ++ rowTo x y).filter (wantP al (a, b) on) ++ [((x : Int), (y : Int))])
                have hzW : w1.heap.size ≤ (w2.alloc (.cells #[.int .i64 (x : Int), .int .i64 (y : Int)] 55)).heap.size := by have := HB2.out.size; simp; omega
                have HOW2 := hide (own_later HO2.out (below_new w2 (.cells #[.int .i64 (x : Int), .int .i64 (y : Int)] 55)))
                have hln := HLN.out
                generalize hL : (rowsTo x ++ rowTo x y).filter (wantP al (a, b) on) = L at *
                go_wp2_with (refine wpList_app rfl (.tmp 60) (.tmp 64) 23 rfl w1.heap.size 55 i55 _ 2 16 Try.underlying23 HI55.out rfl (by omega) _ L.length (L.flatMap prC) rfl HOW2.out (some ⟨w2.heap.size, 0, none⟩) 1 1 [.int .i64 (x : Int), .int .i64 (y : Int)] rfl (fun h => by cases h) rfl (new_cells w2 55 [.int .i64 (x : Int), .int .i64 (y : Int)]) (pr_one ((x : Int), (y : Int))) (by unfold maxLen; omega) (by omega) hzW ?_; intro A6 c6 w6 hown hg; have HO6 := hide hown; have HB6 := hide (below_app (HB2.out.alloc HB2.out.size (.cells #[.int .i64 (x : Int), .int .i64 (y : Int)] 55)) HOW2.out hg (Nat.le_refl _) hzW); clear hown hg)
                go_roundw
                case rel => exact ⟨y + 1, A6, c6, by omega, by omega, by go_num, by rw [HP1.out, List.length_append]; rfl, hide (by rw [HP1.out, List.length_append, List.flatMap_append]; exact HO6.out), HB6⟩
                case measure => simp [intOf]; omega
              | false =>
                have HP1 := hide (HSC.out.trans (by rw [HWW.out, if_neg (by decide), List.append_nil]) : (rowsTo x ++ rowTo x (y + 1)).filter (wantP al (a, b) on) = (rowsTo x ++ rowTo x y).filter (wantP al (a, b) on))
                go_wp2_with fail
                go_roundw
                case rel => exact ⟨y + 1, A, c, by omega, by omega, by go_num, by rw [HP1.out, List.filter_append, List.length_append], hide (by rw [HP1.out]; exact HO2.out), HB2⟩
                case measure => simp [intOf]; omega
          · have ex : ((x : Int) == min a b) = false := by rw [HLO.out]; exact beq_eq_false_iff_ne.2 hqx
            have HWW := hide (HWT.out.trans (if_neg (fun e => hqx (Prod.mk.inj e).1)))
            clear hqx
            cases bb with
            | true =>
              have HP1 := hide (HSC.out.trans (by rw [HWW.out]; rfl) : (rowsTo x ++ rowTo x (y + 1)).filter (wantP al (a, b) on) = (rowsTo x ++ rowTo x y).filter (wantP al (a, b) on) ++ [((x : Int), (y : Int))])
              have hzW : w1.heap.size ≤ (w2.alloc (.cells #[.int .i64 (x : Int), .int .i64 (y : Int)] 55)).heap.size := by have := HB2.out.size; simp; omega
              have HOW2 := hide (own_later HO2.out (below_new w2 (.cells #[.int .i64 (x : Int), .int .i64 (y : Int)] 55)))
              have hln := HLN.out
              generalize hL : (rowsTo x ++ rowTo x y).filter (wantP al (a, b) on) = L at *
              go_wp2_with (refine wpList_app rfl (.tmp 60) (.tmp 64) 23 rfl w1.heap.size 55 i55 _ 2 16 Try.underlying23 HI55.out rfl (by omega) _ L.length (L.flatMap prC) rfl HOW2.out (some ⟨w2.heap.size, 0, none⟩) 1 1 [.int .i64 (x : Int), .int .i64 (y : Int)] rfl (fun h => by cases h) rfl (new_cells w2 55 [.int .i64 (x : Int), .int .i64 (y : Int)]) (pr_one ((x : Int), (y : Int))) (by unfold maxLen; omega) (by omega) hzW ?_; intro A6 c6 w6 hown hg; have HO6 := hide hown; have HB6 := hide (below_app (HB2.out.alloc HB2.out.size (.cells #[.int .i64 (x : Int), .int .i64 (y : Int)] 55)) HOW2.out hg (Nat.le_refl _) hzW); clear hown hg)
              go_roundw
              case rel => exact ⟨y + 1, A6, c6, by omega, by omega, by go_num, by rw [HP1.out, List.length_append]; rfl, hide (by rw [HP1.out, List.length_append, List.flatMap_append]; exact HO6.out), HB6⟩
              case measure => simp [intOf]; omega
            | false =>
              have HP1 := hide (HSC.out.trans (by rw [HWW.out, if_neg (by decide), List.append_nil]) : (rowsTo x ++ rowTo x (y + 1)).filter (wantP al (a, b) on) = (rowsTo x ++ rowTo x y).filter (wantP al (a, b) on))
              go_wp2_with fail
              go_roundw
              case rel => exact ⟨y + 1, A, c, by omega, by omega, by go_num, by rw [HP1.out, List.filter_append, List.length_append], hide (by rw [HP1.out]; exact HO2.out), HB2⟩
              case measure => simp [intOf]; omega
        · obtain rfl : y = 24 := by omega
          go_wp2_with fail
          go_roundw
          case rel => exact ⟨x + 1, A, c, by omega, by go_num, by rw [rowsTo_succ], hide (by rw [rowsTo_succ]; exact HO.out), HBw⟩
          case measure => simp [intOf]; omega
    · obtain rfl : x = 24 := by omega
      have HAE := hide (show (rowsTo 24).filter (wantP al (a, b) on) = cutA al (a, b) on by rw [rowsTo_all, cutA_eq])
      have HA3 := hide (HRA.out.below HBw.out HRA.out.lt)
      have HR3 := hide (HRR.out.below HBw.out HRR.out.lt)
      generalize (rowsTo 24).filter (wantP al (a, b) on) = L at *
      obtain ⟨c0, c1⟩ := HA3.out.c2
      have f1 := HA3.out.free 1
      have HA5 := hide (HA3.out.set 1 (.slice A L.length c))
      simp only [List.set_cons_zero, List.set_cons_succ] at HA5
      have HR5 := hide (HR3.out.apart (p := ⟨w.heap.size, 1, none⟩) (by simp) (.slice A L.length c))
      have HWL := hide (show w.heap.size + 2 ≤ w1.heap.size by have := HRR.out.lt; omega)
      have HSI := hide (own_in (ok := fun b => ok b ∧ w1.heap.size ≤ b) HO.out rfl (fun b hb => ⟨hok b (by have := HWL.out; omega), hb⟩))
      have HKP := hide (show Kept (fun b => ok b ∧ w1.heap.size ≤ b) wr ((wr.setCell ⟨w.heap.size, 1, none⟩ (.slice A L.length c)).setRow (w.heap.size + 1) #[.slice qA ql.length qc, .slice A L.length c]) from (Kept.only (X := w.heap.size) (only_setCell (only_refl _ _) (.inl rfl) _) (fun h => by have := h.2; have := HWL.out; omega)).trans (Kept.row (fun h => by have := h.2; have := HWL.out; omega) _))
      have HBL2 := hide (show Below w.heap.size w ((wr.setCell ⟨w.heap.size, 1, none⟩ (.slice A L.length c)).setRow (w.heap.size + 1) #[.slice qA ql.length qc, .slice A L.length c]) from below_setRow ((HK.out.trans (HBw.out.mono HK.out.size)).setCell (p := ⟨w.heap.size, 1, none⟩) (Nat.le_refl _) _) (by omega) _)
      go_wp2_with (first | (refine wpList_load_row rfl 25 (.tmp 4) rfl w.heap.size rfl 25 _ (0, 0) _ HA5.out Try.underlying25 rfl Try.size25 ?_) | (refine wpList_store_row rfl 25 (.tmp 8) (.tmp 68) rfl (w.heap.size + 1) #[.slice qA ql.length qc, .slice A L.length c] rfl rfl 25 _ HR5.out Try.size25 rfl (one25 _ _ _ _ _ _) ?_))
      refine bodyPost_ret (v := .tuple #[.agg #[.slice qA ql.length qc, .slice A L.length c], .int .i64 0]) (results_cell_row_tmp rfl _ _ (w.heap.size + 1) 25 #[.slice qA ql.length qc, .slice A L.length c] (0, 0) _ (.int .i64 0) rfl rfl (setRow_heap _ _ _ _ _ _ HR5.out) Try.underlying25 rfl Try.size25) rfl ?_
      refine rcut_fin (a := ⟨A, L, c⟩) HBL2.out HI.out.q ((HSI.out.keep HKP.out).weak fun b _ h => h.1) (fun y hy => ?_) (congrArg (fun x => (Nt.mk (ql.map Pkt.d) x, (0 : Int))) HAE.out.symm)
      have h1 : y ∈ cutA al (a, b) on := HAE.out ▸ hy
      exact pair_rng (mem_cutA.1 h1).1

set_option maxRecDepth 100000 in
set_option maxHeartbeats 6400000 in
theorem rcut_gt (n : Net) (a b : Int) (on : Bool) (w : World) (hok : ∀ b, w.heap.size ≤ b → ok b) (hi : n.In ok w) (hc : n.d.chk = true) (ha : siteB a = true) (hbb : siteB b = true) (hab : b < a) : Calls Try.prog 19 #[n.v, .int .i64 a, .int .i64 b, .bool on] w (Ans ok w (⟨n.d.q, cutA n.d.a (b, a) on⟩, 0)) := by
  obtain ⟨⟨qA, ql, qc⟩, ⟨aA, al, ac⟩⟩ := n
  have HB := hide (show Below w.heap.size w ((w.alloc (.cells #[.slice qA ql.length qc, .slice aA al.length ac] 25)).alloc (.cells #[.slice none 0 0, .slice none 0 0] 25)) from (below_new _ _).alloc (by simp) _)
  have HX0 := hide (show Blk ((w.alloc (.cells #[.slice qA ql.length qc, .slice aA al.length ac] 25)).alloc (.cells #[.slice none 0 0, .slice none 0 0] 25)) w.heap.size 25 [.slice qA ql.length qc, .slice aA al.length ac] from (Blk.new w 25 [.slice qA ql.length qc, .slice aA al.length ac]).alloc _)
  have b2 := Blk.new (w.alloc (.cells #[.slice qA ql.length qc, .slice aA al.length ac] 25)) 25 [.slice none 0 0, .slice none 0 0]
  simp only [World.size_alloc] at b2
  have HX2 := hide b2
  clear b2
  have HI := hide hi
  clear hi
  have HC := hide (rcheck_ok hc ((w.alloc (.cells #[.slice qA ql.length qc, .slice aA al.length ac] 25)).alloc (.cells #[.slice none 0 0, .slice none 0 0] 25)) (HI.out.below HB.out))
  have HSA := hide (fun W => site_is ha W)
  have HSB := hide (fun W => site_is hbb W)
  have hrA : 0 ≤ a ∧ a < 24 := by simpa [siteB] using ha
  have hrB : 0 ≤ b ∧ b < 24 := by simpa [siteB] using hbb
  have hneq : (a == b) = false := beq_eq_false_iff_ne.2 (by omega)
  have HLO := hide (show min a b = b from Int.min_eq_right (by omega))
  have HHI := hide (show max a b = a from Int.max_eq_left (by omega))
  clear hc ha hbb
  obtain ⟨i55, hi55⟩ := hinfo55
  have HI55 := hide hi55
  clear hi55
  go_enter Try.func19, Try.ntmps19
  go_wp2_with fail
  refine HC.out.mono ?_
  rintro e w1 ⟨rfl, hb⟩
  have HK := hide (below_one HB.out hb)
  have HRR := hide (HX2.out.below hb HX2.out.lt)
  have HRA := hide (HX0.out.below hb HX0.out.lt)
  clear hb
  go_wp2_with fail
  refine (HSA.out _).mono ?_
  rintro e w2 ⟨rfl, rfl⟩
  go_wp2_with fail
  refine (HSB.out _).mono ?_
  rintro e w2 ⟨rfl, rfl⟩
  go_wp2_with fail
  have HIC := hide (fun (x y : Nat) (hxy : x < y) W (hW : Below w1.heap.size w1 W) => isCut_any ⟨⟨qA, ql, qc⟩, ⟨aA, al, ac⟩⟩ (x : Int) (y : Int) W (HI.out.below (HK.out.trans (hW.mono HK.out.size))))
  have HPN := hide (show ∀ x y : Nat, x < y → (Net.d ⟨⟨qA, ql, qc⟩, ⟨aA, al, ac⟩⟩).isCut (x : Int) (y : Int) = al.contains ((x : Int), (y : Int)) from fun x y hxy => by
    unfold Nt.isCut pairN
    rw [Int.min_eq_left (by omega), Int.max_eq_right (by omega)]
    rfl)
  go_loopw [11, 10, 12, 13] (fun i l _ _ wr => ∃ (x : Nat) (A : Option Addr) (c : Nat), x ≤ 24 ∧ i = .int .i64 x ∧ l = .slice A ((rowsTo x).filter (wantP al (b, a) on)).length c ∧ Hid (wr.ownsRow w1.heap.size 55 2 (.slice A ((rowsTo x).filter (wantP al (b, a) on)).length c) ((rowsTo x).filter (wantP al (b, a) on)).length (((rowsTo x).filter (wantP al (b, a) on)).flatMap prC)) ∧ Hid (Below w1.heap.size w1 wr)) (fun i _ _ _ _ => 24 - (intOf i).toNat)
  case atStart => exact ⟨0, none, 0, by omega, rfl, rfl, hide ⟨by simp [rowsTo], .inl ⟨rfl, rfl⟩⟩, hide (Below.refl _ _)⟩
  case round =>
    obtain ⟨x, A, c, hx, rfl, rfl, HO, HBw⟩ := hrel
    by_cases hlt : x < 24
    · have hlt' : (x : Int) < 24 := by omega
      go_wp2_with fail
      go_loopw [12, 10, 13] (fun i l _ wr => ∃ (y : Nat) (A : Option Addr) (c : Nat), x < y ∧ y ≤ 24 ∧ i = .int .i64 y ∧ l = .slice A ((rowsTo x ++ rowTo x y).filter (wantP al (b, a) on)).length c ∧ Hid (wr.ownsRow w1.heap.size 55 2 (.slice A ((rowsTo x ++ rowTo x y).filter (wantP al (b, a) on)).length c) ((rowsTo x ++ rowTo x y).filter (wantP al (b, a) on)).length (((rowsTo x ++ rowTo x y).filter (wantP al (b, a) on)).flatMap prC)) ∧ Hid (Below w1.heap.size w1 wr)) (fun i _ _ _ => 24 - (intOf i).toNat)
      case atStart => exact ⟨x + 1, A, c, by omega, by omega, by go_num, by rw [rowTo_first, List.append_nil], hide (by rw [rowTo_first, List.append_nil]; exact HO.out), HBw⟩
      case round =>
        clear HO HBw
        obtain ⟨y, A, c, hxy, hy, rfl, rfl, HO, HBw⟩ := hrel
        by_cases hlty : y < 24
        · have hlty' : (y : Int) < 24 := by omega
          have HSC := hide (show (rowsTo x ++ rowTo x (y + 1)).filter (wantP al (b, a) on) = (rowsTo x ++ rowTo x y).filter (wantP al (b, a) on) ++ (if wantP al (b, a) on ((x : Int), (y : Int)) then [((x : Int), (y : Int))] else []) by
            rw [rowTo_succ hxy, ← List.append_assoc, List.filter_append, List.filter_cons, List.filter_nil])
          have HLN := hide (rows_bound (wantP al (b, a) on) x y hlt hy)
          have HCN := HIC.out x y hxy wr HBw.out
          rw [HPN.out x y hxy] at HCN
          have HWT := hide (show wantP al (b, a) on ((x : Int), (y : Int)) = if ((x : Int), (y : Int)) = (b, a) then on else al.contains ((x : Int), (y : Int)) from rfl)
          generalize al.contains ((x : Int), (y : Int)) = bb at *
          have HCN := hide HCN
          obtain ⟨c0, c1⟩ := (HRA.out.below HBw.out HRA.out.lt).c2
          go_wp2_with fail
          refine HCN.out.mono ?_
          rintro e w2 ⟨rfl, hb⟩
          have HB2 := hide (HBw.out.trans (hb.mono HBw.out.size))
          have HO2 := hide (own_later HO.out hb)
          clear hb c0 c1
          by_cases hqx : (x : Int) = b
          · have ex : ((x : Int) == min a b) = true := by rw [HLO.out]; simpa using hqx
            by_cases hqy : (y : Int) = a
            · have ey : ((y : Int) == max a b) = true := by rw [HHI.out]; simpa using hqy
              have HWW := hide (HWT.out.trans (if_pos (by rw [hqx, hqy])))
              clear hqx hqy
              cases on with
              | true =>
                have HP1 := hide (HSC.out.trans (by rw [HWW.out]; rfl) : (rowsTo x ++ rowTo x (y + 1)).filter (wantP al (b, a) true) = (rowsTo x ++ rowTo x y).filter (wantP al (b, a) true) ++ [((x : Int), (y : Int))])
                have hzW : w1.heap.size ≤ (w2.alloc (.cells #[.int .i64 (x : Int), .int .i64 (y : Int)] 55)).heap.size := by have := HB2.out.size; simp; omega
                have HOW2 := hide (own_later HO2.out (below_new w2 (.cells #[.int .i64 (x : Int), .int .i64 (y : Int)] 55)))
                have hln := HLN.out
                generalize hL : (rowsTo x ++ rowTo x y).filter (wantP al (b, a) true) = L at *
                go_wp2_with (refine wpList_app rfl (.tmp 60) (.tmp 64) 23 rfl w1.heap.size 55 i55 _ 2 16 Try.underlying23 HI55.out rfl (by omega) _ L.length (L.flatMap prC) rfl HOW2.out (some ⟨w2.heap.size, 0, none⟩) 1 1 [.int .i64 (x : Int), .int .i64 (y : Int)] rfl (fun h => by cases h) rfl (new_cells w2 55 [.int .i64 (x : Int), .int .i64 (y : Int)]) (pr_one ((x : Int), (y : Int))) (by unfold maxLen; omega) (by omega) hzW ?_; intro A6 c6 w6 hown hg; have HO6 := hide hown; have HB6 := hide (below_app (HB2.out.alloc HB2.out.size (.cells #[.int .i64 (x : Int), .int .i64 (y : Int)] 55)) HOW2.out hg (Nat.le_refl _) hzW); clear hown hg)
                go_roundw
                case rel => exact ⟨y + 1, A6, c6, by omega, by omega, by go_num, by rw [HP1.out, List.length_append]; rfl, hide (by rw [HP1.out, List.length_append, List.flatMap_append]; exact HO6.out), HB6⟩
                case measure => simp [intOf]; omega
              | false =>
                have HP1 := hide (HSC.out.trans (by rw [HWW.out, if_neg (by decide), List.append_nil]) : (rowsTo x ++ rowTo x (y + 1)).filter (wantP al (b, a) false) = (rowsTo x ++ rowTo x y).filter (wantP al (b, a) false))
                go_wp2_with fail
                go_roundw
                case rel => exact ⟨y + 1, A, c, by omega, by omega, by go_num, by rw [HP1.out, List.filter_append, List.length_append], hide (by rw [HP1.out]; exact HO2.out), HB2⟩
                case measure => simp [intOf]; omega
            · have ey : ((y : Int) == max a b) = false := by rw [HHI.out]; exact beq_eq_false_iff_ne.2 hqy
              have HWW := hide (HWT.out.trans (if_neg (fun e => hqy (Prod.mk.inj e).2)))
              clear hqx hqy
              cases bb with
              | true =>
                have HP1 := hide (HSC.out.trans (by rw [HWW.out]; rfl) : (rowsTo x ++ rowTo x (y + 1)).filter (wantP al (b, a) on) = (rowsTo x ++ rowTo x y).filter (wantP al (b, a) on) ++ [((x : Int), (y : Int))])
                have hzW : w1.heap.size ≤ (w2.alloc (.cells #[.int .i64 (x : Int), .int .i64 (y : Int)] 55)).heap.size := by have := HB2.out.size; simp; omega
                have HOW2 := hide (own_later HO2.out (below_new w2 (.cells #[.int .i64 (x : Int), .int .i64 (y : Int)] 55)))
                have hln := HLN.out
                generalize hL : (rowsTo x ++ rowTo x y).filter (wantP al (b, a) on) = L at *
                go_wp2_with (refine wpList_app rfl (.tmp 60) (.tmp 64) 23 rfl w1.heap.size 55 i55 _ 2 16 Try.underlying23 HI55.out rfl (by omega) _ L.length (L.flatMap prC) rfl HOW2.out (some ⟨w2.heap.size, 0, none⟩) 1 1 [.int .i64 (x : Int), .int .i64 (y : Int)] rfl (fun h => by cases h) rfl (new_cells w2 55 [.int .i64 (x : Int), .int .i64 (y : Int)]) (pr_one ((x : Int), (y : Int))) (by unfold maxLen; omega) (by omega) hzW ?_; intro A6 c6 w6 hown hg; have HO6 := hide hown; have HB6 := hide (below_app (HB2.out.alloc HB2.out.size (.cells #[.int .i64 (x : Int), .int .i64 (y : Int)] 55)) HOW2.out hg (Nat.le_refl _) hzW); clear hown hg)
                go_roundw
                case rel => exact ⟨y + 1, A6, c6, by omega, by omega, by go_num, by rw [HP1.out, List.length_append]; rfl, hide (by rw [HP1.out, List.length_append, List.flatMap_append]; exact HO6.out), HB6⟩
                case measure => simp [intOf]; omega
              | false =>
                have HP1 := hide (HSC.out.trans (by rw [HWW.out, if_neg (by decide), List.append_nil]) : (rowsTo x ++ rowTo x (y + 1)).filter (wantP al (b, a) on) = (rowsTo x ++ rowTo x y).filter (wantP al (b, a) on))
                go_wp2_with fail
                go_roundw
                case rel => exact ⟨y + 1, A, c, by omega, by omega, by go_num, by rw [HP1.out, List.filter_append, List.length_append], hide (by rw [HP1.out]; exact HO2.out), HB2⟩
                case measure => simp [intOf]; omega
          · have ex : ((x : Int) == min a b) = false := by rw [HLO.out]; exact beq_eq_false_iff_ne.2 hqx
            have HWW := hide (HWT.out.trans (if_neg (fun e => hqx (Prod.mk.inj e).1)))
            clear hqx
            cases bb with
            | true =>
              have HP1 := hide (HSC.out.trans (by rw [HWW.out]; rfl) : (rowsTo x ++ rowTo x (y + 1)).filter (wantP al (b, a) on) = (rowsTo x ++ rowTo x y).filter (wantP al (b, a) on) ++ [((x : Int), (y : Int))])
              have hzW : w1.heap.size ≤ (w2.alloc (.cells #[.int .i64 (x : Int), .int .i64 (y : Int)] 55)).heap.size := by have := HB2.out.size; simp; omega
              have HOW2 := hide (own_later HO2.out (below_new w2 (.cells #[.int .i64 (x : Int), .int .i64 (y : Int)] 55)))
              have hln := HLN.out
              generalize hL : (rowsTo x ++ rowTo x y).filter (wantP al (b, a) on) = L at *
              go_wp2_with (refine wpList_app rfl (.tmp 60) (.tmp 64) 23 rfl w1.heap.size 55 i55 _ 2 16 Try.underlying23 HI55.out rfl (by omega) _ L.length (L.flatMap prC) rfl HOW2.out (some ⟨w2.heap.size, 0, none⟩) 1 1 [.int .i64 (x : Int), .int .i64 (y : Int)] rfl (fun h => by cases h) rfl (new_cells w2 55 [.int .i64 (x : Int), .int .i64 (y : Int)]) (pr_one ((x : Int), (y : Int))) (by unfold maxLen; omega) (by omega) hzW ?_; intro A6 c6 w6 hown hg; have HO6 := hide hown; have HB6 := hide (below_app (HB2.out.alloc HB2.out.size (.cells #[.int .i64 (x : Int), .int .i64 (y : Int)] 55)) HOW2.out hg (Nat.le_refl _) hzW); clear hown hg)
              go_roundw
              case rel => exact ⟨y + 1, A6, c6, by omega, by omega, by go_num, by rw [HP1.out, List.length_append]; rfl, hide (by rw [HP1.out, List.length_append, List.flatMap_append]; exact HO6.out), HB6⟩
              case measure => simp [intOf]; omega
            | false =>
              have HP1 := hide (HSC.out.trans (by rw [HWW.out, if_neg (by decide), List.append_nil]) : (rowsTo x ++ rowTo x (y + 1)).filter (wantP al (b, a) on) = (rowsTo x ++ rowTo x y).filter (wantP al (b, a) on))
              go_wp2_with fail
              go_roundw
              case rel => exact ⟨y + 1, A, c, by omega, by omega, by go_num, by rw [HP1.out, List.filter_append, List.length_append], hide (by rw [HP1.out]; exact HO2.out), HB2⟩
              case measure => simp [intOf]; omega
        · obtain rfl : y = 24 := by omega
          go_wp2_with fail
          go_roundw
          case rel => exact ⟨x + 1, A, c, by omega, by go_num, by rw [rowsTo_succ], hide (by rw [rowsTo_succ]; exact HO.out), HBw⟩
          case measure => simp [intOf]; omega
    · obtain rfl : x = 24 := by omega
      have HAE := hide (show (rowsTo 24).filter (wantP al (b, a) on) = cutA al (b, a) on by rw [rowsTo_all, cutA_eq])
      have HA3 := hide (HRA.out.below HBw.out HRA.out.lt)
      have HR3 := hide (HRR.out.below HBw.out HRR.out.lt)
      generalize (rowsTo 24).filter (wantP al (b, a) on) = L at *
      obtain ⟨c0, c1⟩ := HA3.out.c2
      have f1 := HA3.out.free 1
      have HA5 := hide (HA3.out.set 1 (.slice A L.length c))
      simp only [List.set_cons_zero, List.set_cons_succ] at HA5
      have HR5 := hide (HR3.out.apart (p := ⟨w.heap.size, 1, none⟩) (by simp) (.slice A L.length c))
      have HWL := hide (show w.heap.size + 2 ≤ w1.heap.size by have := HRR.out.lt; omega)
      have HSI := hide (own_in (ok := fun b => ok b ∧ w1.heap.size ≤ b) HO.out rfl (fun b hb => ⟨hok b (by have := HWL.out; omega), hb⟩))
      have HKP := hide (show Kept (fun b => ok b ∧ w1.heap.size ≤ b) wr ((wr.setCell ⟨w.heap.size, 1, none⟩ (.slice A L.length c)).setRow (w.heap.size + 1) #[.slice qA ql.length qc, .slice A L.length c]) from (Kept.only (X := w.heap.size) (only_setCell (only_refl _ _) (.inl rfl) _) (fun h => by have := h.2; have := HWL.out; omega)).trans (Kept.row (fun h => by have := h.2; have := HWL.out; omega) _))
      have HBL2 := hide (show Below w.heap.size w ((wr.setCell ⟨w.heap.size, 1, none⟩ (.slice A L.length c)).setRow (w.heap.size + 1) #[.slice qA ql.length qc, .slice A L.length c]) from below_setRow ((HK.out.trans (HBw.out.mono HK.out.size)).setCell (p := ⟨w.heap.size, 1, none⟩) (Nat.le_refl _) _) (by omega) _)
      go_wp2_with (first | (refine wpList_load_row rfl 25 (.tmp 4) rfl w.heap.size rfl 25 _ (0, 0) _ HA5.out Try.underlying25 rfl Try.size25 ?_) | (refine wpList_store_row rfl 25 (.tmp 8) (.tmp 68) rfl (w.heap.size + 1) #[.slice qA ql.length qc, .slice A L.length c] rfl rfl 25 _ HR5.out Try.size25 rfl (one25 _ _ _ _ _ _) ?_))
      refine bodyPost_ret (v := .tuple #[.agg #[.slice qA ql.length qc, .slice A L.length c], .int .i64 0]) (results_cell_row_tmp rfl _ _ (w.heap.size + 1) 25 #[.slice qA ql.length qc, .slice A L.length c] (0, 0) _ (.int .i64 0) rfl rfl (setRow_heap _ _ _ _ _ _ HR5.out) Try.underlying25 rfl Try.size25) rfl ?_
      refine rcut_fin (a := ⟨A, L, c⟩) HBL2.out HI.out.q ((HSI.out.keep HKP.out).weak fun b _ h => h.1) (fun y hy => ?_) (congrArg (fun x => (Nt.mk (ql.map Pkt.d) x, (0 : Int))) HAE.out.symm)
      have h1 : y ∈ cutA al (b, a) on := HAE.out ▸ hy
      exact pair_rng (mem_cutA.1 h1).1

set_option maxRecDepth 10000 in
set_option maxHeartbeats 1600000 in
theorem rcut_any (n : Net) (a b : Int) (on : Bool) (w : World) (hok : ∀ b, w.heap.size ≤ b → ok b) (hi : n.In ok w) : Calls Try.prog 19 #[n.v, .int .i64 a, .int .i64 b, .bool on] w (Ans ok w (n.d.cut a b on)) := by
  cases hc : n.d.chk with
  | false =>
    obtain ⟨⟨qA, ql, qc⟩, ⟨aA, al, ac⟩⟩ := n
    have HB := hide (show Below w.heap.size w ((w.alloc (.cells #[.slice qA ql.length qc, .slice aA al.length ac] 25)).alloc (.cells #[.slice none 0 0, .slice none 0 0] 25)) from (below_new _ _).alloc (by simp) _)
    have HX0 := hide (show Blk ((w.alloc (.cells #[.slice qA ql.length qc, .slice aA al.length ac] 25)).alloc (.cells #[.slice none 0 0, .slice none 0 0] 25)) w.heap.size 25 [.slice qA ql.length qc, .slice aA al.length ac] from (Blk.new w 25 [.slice qA ql.length qc, .slice aA al.length ac]).alloc _)
    have b2 := Blk.new (w.alloc (.cells #[.slice qA ql.length qc, .slice aA al.length ac] 25)) 25 [.slice none 0 0, .slice none 0 0]
    simp only [World.size_alloc] at b2
    have HX2 := hide b2
    clear b2
    have HI := hide hi
    clear hi
    have HX := hide (show (Net.d ⟨⟨qA, ql, qc⟩, ⟨aA, al, ac⟩⟩).cut a b on = (Nt.zero, 60) by unfold Nt.cut; rw [hc]; rfl)
    have HC := hide (rcheck_no hc ((w.alloc (.cells #[.slice qA ql.length qc, .slice aA al.length ac] 25)).alloc (.cells #[.slice none 0 0, .slice none 0 0] 25)) (HI.out.below HB.out))
    clear hc
    go_enter Try.func19, Try.ntmps19
    go_wp2_with fail
    refine HC.out.mono ?_
    rintro e w1 ⟨rfl, hb⟩
    have HK := hide (below_one HB.out hb)
    have HRR := hide (HX2.out.below hb HX2.out.lt)
    have HRA := hide (HX0.out.below hb HX0.out.lt)
    clear hb
    go_wp2_with (refine wpList_store_row rfl 25 (.tmp 8) (.tmp 17) rfl (w.heap.size + 1) #[.slice none 0 0, .slice none 0 0] rfl rfl 25 _ HRR.out Try.size25 rfl (one25 _ _ _ _ _ _) ?_)
    exact bodyPost_ret (v := .tuple #[Net.zero.v, .int .i64 60]) (results_cell_row_tmp rfl _ _ (w.heap.size + 1) 25 #[.slice none 0 0, .slice none 0 0] (0, 0) _ (.int .i64 60) rfl rfl (setRow_heap _ _ _ _ _ _ HRR.out) Try.underlying25 rfl Try.size25) rfl (Ans.zero HX.out (below_setRow HK.out (by omega) _))
  | true =>
    cases ha : siteB a with
    | false =>
      obtain ⟨⟨qA, ql, qc⟩, ⟨aA, al, ac⟩⟩ := n
      have HB := hide (show Below w.heap.size w ((w.alloc (.cells #[.slice qA ql.length qc, .slice aA al.length ac] 25)).alloc (.cells #[.slice none 0 0, .slice none 0 0] 25)) from (below_new _ _).alloc (by simp) _)
      have HX0 := hide (show Blk ((w.alloc (.cells #[.slice qA ql.length qc, .slice aA al.length ac] 25)).alloc (.cells #[.slice none 0 0, .slice none 0 0] 25)) w.heap.size 25 [.slice qA ql.length qc, .slice aA al.length ac] from (Blk.new w 25 [.slice qA ql.length qc, .slice aA al.length ac]).alloc _)
      have b2 := Blk.new (w.alloc (.cells #[.slice qA ql.length qc, .slice aA al.length ac] 25)) 25 [.slice none 0 0, .slice none 0 0]
      simp only [World.size_alloc] at b2
      have HX2 := hide b2
      clear b2
      have HI := hide hi
      clear hi
      have HX := hide (show (Net.d ⟨⟨qA, ql, qc⟩, ⟨aA, al, ac⟩⟩).cut a b on = (Nt.zero, 1) by unfold Nt.cut partB; rw [hc, ha]; rfl)
      have HC := hide (rcheck_ok hc ((w.alloc (.cells #[.slice qA ql.length qc, .slice aA al.length ac] 25)).alloc (.cells #[.slice none 0 0, .slice none 0 0] 25)) (HI.out.below HB.out))
      have HSA := hide (fun W => site_is ha W)
      clear hc ha
      go_enter Try.func19, Try.ntmps19
      go_wp2_with fail
      refine HC.out.mono ?_
      rintro e w1 ⟨rfl, hb⟩
      have HK := hide (below_one HB.out hb)
      have HRR := hide (HX2.out.below hb HX2.out.lt)
      have HRA := hide (HX0.out.below hb HX0.out.lt)
      clear hb
      go_wp2_with fail
      refine (HSA.out _).mono ?_
      rintro e w2 ⟨rfl, rfl⟩
      go_wp2_with (refine wpList_store_row rfl 25 (.tmp 8) (.tmp 31) rfl (w.heap.size + 1) #[.slice none 0 0, .slice none 0 0] rfl rfl 25 _ HRR.out Try.size25 rfl (one25 _ _ _ _ _ _) ?_)
      exact bodyPost_ret (v := .tuple #[Net.zero.v, .int .i64 1]) (results_cell_row_tmp rfl _ _ (w.heap.size + 1) 25 #[.slice none 0 0, .slice none 0 0] (0, 0) _ (.int .i64 1) rfl rfl (setRow_heap _ _ _ _ _ _ HRR.out) Try.underlying25 rfl Try.size25) rfl (Ans.zero HX.out (below_setRow HK.out (by omega) _))
    | true =>
      cases hb2 : siteB b with
      | false =>
        obtain ⟨⟨qA, ql, qc⟩, ⟨aA, al, ac⟩⟩ := n
        have HB := hide (show Below w.heap.size w ((w.alloc (.cells #[.slice qA ql.length qc, .slice aA al.length ac] 25)).alloc (.cells #[.slice none 0 0, .slice none 0 0] 25)) from (below_new _ _).alloc (by simp) _)
        have HX0 := hide (show Blk ((w.alloc (.cells #[.slice qA ql.length qc, .slice aA al.length ac] 25)).alloc (.cells #[.slice none 0 0, .slice none 0 0] 25)) w.heap.size 25 [.slice qA ql.length qc, .slice aA al.length ac] from (Blk.new w 25 [.slice qA ql.length qc, .slice aA al.length ac]).alloc _)
        have b2 := Blk.new (w.alloc (.cells #[.slice qA ql.length qc, .slice aA al.length ac] 25)) 25 [.slice none 0 0, .slice none 0 0]
        simp only [World.size_alloc] at b2
        have HX2 := hide b2
        clear b2
        have HI := hide hi
        clear hi
        have HX := hide (show (Net.d ⟨⟨qA, ql, qc⟩, ⟨aA, al, ac⟩⟩).cut a b on = (Nt.zero, 1) by unfold Nt.cut partB; rw [hc, ha, hb2]; rfl)
        have HC := hide (rcheck_ok hc ((w.alloc (.cells #[.slice qA ql.length qc, .slice aA al.length ac] 25)).alloc (.cells #[.slice none 0 0, .slice none 0 0] 25)) (HI.out.below HB.out))
        have HSA := hide (fun W => site_is ha W)
        have HSB := hide (fun W => site_is hb2 W)
        clear hc ha hb2
        go_enter Try.func19, Try.ntmps19
        go_wp2_with fail
        refine HC.out.mono ?_
        rintro e w1 ⟨rfl, hb⟩
        have HK := hide (below_one HB.out hb)
        have HRR := hide (HX2.out.below hb HX2.out.lt)
        have HRA := hide (HX0.out.below hb HX0.out.lt)
        clear hb
        go_wp2_with fail
        refine (HSA.out _).mono ?_
        rintro e w2 ⟨rfl, rfl⟩
        go_wp2_with fail
        refine (HSB.out _).mono ?_
        rintro e w2 ⟨rfl, rfl⟩
        go_wp2_with (refine wpList_store_row rfl 25 (.tmp 8) (.tmp 31) rfl (w.heap.size + 1) #[.slice none 0 0, .slice none 0 0] rfl rfl 25 _ HRR.out Try.size25 rfl (one25 _ _ _ _ _ _) ?_)
        exact bodyPost_ret (v := .tuple #[Net.zero.v, .int .i64 1]) (results_cell_row_tmp rfl _ _ (w.heap.size + 1) 25 #[.slice none 0 0, .slice none 0 0] (0, 0) _ (.int .i64 1) rfl rfl (setRow_heap _ _ _ _ _ _ HRR.out) Try.underlying25 rfl Try.size25) rfl (Ans.zero HX.out (below_setRow HK.out (by omega) _))
      | true =>
        rcases Int.lt_trichotomy a b with h | h | h
        · have := rcut_lt n a b on w hok hi hc ha hb2 h
          rwa [show n.d.cut a b on = (⟨n.d.q, cutA n.d.a (a, b) on⟩, 0) by unfold Nt.cut partB pairN; rw [hc, ha, hb2, decide_eq_true (show a ≠ b by omega), Int.min_eq_left (by omega), Int.max_eq_right (by omega)]; rfl]
        · subst h
          obtain ⟨⟨qA, ql, qc⟩, ⟨aA, al, ac⟩⟩ := n
          have HB := hide (show Below w.heap.size w ((w.alloc (.cells #[.slice qA ql.length qc, .slice aA al.length ac] 25)).alloc (.cells #[.slice none 0 0, .slice none 0 0] 25)) from (below_new _ _).alloc (by simp) _)
          have HX0 := hide (show Blk ((w.alloc (.cells #[.slice qA ql.length qc, .slice aA al.length ac] 25)).alloc (.cells #[.slice none 0 0, .slice none 0 0] 25)) w.heap.size 25 [.slice qA ql.length qc, .slice aA al.length ac] from (Blk.new w 25 [.slice qA ql.length qc, .slice aA al.length ac]).alloc _)
          have b2 := Blk.new (w.alloc (.cells #[.slice qA ql.length qc, .slice aA al.length ac] 25)) 25 [.slice none 0 0, .slice none 0 0]
          simp only [World.size_alloc] at b2
          have HX2 := hide b2
          clear b2
          have HI := hide hi
          clear hi
          have HX := hide (show (Net.d ⟨⟨qA, ql, qc⟩, ⟨aA, al, ac⟩⟩).cut a a on = (Nt.zero, 1) by unfold Nt.cut partB; rw [hc, ha]; simp)
          have HC := hide (rcheck_ok hc ((w.alloc (.cells #[.slice qA ql.length qc, .slice aA al.length ac] 25)).alloc (.cells #[.slice none 0 0, .slice none 0 0] 25)) (HI.out.below HB.out))
          have HSA := hide (fun W => site_is ha W)
          have HSB := hide (fun W => site_is hb2 W)
          have heq : (a == a) = true := by simp
          clear hc ha hb2
          go_enter Try.func19, Try.ntmps19
          go_wp2_with fail
          refine HC.out.mono ?_
          rintro e w1 ⟨rfl, hb⟩
          have HK := hide (below_one HB.out hb)
          have HRR := hide (HX2.out.below hb HX2.out.lt)
          have HRA := hide (HX0.out.below hb HX0.out.lt)
          clear hb
          go_wp2_with fail
          refine (HSA.out _).mono ?_
          rintro e w2 ⟨rfl, rfl⟩
          go_wp2_with fail
          refine (HSB.out _).mono ?_
          rintro e w2 ⟨rfl, rfl⟩
          go_wp2_with (refine wpList_store_row rfl 25 (.tmp 8) (.tmp 31) rfl (w.heap.size + 1) #[.slice none 0 0, .slice none 0 0] rfl rfl 25 _ HRR.out Try.size25 rfl (one25 _ _ _ _ _ _) ?_)
          exact bodyPost_ret (v := .tuple #[Net.zero.v, .int .i64 1]) (results_cell_row_tmp rfl _ _ (w.heap.size + 1) 25 #[.slice none 0 0, .slice none 0 0] (0, 0) _ (.int .i64 1) rfl rfl (setRow_heap _ _ _ _ _ _ HRR.out) Try.underlying25 rfl Try.size25) rfl (Ans.zero HX.out (below_setRow HK.out (by omega) _))
        · have := rcut_gt n a b on w hok hi hc ha hb2 h
          rwa [show n.d.cut a b on = (⟨n.d.q, cutA n.d.a (b, a) on⟩, 0) by unfold Nt.cut partB pairN; rw [hc, ha, hb2, decide_eq_true (show a ≠ b by omega), Int.min_eq_right (by omega), Int.max_eq_left (by omega)]; rfl]
end Go.Proofs.Ythmaakiibgdigaa
