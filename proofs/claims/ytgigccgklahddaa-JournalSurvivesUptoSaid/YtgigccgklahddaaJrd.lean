/- read: a sector and its piece. -/
import Derived.Test.YtgigccgklahddaaJso
import Derived.ChangeKeysEq
import Derived.Laws.StructEq
import Derived.Laws.Cover3
namespace Go.Proofs.Ytgigccgklahddaa
open Go.RowKit
variable {n0 : Nat}

abbrev sv (l : List UInt8) : Value := .agg (bs l).toArray
theorem part_byte (l : List UInt8) (j : Nat) (h : j < l.length) (w : World) : (part 5 (bs l).toArray j).run Try.prog w = .ok (.int .u8 (l[j].toNat : Nat)) w := by
  unfold part
  have ha : (isAgg 5).run Try.prog w = .ok false w := Try.isAgg5 w
  have hx : (bs l).toArray[j]? = some (.int .u8 (l[j].toNat : Nat)) := by rw [List.getElem?_toArray, List.getElem?_eq_getElem (by rw [bs_len]; exact h), bs_get]
  simp [Sem.run_bind, ha, hx]
theorem eqItems_bytes (d : Nat) (xs ys : List UInt8) (w : World) : ∀ (m k : Nat), xs.length = k + m → ys.length = k + m →
    (Op.eqItems (d + 1) 5 1 (bs xs).toArray (bs ys).toArray (List.range' k m)).run Try.prog w = .ok (xs.drop k == ys.drop k) w
  | 0, k, hx, hy => by
    rw [List.drop_of_length_le (by omega), List.drop_of_length_le (by omega)]
    simp [Op.eqItems]
  | m + 1, k, hx, hy => by
    have ih := eqItems_bytes d xs ys w m (k + 1) (by omega) (by omega)
    rw [List.range'_succ, List.drop_eq_getElem_cons (show k < xs.length by omega), List.drop_eq_getElem_cons (show k < ys.length by omega)]
    simp only [Op.eqItems, Sem.run_bind, Nat.mul_one, part_byte xs k (by omega), part_byte ys k (by omega), Result.andThen_ok, run_equalIn_int w d 5 .u8 .u8 _ _ Try.underlying5]
    have he : (((xs[k]'(by omega)).toNat : Int) == ((ys[k]'(by omega)).toNat : Int)) = ((xs[k]'(by omega)) == (ys[k]'(by omega))) := by
      rw [Bool.eq_iff_iff]
      simp only [beq_iff_eq]
      exact ⟨fun h => UInt8.toNat_inj.1 (by omega), fun h => by rw [h]⟩
    rw [he, List.cons_beq_cons]
    cases hc : ((xs[k]'(by omega)) == (ys[k]'(by omega)))
    · simp only [Bool.not_false, if_true, Sem.run_pure, Bool.false_and]
    · simp only [Bool.not_true, Bool.false_eq_true, if_false, Bool.true_and]
      exact ih
theorem equalIn_sv (d : Nat) (xs ys : List UInt8) (w : World) (hx : xs.length = 128) (hy : ys.length = 128) : (Op.equalIn (d + 2) 96 (sv xs) (sv ys)).run Try.prog w = .ok (xs == ys) w := by
  obtain ⟨i, hi⟩ := info_of_underlying Try.underlying5
  have hc : Try.prog.cellsOf 5 = 1 := by kernel_rfl
  rw [run_equalIn_array w (d + 1) _ _ Try.underlying96 hi, hc, List.range_eq_range']
  have := eqItems_bytes d xs ys w 128 0 (by omega) (by omega)
  simpa using this
theorem neq_sv (xs ys : List UInt8) (hx : xs.length = 128) (hy : ys.length = 128) (w : World) : (binOp .neq 96 (sv xs) (sv ys)).run Try.prog w = .ok (.bool (!(xs == ys))) w := by
  rw [run_neq_struct, equalIn_sv 9998 xs ys w hx hy]
  rfl
theorem yields_neq {ops : Array Oper} {S : World → Prop} {o : Oper} {a : Act} (hw : Region.wanted o (yielded ops a.tmps) = true) (x y : Operand) (T : TypeId) (ho : o.op = .binOp .neq 96 x y T) (X Y : List UInt8) (hx : a.eval x = sv X) (hy : a.eval y = sv Y)
    (h1 : X.length = 128) (h2 : Y.length = 128) (v : Bool) (hv : v = !(X == Y)) : YieldsIf Try.prog ops S o (.bool v) a := by
  refine .inl ⟨hw, fun w _ => ?_⟩
  unfold execOp
  simp only [ho, hx, hy, Sem.run_bind, run_eqGuard_agg w .neq 96 x y _ _ Try.eqGuardType96, Result.andThen_ok, neq_sv X Y h1 h2 w, Sem.run_pure, hv]

/-- The bits of byte 10. -/
def bit1 (c : UInt8) : Bool := bits .and .u8 ((c.toNat : Nat) : Int) 1 != 0
def bit2 (c : UInt8) : Bool := bits .and .u8 ((c.toNat : Nat) : Int) 2 != 0
structure Piece where
  begins : Bool
  ends : Bool
  data : List UInt8
  gen : Nat
/-- The piece in a sector that is good for a number. -/
def readB (s : List UInt8) (k : Nat) : Option Piece :=
  let p : Piece := ⟨bit1 (s.getD 10 0), bit2 (s.getD 10 0), (s.drop 12).take (s.getD 11 0).toNat, n4 (s.getD 0 0) (s.getD 1 0) (s.getD 2 0) (s.getD 3 0)⟩
  if (s.getD 11 0).toNat ≤ 112 ∧ p.gen ≠ 0 ∧ (p.ends = true ∨ (s.getD 11 0).toNat = 112) ∧ (p.begins = true ∨ 0 < (s.getD 11 0).toNat) ∧ secB p.begins p.ends p.data k p.gen = s then some p else none
/-- What read answers. -/
def RdAns (n0 : Nat) (w : World) : Option Piece → Ending → World → Prop
  | none, e, w' => e = .returned (.tuple #[.agg #[.bool false, .bool false, .slice none 0 0], .int .u32 0, .bool false]) ∧ Below w.heap.size w w'
  | some p, e, w' => ∃ s : Sec, e = .returned (.tuple #[.agg #[.bool p.begins, .bool p.ends, s.v], .int .u32 (p.gen : Nat), .bool true]) ∧ s.l = p.data ∧ (∃ b o, s.A = some ⟨b, o, none⟩) ∧ s.In n0 w' ∧ Below w.heap.size w w'
theorem results_cell_tmp2 {P : Program} {fn : Func} {p u v : Tmp} {ty : TypeId} (h : fn.results = #[.cell p ty, .tmp u, .tmp v]) (tmps : Array Value) (w : World) (g : Nat) (t : TypeId) (cs : Array Value) (fr : Nat × Nat) (d : TypeDesc) (x y : Value)
    (hp : tmps.getD p undef = .pointer (some ⟨g, 0, none⟩)) (hx : tmps.getD u undef = x) (hy : tmps.getD v undef = y) (hg : w.heap[g]? = some (.cells cs t fr))
    (hu : P.underlying ty = some d) (hd : (match d with | .struct _ | .array _ _ => true | _ => false) = true) (hi : (P.info? ty).map (·.size) = some cs.size) :
    (results fn tmps).run P w = .ok (.tuple #[.agg cs, x, y]) w := by
  have hp' : tmps[p]?.getD undef = .pointer (some ⟨g, 0, none⟩) := by simpa using hp
  have hx' : tmps[u]?.getD undef = x := by simpa using hx
  have hy' : tmps[v]?.getD undef = y := by simpa using hy
  simp [results, h, hp', hx', hy', asAddr, run_loadVar_row w g t ty cs fr d hg hu hd hi]
theorem Cels.part {W : World} {b o : Nat} {l : List UInt8} (h : Cels n0 W (some ⟨b, o, none⟩) (bs l)) (i m : Nat) : Cels n0 W (some ⟨b, o + i, none⟩) (bs ((l.drop i).take m)) := fun hne => by
  have hne' : bs l ≠ [] := fun e => hne (by
    have : l = [] := List.eq_nil_of_length_eq_zero (by rw [← bs_len, e]; rfl)
    rw [this]; simp [bs])
  obtain ⟨b', o', e, hb, hk, hc⟩ := h hne'
  injection e with e
  injection e with e1 e2
  subst e1 e2
  refine ⟨b, o + i, rfl, hb, hk, fun j hj => ?_⟩
  rw [bs_len, List.length_take, List.length_drop] at hj
  rw [Nat.add_assoc, hc (i + j) (by rw [bs_len]; omega), bs_get, bs_get]
  simp
theorem one95 (a b : Bool) (x : Option Addr) (n c : Nat) : (#[Value.bool a, .bool b, .slice x n c]).all (·.oneCell') = true := by simp [Value.oneCell']
theorem Try.size95 : (Try.prog.info? 95).map (·.size) = some 3 := by kernel_rfl

set_option maxRecDepth 100000 in
set_option maxHeartbeats 6400000 in
theorem read_any (s : Sec) (k : Nat) (w : World) (hi : s.In n0 w) (hl : s.l.length = 128) (hk : k < 9223372036854775808) :
    Calls Try.prog 71 #[s.v, .int .i64 k] w (RdAns n0 w (readB s.l k)) := by
  obtain ⟨A, l, cap⟩ := s
  simp only at hl
  have HI := hide hi
  have HL := hide hl
  have hcap : 128 ≤ cap := by have := hi.le; simp only at this; omega
  have hcm : cap ≤ 9223372036854775807 := hi.cap
  obtain ⟨b, o, hA, hb, hc⟩ := hi.cels.at (k := 0) (by rw [bs_len, hl]; omega)
  simp only at hA
  subst hA
  have HC := hide (show ∀ i, i < 128 → w.cell? ⟨b, o + i, none⟩ = some (.int .u8 ((l.getD i 0).toNat : Nat)) from fun i h => by
    rw [hc i (by rw [bs_len, hl]; exact h), bs_get, List.getD_eq_getElem?_getD, List.getElem?_eq_getElem (by omega)]
    rfl)
  have HB := hide hb
  have HR := hide (show readB l k = _ from rfl)
  clear hi hc hb
  have HD := hide (show ∀ W, Below w.heap.size w W → ∀ i, i < 128 → W.cell? ⟨b, o + i, none⟩ = some (.int .u8 ((l.getD i 0).toNat : Nat)) from fun W hW i h => (hW.cell (p := ⟨b, o + i, none⟩) HB.out).trans (HC.out i h))
  have hv : (Sec.mk (some ⟨b, o, none⟩) l cap).v = .slice (some ⟨b, o, none⟩) 128 cap := by simp [hl]
  rw [hv]
  have HX := hide (Blk.new w 95 [.bool false, .bool false, .slice none 0 0])
  have HW0 := hide (below_new w (.cells #[.bool false, .bool false, .slice none 0 0] 95))
  have q11 := HD.out _ HW0.out 11 (by omega)
  have h256 := (l.getD 11 0).toNat_lt
  have hm11 : ((l.getD 11 0).toNat : Int) % 18446744073709551616 = ((l.getD 11 0).toNat : Int) := by omega
  by_cases h11 : 112 < (l.getD 11 0).toNat
  · have h11' : (112 : Int) < ((l.getD 11 0).toNat : Int) := by omega
    have HN := hide (show readB l k = none by
      unfold readB
      simp only
      rw [if_neg (by omega)])
    generalize (l.getD 11 0).toNat = m at *
    clear hv HC
    go_enter Try.func71, Try.ntmps71
    go_wp2_with fail
    refine bodyPost_ret (v := .tuple #[.agg #[.bool false, .bool false, .slice none 0 0], .int .u32 0, .bool false]) (results_cell_tmp2 rfl _ _ w.heap.size 95 #[.bool false, .bool false, .slice none 0 0] (0, 0) _ (.int .u32 0) (.bool false) rfl rfl rfl HX.out Try.underlying95 rfl Try.size95) rfl ?_
    rw [HN.out]
    exact ⟨rfl, HW0.out⟩
  · have h11' : ((l.getD 11 0).toNat : Int) ≤ 112 := by omega
    have HDT := hide (show (l.drop 12).take (l.getD 11 0).toNat = (l.drop 12).take (l.getD 11 0).toNat from rfl)
    obtain ⟨bg, hbg⟩ : ∃ x, x = bit1 (l.getD 10 0) := ⟨_, rfl⟩
    obtain ⟨en, hen⟩ : ∃ x, x = bit2 (l.getD 10 0) := ⟨_, rfl⟩
    have HBG := hide hbg
    have HEN := hide hen
    have e1 : (bits .and .u8 ((l.getD 10 0).toNat : Nat) 1 != 0) = bg := hbg.symm
    have e2 : (bits .and .u8 ((l.getD 10 0).toNat : Nat) 2 != 0) = en := hen.symm
    obtain ⟨g, hg⟩ : ∃ x, x = n4 (l.getD 0 0) (l.getD 1 0) (l.getD 2 0) (l.getD 3 0) := ⟨_, rfl⟩
    have HGG := hide hg
    have HGL := hide (show g < 4294967296 from hg ▸ n4_lt _ _ _ _)
    have HNI := hide (fun W (hW : Below w.heap.size w W) => numberIn_any b o 128 cap _ _ _ _ W (HD.out W hW 0 (by omega)) (HD.out W hW 1 (by omega)) (HD.out W hW 2 (by omega)) (HD.out W hW 3 (by omega)) (by omega))
    rw [← hg] at HNI
    have HRB : Hid (readB l k = if g ≠ 0 ∧ (en = true ∨ (l.getD 11 0).toNat = 112) ∧ (bg = true ∨ 0 < (l.getD 11 0).toNat) ∧ secB bg en ((l.drop 12).take (l.getD 11 0).toNat) k g = l then some ⟨bg, en, (l.drop 12).take (l.getD 11 0).toNat, g⟩ else none) := hide (by
      unfold readB
      simp only [← hbg, ← hen, ← hg]
      congr 1
      exact propext ⟨fun h => h.2, fun h => ⟨by omega, h⟩⟩)
    have HQ10 := hide (show ∀ W, Below w.heap.size w W → W.cell? ⟨b, o + 10, none⟩ = some (.int .u8 ((l.getD 10 0).toNat : Nat)) from fun W hW => HD.out W hW 10 (by omega))
    generalize (l.getD 10 0).toNat = c10 at e1 e2 HQ10
    generalize hm : (l.getD 11 0).toNat = m at *
    have HMM := hide hm
    clear hv HC hbg hen hg hm HR
    go_enter Try.func71, Try.ntmps71
    go_upto_region 4 with (fail)
    have HXD : Hid (Blk (w.alloc (.cells #[.bool false, .bool false, .slice none 0 0] 95)).drew w.heap.size 95 [.bool false, .bool false, .slice none 0 0]) := hide HX.out
    have HWD := hide (show Below w.heap.size w (w.alloc (.cells #[.bool false, .bool false, .slice none 0 0] 95)).drew from HW0.out.drew)
    refine wp_region_plan3 (fun w' => Below w.heap.size w w') (.take 0 (.take 1 (.take 2 (.take 3 (.take 4 (.take 5 (.take 6 (.take 7 (.take 8 (.take 9 (.take 10 (.run 11 (.take 12 (.run 13 .done)))))))))))))) (by kernel_rfl) (by kernel_rfl) HWD.out ?_
    generalize (w.alloc (.cells #[.bool false, .bool false, .slice none 0 0] 95)).drew = w1 at HXD HWD ⊢
    clear q11 HX HW0
    (refine plan3_take (o := ?_) (v := ?_) (by simp only [List.getElem?_toArray, List.getElem?_cons_zero]; rfl) (yields_run (by rfl) ?_) ?_; rotate_left; (focus (intro w' hw'; have q := HQ10.out w' hw'; go_simp <;> with_reducible rfl)); (simp only [Act.put, List.setIfInBounds_toArray, List.set_cons_zero, List.set_cons_succ]))
    (refine plan3_take (o := ?_) (v := ?_) (by simp only [List.getElem?_toArray, List.getElem?_cons_succ, List.getElem?_cons_zero]; rfl) (yields_run (by rfl) ?_) ?_; rotate_left; (focus (intro w' hw'; have q := HQ10.out w' hw'; go_simp <;> with_reducible rfl)); (simp only [Act.put, List.setIfInBounds_toArray, List.set_cons_zero, List.set_cons_succ]))
    (refine plan3_take (o := ?_) (v := ?_) (by simp only [List.getElem?_toArray, List.getElem?_cons_succ, List.getElem?_cons_zero]; rfl) (yields_run (by rfl) ?_) ?_; rotate_left; (focus (intro w' hw'; have q := HQ10.out w' hw'; go_simp <;> with_reducible rfl)); (simp only [Act.put, List.setIfInBounds_toArray, List.set_cons_zero, List.set_cons_succ]))
    (refine plan3_take (o := ?_) (v := ?_) (by simp only [List.getElem?_toArray, List.getElem?_cons_succ, List.getElem?_cons_zero]; rfl) (yields_run (by rfl) ?_) ?_; rotate_left; (focus (intro w' hw'; have q := HQ10.out w' hw'; go_simp <;> with_reducible rfl)); (simp only [Act.put, List.setIfInBounds_toArray, List.set_cons_zero, List.set_cons_succ]))
    (refine plan3_take (o := ?_) (v := ?_) (by simp only [List.getElem?_toArray, List.getElem?_cons_succ, List.getElem?_cons_zero]; rfl) (yields_run (by rfl) ?_) ?_; rotate_left; (focus (intro w' hw'; have q := HQ10.out w' hw'; go_simp <;> with_reducible rfl)); (simp only [Act.put, List.setIfInBounds_toArray, List.set_cons_zero, List.set_cons_succ]))
    (refine plan3_take (o := ?_) (v := ?_) (by simp only [List.getElem?_toArray, List.getElem?_cons_succ, List.getElem?_cons_zero]; rfl) (yields_run (by rfl) ?_) ?_; rotate_left; (focus (intro w' hw'; have q := HQ10.out w' hw'; go_simp <;> with_reducible rfl)); (simp only [Act.put, List.setIfInBounds_toArray, List.set_cons_zero, List.set_cons_succ]))
    (refine plan3_take (o := ?_) (v := ?_) (by simp only [List.getElem?_toArray, List.getElem?_cons_succ, List.getElem?_cons_zero]; rfl) (yields_run (by rfl) ?_) ?_; rotate_left; (focus (intro w' hw'; have q := HQ10.out w' hw'; go_simp <;> with_reducible rfl)); (simp only [Act.put, List.setIfInBounds_toArray, List.set_cons_zero, List.set_cons_succ]))
    (refine plan3_take (o := ?_) (v := ?_) (by simp only [List.getElem?_toArray, List.getElem?_cons_succ, List.getElem?_cons_zero]; rfl) (yields_run (by rfl) ?_) ?_; rotate_left; (focus (intro w' hw'; have q := HQ10.out w' hw'; go_simp <;> with_reducible rfl)); (simp only [Act.put, List.setIfInBounds_toArray, List.set_cons_zero, List.set_cons_succ]))
    (refine plan3_take (o := ?_) (v := ?_) (by simp only [List.getElem?_toArray, List.getElem?_cons_succ, List.getElem?_cons_zero]; rfl) (yields_run (by rfl) ?_) ?_; rotate_left; (focus (intro w' hw'; have q := HQ10.out w' hw'; go_simp <;> with_reducible rfl)); (simp only [Act.put, List.setIfInBounds_toArray, List.set_cons_zero, List.set_cons_succ]))
    (refine plan3_take (o := ?_) (v := ?_) (by simp only [List.getElem?_toArray, List.getElem?_cons_succ, List.getElem?_cons_zero]; rfl) (yields_run (by rfl) ?_) ?_; rotate_left; (focus (intro w' hw'; have q := HQ10.out w' hw'; go_simp <;> with_reducible rfl)); (simp only [Act.put, List.setIfInBounds_toArray, List.set_cons_zero, List.set_cons_succ]))
    (refine plan3_take (o := ?_) (v := ?_) (by simp only [List.getElem?_toArray, List.getElem?_cons_succ, List.getElem?_cons_zero]; rfl) (yields_run (by rfl) ?_) ?_; rotate_left; (focus (intro w' hw'; have q := HQ10.out w' hw'; go_simp <;> with_reducible rfl)); (simp only [Act.put, List.setIfInBounds_toArray, List.set_cons_zero, List.set_cons_succ]))
    refine plan3_run (o := ?_) (by simp only [List.getElem?_toArray, List.getElem?_cons_succ, List.getElem?_cons_zero]; rfl) ?_
    intro R HRR
    have d0 := HXD.out.cell 0
    have f0 := HXD.out.free 0
    have HX1 := hide (HXD.out.set 0 (.bool bg))
    simp only [List.set_cons_zero] at HX1
    have HW1 := hide (HWD.out.setCell (p := ⟨w.heap.size, 0, none⟩) (Nat.le_refl _) (.bool bg))
    go_wp2_with fail
    refine HRR.out _ _ HW1.out ?_
    clear HRR d0 f0 HXD HWD
    (refine plan3_take (o := ?_) (v := ?_) (by simp only [List.getElem?_toArray, List.getElem?_cons_succ, List.getElem?_cons_zero]; rfl) (yields_run (by rfl) ?_) ?_; rotate_left; (focus (intro w' hw'; have q := HQ10.out w' hw'; go_simp <;> with_reducible rfl)); (simp only [Act.put, List.setIfInBounds_toArray, List.set_cons_zero, List.set_cons_succ]))
    refine plan3_run (o := ?_) (by simp only [List.getElem?_toArray, List.getElem?_cons_succ, List.getElem?_cons_zero]; rfl) ?_
    intro R HRR
    have d1 := HX1.out.cell 1
    have f1 := HX1.out.free 1
    have HX2 := hide (HX1.out.set 1 (.bool en))
    simp only [List.set_cons_zero, List.set_cons_succ] at HX2
    have HW2 := hide (HW1.out.setCell (p := ⟨w.heap.size, 1, none⟩) (Nat.le_refl _) (.bool en))
    go_wp2_with fail
    refine HRR.out _ _ HW2.out ?_
    clear HRR d1 f1 HX1 HW1
    generalize (w1.setCell ⟨w.heap.size, 0, none⟩ (.bool bg)).setCell ⟨w.heap.size, 1, none⟩ (.bool en) = w4 at HX2 HW2 ⊢
    refine plan3_done ?_
    have g12 : (12 : Int) ≤ 12 + (m : Int) := by omega
    have g13 : (12 : Int) + (m : Int) ≤ cap := by omega
    have g14 : ¬ cap = 12 := by omega
    have g15 : (12 : Int) ≤ cap := by omega
    have d2 := HX2.out.cell 2
    have f2 := HX2.out.free 2
    have HX3 := hide (HX2.out.set 2 (.slice (some ⟨b, o + 12, none⟩) m (cap - 12)))
    simp only [List.set_cons_zero, List.set_cons_succ] at HX3
    have HW3 := hide (HW2.out.setCell (p := ⟨w.heap.size, 2, none⟩) (Nat.le_refl _) (.slice (some ⟨b, o + 12, none⟩) m (cap - 12)))
    go_wp2_with fail
    refine (HNI.out _ HW3.out).mono ?_
    rintro e w5 ⟨rfl, hb⟩
    have HX5 := hide (HX3.out.below hb HX3.out.lt)
    have HW5 := hide (below_one HW3.out hb)
    clear hb d2 f2 HX2 HX3 HW2 HW3 HNI HQ10 e1 e2 g12 g13 g14 g15 hm11
    go_upto_region 7 with (fail)
    go_cut [8] from 36 to 49 (fun v W => v = .bool (decide ((en = true ∨ m = 112) ∧ (bg = true ∨ 0 < m))) ∧ W = w5)
    case first =>
      have hmc : (m = 112) ∨ (m = 0) ∨ (¬ m = 112 ∧ 0 < m) := by omega
      have p0 := HX5.out.cell 0
      have p1 := HX5.out.cell 1
      clear HRB HMM HDT
      rcases hmc with rfl | rfl | ⟨hm1, hm2⟩
      all_goals
        cases en <;> cases bg
        all_goals
          (try have hm3 : ((m : Int) == 112) = false := by simp only [beq_eq_false_iff_ne, ne_eq]; omega)
          (try have hm4 : (0 : Int) < (m : Int) := by omega)
          go_wp2_with fail
          go_meet
          case rel => exact ⟨by simp <;> omega, rfl⟩
    case rest =>
      obtain ⟨rfl, rfl⟩ := hcut
      by_cases hg0 : g = 0
      · have HN := hide (show readB l k = none by rw [HRB.out, if_neg (fun h => h.1 hg0)])
        clear HRB
        subst hg0
        go_upto_region 8 with (fail)
        go_quiet (fail)
        have HX6 := hide (HX5.out.drewN nq)
        have HW6 := hide (below_drewN HW5.out nq)
        go_wp2_with (refine wpList_store_row rfl 95 (.tmp 4) (.tmp 66) rfl w.heap.size #[.bool false, .bool false, .slice none 0 0] rfl rfl 95 _ HX6.out Try.size95 rfl (one95 _ _ _ _ _) ?_)
        refine bodyPost_ret (v := .tuple #[.agg #[.bool false, .bool false, .slice none 0 0], .int .u32 0, .bool false]) (results_cell_tmp2 rfl _ _ w.heap.size 95 #[.bool false, .bool false, .slice none 0 0] (0, 0) _ (.int .u32 0) (.bool false) rfl rfl rfl (setRow_heap _ _ _ _ _ _ HX6.out) Try.underlying95 rfl Try.size95) rfl ?_
        rw [HN.out]
        exact ⟨rfl, below_setRow HW6.out (Nat.le_refl _) _⟩
      · have hg1 : ((g : Int) == 0) = false := by simp only [beq_eq_false_iff_ne, ne_eq]; omega
        by_cases hw : (en = true ∨ m = 112) ∧ (bg = true ∨ 0 < m)
        · rw [decide_eq_true hw]
          have hdl : ((l.drop 12).take m).length = m := by rw [List.length_take, List.length_drop, hl]; omega
          have HDL := hide hdl
          have HIN := hide (show (Sec.mk (some ⟨b, o + 12, none⟩) ((l.drop 12).take m) (cap - 12)).In n0 w from ⟨HI.out.cels.part 12 m, by simp only [hdl]; omega, by simp only; omega, fun e => by cases e⟩)
          have HJS := hide (show ∀ W, Below w.heap.size w W → Calls Try.prog 65 #[.agg #[.bool bg, .bool en, .slice (some ⟨b, o + 12, none⟩) m (cap - 12)], .int .i64 k, .int .u32 g] W fun e w' => e = .returned (.agg (bs (secB bg en ((l.drop 12).take m) k g)).toArray) ∧ Below W.heap.size W w' from fun W hW => by
            have := jsector_any bg en ⟨some ⟨b, o + 12, none⟩, (l.drop 12).take m, cap - 12⟩ k g W (HIN.out.below hW) (by simp only [hdl]; omega) hk HGL.out
            simp only [Sec.v, hdl] at this
            exact this)
          have hat : ∀ w, (Instr.arrayAt 96 (.slice (some ⟨b, o, none⟩) 128 cap)).run Try.prog w = .ok (.pointer (some ⟨b, o, none⟩)) w := fun w => run_arrayAt w 96 _ 128 _ 128 cap Try.underlying96 (by omega)
          have HSL := hide (secB_len (bg := bg) (en := en) (l := (l.drop 12).take m) (n := k) (g := g) (by omega))
          have HIF := hide (show secB bg en ((l.drop 12).take m) k g = l → readB l k = some ⟨bg, en, (l.drop 12).take m, g⟩ from fun h => by rw [HRB.out, if_pos ⟨hg0, hw.1, hw.2, h⟩])
          have HIFN := hide (show secB bg en ((l.drop 12).take m) k g ≠ l → readB l k = none from fun h => by rw [HRB.out, if_neg (fun q => h q.2.2.2)])
          have HRG := hide (show ∀ W, Below w.heap.size w W → W.rangeAt b o (bs l) from fun W hW j v hv => by
            obtain ⟨hj, rfl⟩ := List.getElem?_eq_some_iff.1 hv
            rw [bs_get, HD.out W hW j (by rw [bs_len, hl] at hj; exact hj), List.getD_eq_getElem?_getD, List.getElem?_eq_getElem (by rw [bs_len] at hj; exact hj)]
            rfl)
          have HSZ := hide (show (Try.prog.info? 96).map (·.size) = some (bs l).length by rw [bs_len, hl]; exact Try.size96)
          have hkk : (k : Int) < 9223372036854775808 := by omega
          clear HRB hdl hw HD
          generalize secB bg en ((l.drop 12).take m) k g = sb at HJS HSL HIF HIFN
          obtain ⟨bq, hbq⟩ : ∃ x, x = (sb == l) := ⟨_, rfl⟩
          have HBQ := hide hbq
          clear hbq
          cases bq
          all_goals
            go_upto_region 8 with (fail)
            have HXD : Hid (Blk wc.drew w.heap.size 95 [.bool bg, .bool en, .slice (some ⟨b, o + 12, none⟩) m (cap - 12)]) := hide HX5.out
            have HWD := hide (show Below w.heap.size w wc.drew from HW5.out.drew)
            refine wp_region_plan3 (fun w' => Blk w' w.heap.size 95 [.bool bg, .bool en, .slice (some ⟨b, o + 12, none⟩) m (cap - 12)] ∧ Below w.heap.size w w') (.take 0 (.take 1 (.take 2 (.take 3 (.take 4 (.take 5 (.take 6 (.take 7 (.take 8 (.take 9 (.take 11 (.take 12 (.take 13 (.run 10 (.take 14 (.take 15 .done)))))))))))))))) (by kernel_rfl) (by kernel_rfl) ⟨HXD.out, HWD.out⟩ ?_
            generalize wc.drew = wD at HXD HWD ⊢
            (refine plan3_take (o := ?_) (v := ?_) (by simp only [List.getElem?_toArray, List.getElem?_cons_zero]; rfl) (yields_run (by rfl) ?_) ?_; rotate_left; (focus (intro w' hw'; have q0 := hw'.1.cell 0; have q1 := hw'.1.cell 1; have q2 := hw'.1.cell 2; go_simp <;> with_reducible rfl)); (simp only [Act.put, List.setIfInBounds_toArray, List.set_cons_zero, List.set_cons_succ]))
            (refine plan3_take (o := ?_) (v := ?_) (by simp only [List.getElem?_toArray, List.getElem?_cons_succ, List.getElem?_cons_zero]; rfl) (yields_run (by rfl) ?_) ?_; rotate_left; (focus (intro w' hw'; have q0 := hw'.1.cell 0; have q1 := hw'.1.cell 1; have q2 := hw'.1.cell 2; go_simp <;> with_reducible rfl)); (simp only [Act.put, List.setIfInBounds_toArray, List.set_cons_zero, List.set_cons_succ]))
            (refine plan3_take (o := ?_) (v := ?_) (by simp only [List.getElem?_toArray, List.getElem?_cons_succ, List.getElem?_cons_zero]; rfl) (yields_run (by rfl) ?_) ?_; rotate_left; (focus (intro w' hw'; have q0 := hw'.1.cell 0; have q1 := hw'.1.cell 1; have q2 := hw'.1.cell 2; go_simp <;> with_reducible rfl)); (simp only [Act.put, List.setIfInBounds_toArray, List.set_cons_zero, List.set_cons_succ]))
            (refine plan3_take (o := ?_) (v := ?_) (by simp only [List.getElem?_toArray, List.getElem?_cons_succ, List.getElem?_cons_zero]; rfl) (yields_run (by rfl) ?_) ?_; rotate_left; (focus (intro w' hw'; have q0 := hw'.1.cell 0; have q1 := hw'.1.cell 1; have q2 := hw'.1.cell 2; go_simp <;> with_reducible rfl)); (simp only [Act.put, List.setIfInBounds_toArray, List.set_cons_zero, List.set_cons_succ]))
            (refine plan3_take (o := ?_) (v := ?_) (by simp only [List.getElem?_toArray, List.getElem?_cons_succ, List.getElem?_cons_zero]; rfl) (yields_run (by rfl) ?_) ?_; rotate_left; (focus (intro w' hw'; have q0 := hw'.1.cell 0; have q1 := hw'.1.cell 1; have q2 := hw'.1.cell 2; go_simp <;> with_reducible rfl)); (simp only [Act.put, List.setIfInBounds_toArray, List.set_cons_zero, List.set_cons_succ]))
            (refine plan3_take (o := ?_) (v := ?_) (by simp only [List.getElem?_toArray, List.getElem?_cons_succ, List.getElem?_cons_zero]; rfl) (yields_run (by rfl) ?_) ?_; rotate_left; (focus (intro w' hw'; have q0 := hw'.1.cell 0; have q1 := hw'.1.cell 1; have q2 := hw'.1.cell 2; go_simp <;> with_reducible rfl)); (simp only [Act.put, List.setIfInBounds_toArray, List.set_cons_zero, List.set_cons_succ]))
            (refine plan3_take (o := ?_) (v := ?_) (by simp only [List.getElem?_toArray, List.getElem?_cons_succ, List.getElem?_cons_zero]; rfl) (yields_run (by rfl) ?_) ?_; rotate_left; (focus (intro w' hw'; have q0 := hw'.1.cell 0; have q1 := hw'.1.cell 1; have q2 := hw'.1.cell 2; go_simp <;> with_reducible rfl)); (simp only [Act.put, List.setIfInBounds_toArray, List.set_cons_zero, List.set_cons_succ]))
            (refine plan3_take (o := ?_) (v := ?_) (by simp only [List.getElem?_toArray, List.getElem?_cons_succ, List.getElem?_cons_zero]; rfl) (yields_run (by rfl) ?_) ?_; rotate_left; (focus (intro w' hw'; have q0 := hw'.1.cell 0; have q1 := hw'.1.cell 1; have q2 := hw'.1.cell 2; go_simp <;> with_reducible rfl)); (simp only [Act.put, List.setIfInBounds_toArray, List.set_cons_zero, List.set_cons_succ]))
            (refine plan3_take (o := ?_) (v := ?_) (by simp only [List.getElem?_toArray, List.getElem?_cons_succ, List.getElem?_cons_zero]; rfl) (yields_run (by rfl) ?_) ?_; rotate_left; (focus (intro w' hw'; have q0 := hw'.1.cell 0; have q1 := hw'.1.cell 1; have q2 := hw'.1.cell 2; go_simp <;> with_reducible rfl)); (simp only [Act.put, List.setIfInBounds_toArray, List.set_cons_zero, List.set_cons_succ]))
            (refine plan3_take (o := ?_) (v := ?_) (by simp only [List.getElem?_toArray, List.getElem?_cons_succ, List.getElem?_cons_zero]; rfl) (yields_run (by rfl) ?_) ?_; rotate_left; (focus (intro w' hw'; have q0 := hw'.1.cell 0; have q1 := hw'.1.cell 1; have q2 := hw'.1.cell 2; go_simp <;> with_reducible rfl)); (simp only [Act.put, List.setIfInBounds_toArray, List.set_cons_zero, List.set_cons_succ]))
            (refine plan3_take (o := ?_) (v := ?_) (by simp only [List.getElem?_toArray, List.getElem?_cons_succ, List.getElem?_cons_zero]; rfl) (yields_run (by rfl) ?_) ?_; rotate_left; (focus (intro w' hw'; have q0 := hw'.1.cell 0; have q1 := hw'.1.cell 1; have q2 := hw'.1.cell 2; go_simp <;> with_reducible rfl)); (simp only [Act.put, List.setIfInBounds_toArray, List.set_cons_zero, List.set_cons_succ]))
            (refine plan3_take (o := ?_) (v := ?_) (by simp only [List.getElem?_toArray, List.getElem?_cons_succ, List.getElem?_cons_zero]; rfl) (yields_run (by rfl) ?_) ?_; rotate_left; (focus (intro w' hw'; have q0 := hw'.1.cell 0; have q1 := hw'.1.cell 1; have q2 := hw'.1.cell 2; go_simp <;> with_reducible rfl)); (simp only [Act.put, List.setIfInBounds_toArray, List.set_cons_zero, List.set_cons_succ]))
            (refine plan3_take (o := ?_) (by simp only [List.getElem?_toArray, List.getElem?_cons_succ, List.getElem?_cons_zero]; rfl) (yieldsIf_load_mid (by rfl) 96 (.tmp 62) rfl b o rfl (bs l) _ (fun W' hW => HRG.out W' hW.2) Try.underlying96 rfl HSZ.out) ?_; (simp only [Act.put, List.setIfInBounds_toArray, List.set_cons_zero, List.set_cons_succ]))
            refine plan3_run (o := ?_) (by simp only [List.getElem?_toArray, List.getElem?_cons_succ, List.getElem?_cons_zero]; rfl) ?_
            intro R HRR
            go_wp2_with fail
            (with_reducible refine (HJS.out _ HWD.out).mono ?_)
            rintro e w8 ⟨rfl, hb⟩
            have HX8 := hide (HXD.out.below hb HXD.out.lt)
            have HW8 := hide (below_one HWD.out hb)
            clear hb
            go_wp2_with fail
            refine HRR.out _ _ ⟨HX8.out, HW8.out⟩ ?_
            clear HRR
            (refine plan3_take (o := ?_) (by simp only [List.getElem?_toArray, List.getElem?_cons_succ, List.getElem?_cons_zero]; rfl) (yields_neq (by rfl) (.tmp 60) (.tmp 63) _ rfl sb l rfl rfl HSL.out HL.out _ (congrArg not HBQ.out)) ?_; (simp only [Act.put, List.setIfInBounds_toArray, List.set_cons_zero, List.set_cons_succ]))
            (refine plan3_take (o := ?_) (v := ?_) (by simp only [List.getElem?_toArray, List.getElem?_cons_succ, List.getElem?_cons_zero]; rfl) (yields_run (by rfl) ?_) ?_; rotate_left; (focus (intro w' _; go_simp <;> with_reducible rfl)); (simp only [Act.put, List.setIfInBounds_toArray, List.set_cons_zero, List.set_cons_succ]))
            refine plan3_done ?_
          all_goals clear hat hl hcap hcm hg1 hkk HRG HSZ
          · have HN := hide (HIFN.out (fun h => by have := HBQ.out; rw [h] at this; simp at this))
            go_wp2_with (refine wpList_store_row rfl 95 (.tmp 4) (.tmp 66) rfl w.heap.size #[.bool false, .bool false, .slice none 0 0] rfl rfl 95 _ HX8.out Try.size95 rfl (one95 _ _ _ _ _) ?_)
            refine bodyPost_ret (v := .tuple #[.agg #[.bool false, .bool false, .slice none 0 0], .int .u32 0, .bool false]) (results_cell_tmp2 rfl _ _ w.heap.size 95 #[.bool false, .bool false, .slice none 0 0] (0, 0) _ (.int .u32 0) (.bool false) rfl rfl rfl (setRow_heap _ _ _ _ _ _ HX8.out) Try.underlying95 rfl Try.size95) rfl ?_
            rw [HN.out]
            exact ⟨rfl, below_setRow HW8.out (Nat.le_refl _) _⟩
          · have HN := hide (HIF.out (by have := HBQ.out; simpa using this.symm))
            go_wp2_with (first | (refine wpList_load_row rfl 95 (.tmp 4) rfl w.heap.size rfl 95 _ (0, 0) _ HX8.out Try.underlying95 rfl Try.size95 ?_) | (refine wpList_store_row rfl 95 (.tmp 4) (.tmp 67) rfl w.heap.size ([.bool bg, .bool en, .slice (some ⟨b, o + 12, none⟩) m (cap - 12)]).toArray rfl rfl 95 _ HX8.out Try.size95 rfl (one95 _ _ _ _ _) ?_))
            refine bodyPost_ret (v := .tuple #[.agg #[.bool bg, .bool en, .slice (some ⟨b, o + 12, none⟩) m (cap - 12)], .int .u32 g, .bool true]) (results_cell_tmp2 rfl _ _ w.heap.size 95 #[.bool bg, .bool en, .slice (some ⟨b, o + 12, none⟩) m (cap - 12)] (0, 0) _ (.int .u32 g) (.bool true) rfl rfl rfl (setRow_heap _ _ _ _ _ _ HX8.out) Try.underlying95 rfl Try.size95) rfl ?_
            rw [HN.out]
            have hbel := below_setRow HW8.out (Nat.le_refl _) #[.bool bg, .bool en, .slice (some ⟨b, o + 12, none⟩) m (cap - 12)]
            exact ⟨⟨some ⟨b, o + 12, none⟩, (l.drop 12).take m, cap - 12⟩, by simp only [Sec.v, HDL.out], rfl, ⟨_, _, rfl⟩, HIN.out.below hbel, hbel⟩
        · rw [decide_eq_false hw]
          have HN := hide (show readB l k = none by rw [HRB.out, if_neg (fun h => hw ⟨h.2.1, h.2.2.1⟩)])
          clear HRB hw
          go_upto_region 8 with (fail)
          go_quiet (fail)
          have HX6 := hide (HX5.out.drewN nq)
          have HW6 := hide (below_drewN HW5.out nq)
          go_wp2_with (refine wpList_store_row rfl 95 (.tmp 4) (.tmp 66) rfl w.heap.size #[.bool false, .bool false, .slice none 0 0] rfl rfl 95 _ HX6.out Try.size95 rfl (one95 _ _ _ _ _) ?_)
          refine bodyPost_ret (v := .tuple #[.agg #[.bool false, .bool false, .slice none 0 0], .int .u32 0, .bool false]) (results_cell_tmp2 rfl _ _ w.heap.size 95 #[.bool false, .bool false, .slice none 0 0] (0, 0) _ (.int .u32 0) (.bool false) rfl rfl rfl (setRow_heap _ _ _ _ _ _ HX6.out) Try.underlying95 rfl Try.size95) rfl ?_
          rw [HN.out]
          exact ⟨rfl, below_setRow HW6.out (Nat.le_refl _) _⟩
end Go.Proofs.Ytgigccgklahddaa
