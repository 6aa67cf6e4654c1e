/- sectorOf of the journal. -/
import Derived.Test.YtgigccgklahddaaNum
import Derived.Test.YtgigccgklahddaaStp
import Derived.Deep.CutRange
import Derived.Deep.CutBlock
import Derived.Deep.Cut
import Derived.Test.YtgigccgklahddaaPlanT
import Derived.Laws.CopyOwn
namespace Go.Proofs.Ytgigccgklahddaa
open Go.RowKit
variable {n0 : Nat}

def kindB (bg en : Bool) : Nat := (if bg then 1 else 0) + (if en then 2 else 0)
/-- What the checksum is made of. -/
def bodyB (bg en : Bool) (l : List UInt8) (n : Nat) : List UInt8 := [UInt8.ofNat (n / 256), UInt8.ofNat n, UInt8.ofNat (kindB bg en), UInt8.ofNat l.length] ++ (l ++ List.replicate (112 - l.length) 0)
/-- A sector of the journal. -/
def secB (bg en : Bool) (l : List UInt8) (n g : Nat) : List UInt8 := b4 g ++ (b4 (crc (bodyB bg en l n)).toNat ++ (bodyB bg en l n ++ b4 g))
theorem bodyB_len {bg en : Bool} {l : List UInt8} {n : Nat} (h : l.length ≤ 112) : (bodyB bg en l n).length = 116 := by simp [bodyB]; omega
theorem secB_len {bg en : Bool} {l : List UInt8} {n g : Nat} (h : l.length ≤ 112) : (secB bg en l n g).length = 128 := by simp only [secB, List.length_append, bodyB_len h, b4_len]
theorem Try.size96 : (Try.prog.info? 96).map (·.size) = some 128 := by kernel_rfl

theorem Try.zero96 : Try.zeroCells96 = (bs (List.replicate 128 0)).toArray := by kernel_rfl
/-- The blocks of the call: the piece and the sector. -/
structure JS (w : World) (p L : List Value) (W : World) : Prop where
  b0 : Blk W w.heap.size 95 p
  b1 : Blk W (w.heap.size + 1) 96 L
  bel : Below w.heap.size w W
section
variable {w : World} {p L : List Value} {W W' : World}
theorem JS.below (h : JS w p L W) (hb : Below W.heap.size W W') : JS w p L W' := ⟨h.b0.below hb h.b0.lt, h.b1.below hb h.b1.lt, below_one h.bel hb⟩
theorem JS.row (h : JS w p L W) (L' : List Value) : JS w p L' (W.setRow (w.heap.size + 1) L'.toArray) := ⟨h.b0.far (by omega) _, h.b1.row _, below_setRow h.bel (by omega) _⟩
theorem JS.far (h : JS w p L W) {X : Nat} (hX : w.heap.size + 1 < X) (cs : Array Value) : JS w p L (W.setRow X cs) := ⟨h.b0.far (by omega) _, h.b1.far (by omega) _, below_setRow h.bel (by omega) _⟩
theorem JS.set (h : JS w p L W) (i : Nat) (v : Value) : JS w p (L.set i v) (W.setCell ⟨w.heap.size + 1, i, none⟩ v) := ⟨h.b0.apart (by simp) _, h.b1.set i v, h.bel.setCell (by simp) _⟩
end
abbrev iv (n : Int) : Value := .int .u8 n
/-- The cells of a sector under way: the first twelve, what comes behind them, and the last four. -/
abbrev Cl (h X t : List Value) : List Value := h ++ (X ++ t)
theorem cl_zero : bs (List.replicate 128 0) = Cl [iv 0, iv 0, iv 0, iv 0, iv 0, iv 0, iv 0, iv 0, iv 0, iv 0, iv 0, iv 0] (bs (List.replicate 112 0)) [iv 0, iv 0, iv 0, iv 0] := by rfl
theorem cl_last {h X t s : List Value} (h1 : h.length = 12) (h2 : X.length = 112) (h3 : t.length = 4) (h4 : s.length = 4) : splice (Cl h X t) 124 s = Cl h X s := by
  have e : h ++ (X ++ t) = (h ++ X) ++ t := (List.append_assoc _ _ _).symm
  unfold splice Cl
  rw [e, List.take_left' (by rw [List.length_append]; omega), List.drop_of_length_le (by simp only [List.length_append]; omega), List.append_nil, List.append_assoc]
theorem cl_data {h X t d : List Value} (h1 : h.length = 12) (h2 : X.length = 112) (h4 : d.length ≤ 112) : splice (Cl h X t) 12 d = Cl h (d ++ X.drop d.length) t := by
  unfold splice Cl
  rw [List.take_left' h1, ← h1, List.drop_append, show h.length + d.length - h.length = d.length by omega, List.drop_of_length_le (by omega), List.nil_append, List.drop_append_of_le_length (by omega), List.append_assoc]
theorem cl_is {bg en : Bool} {l : List UInt8} {n g : Nat} {a0 a1 a2 a3 : UInt8} {k : Int} (hb : b4 g = [a0, a1, a2, a3]) (hl : l.length ≤ 112) (hk : k = ((kindB bg en : Nat) : Int)) :
    Cl [iv (a0.toNat : Nat), iv (a1.toNat : Nat), iv (a2.toNat : Nat), iv (a3.toNat : Nat), iv 0, iv 0, iv 0, iv 0, iv ((n : Int) / 256 % 256), iv ((n : Int) % 256), iv k, iv l.length] (bs l ++ (bs (List.replicate 112 0)).drop (bs l).length) (bs (b4 g)) = bs (b4 g ++ ([0, 0, 0, 0] ++ (bodyB bg en l n ++ b4 g))) := by
  have e1 : iv ((n : Int) / 256 % 256) = .int .u8 ((UInt8.ofNat (n / 256)).toNat : Nat) := val_num (by rw [u8_nat]; omega)
  have e2 : iv ((n : Int) % 256) = .int .u8 ((UInt8.ofNat n).toNat : Nat) := val_num (by rw [u8_nat]; omega)
  have e3 : iv k = .int .u8 ((UInt8.ofNat (kindB bg en)).toNat : Nat) := val_num (by rw [u8_nat, hk]; cases bg <;> cases en <;> rfl)
  have e4 : iv l.length = .int .u8 ((UInt8.ofNat l.length).toNat : Nat) := val_num (by rw [u8_nat]; omega)
  have e5 : bs l ++ (bs (List.replicate 112 0)).drop (bs l).length = bs (l ++ List.replicate (112 - l.length) 0) := by rw [bs_app, bs_len, bs_zero, bs_zero, List.drop_replicate]
  have e6 : bs (b4 g) = [iv (a0.toNat : Nat), iv (a1.toNat : Nat), iv (a2.toNat : Nat), iv (a3.toNat : Nat)] := by rw [hb]; rfl
  rw [e1, e2, e3, e4, e5]
  unfold bodyB
  generalize l ++ List.replicate (112 - l.length) 0 = X
  rw [bs_app, bs_app, bs_app, bs_app, e6, List.append_assoc]
  rfl
theorem cl_body {g n : Nat} {bg en : Bool} {l : List UInt8} {i : Nat} (h : i < (bodyB bg en l n).length) : (bs (b4 g ++ ([0, 0, 0, 0] ++ (bodyB bg en l n ++ b4 g))))[8 + i]? = some (.int .u8 ((bodyB bg en l n)[i].toNat : Nat)) := by
  have e : (bs (b4 g ++ ([0, 0, 0, 0] ++ (bodyB bg en l n ++ b4 g))))[8 + i]? = (bs (bodyB bg en l n ++ b4 g))[i]? := by
    rw [bs_app, List.getElem?_append_right (by rw [bs_len, b4_len]; omega), bs_app, List.getElem?_append_right (by rw [bs_len, bs_len, b4_len]; simp; omega)]
    congr 1
    rw [bs_len, bs_len, b4_len]
    simp
    omega
  rw [e, bs_app, List.getElem?_append_left (by rw [bs_len]; exact h), List.getElem?_eq_getElem (by rw [bs_len]; exact h), bs_get]
theorem cl_sum (g m : Nat) (R : List UInt8) : splice (bs (b4 g ++ ([0, 0, 0, 0] ++ R))) 4 (bs (b4 m)) = bs (b4 g ++ (b4 m ++ R)) := by rfl
theorem b4_vals (n : Nat) : ∃ a b c d : UInt8, b4 n = [a, b, c, d] := ⟨_, _, _, _, rfl⟩
theorem one_bs (l : List UInt8) : (bs l).toArray.all (·.oneCell') = true := by
  rw [Array.all_eq_true_iff_forall_mem]
  intro x hx
  exact bs_one l x (by simpa using hx)
section
variable {P : Program} {w : World} {ops : Array Oper} {rest : List Oper} {o : Oper} {a : Act} {Q : Exit → Act → World → Prop}
/-- A copy of a block's cells into a row. -/
theorem wpList_copyS (hgd : o.guard = none) (d s : Operand) (dT sT : TypeId) (ho : o.op = .call { callee := .builtin .copy, args := #[d, s], argTypes := #[dT, sT] }) (elem : TypeId) (hu : P.underlying dT = some (.slice elem)) (hsz : (P.info? elem).map (·.size) = some 1)
    (g off dLen dCap b so sLen sCap : Nat) (hd : a.eval d = .slice (some ⟨g, off, none⟩) dLen dCap) (hs : a.eval s = .slice (some ⟨b, so, none⟩) sLen sCap) (L : List Value) (t : TypeId) (hg : Blk w g t L) (cs : List Value) (hn : cs.length = Nat.min sLen dLen)
    (hsrc : ∀ j v, cs[j]? = some v → w.cell? ⟨b, so + j, none⟩ = some v) (hfit : off + cs.length ≤ L.length) (h1 : ∀ v ∈ cs, v.oneCell' = true)
    (h : wpList P ops Q rest (a.put o.dst (goInt cs.length)) (w.setRow g (splice L off cs).toArray)) : wpList P ops Q (o :: rest) a w :=
  wpList_copy_own hgd d s dT sT ho elem hu hsz g off dLen dCap ⟨b, so, none⟩ sLen sCap hd hs L.toArray t hg cs hn (fun j v hv => by rw [Addr.add_mid]; exact hsrc j v hv) (by simpa using hfit) h1 h
end

set_option maxRecDepth 100000 in
set_option maxHeartbeats 6400000 in
theorem jsector_any (bg en : Bool) (s : Sec) (n g : Nat) (w : World) (hi : s.In n0 w) (hl : s.l.length ≤ 112) (hn : n < 9223372036854775808) (hg : g < 4294967296) :
    Calls Try.prog 65 #[.agg #[.bool bg, .bool en, s.v], .int .i64 n, .int .u32 g] w fun e w' => e = .returned (.agg (bs (secB bg en s.l n g)).toArray) ∧ Below w.heap.size w w' := by
  have HI := hide hi
  have HG := hide hg
  have HL := hide hl
  have HS0 : Hid (JS w [.bool bg, .bool en, s.v] (bs (List.replicate 128 0)) ((w.alloc (.cells #[.bool bg, .bool en, s.v] 95)).alloc (.cells Try.zeroCells96 96))) := hide (by
    have h1 := Blk.new (w.alloc (.cells #[.bool bg, .bool en, s.v] 95)) 96 (bs (List.replicate 128 0))
    rw [World.size_alloc, ← Try.zero96] at h1
    exact ⟨(Blk.new w 95 [.bool bg, .bool en, s.v]).alloc _, h1, (below_new _ _).alloc (by simp) _⟩)
  clear hi hg
  go_enter Try.func65, Try.ntmps65
  go_wp2_with fail
  refine (bytesOf_any g _ HG.out).mono ?_
  rintro e w2 ⟨rfl, hb⟩
  have HZ := hide (Blk.new w2 104 [iv 0, iv 0, iv 0, iv 0])
  have hlt2 : w.heap.size + 1 < w2.heap.size := (HS0.out.below hb).b1.lt
  have HS1 := hide (((HS0.out.below hb).below (below_new w2 (.cells #[iv 0, iv 0, iv 0, iv 0] 104))).far hlt2 (bs (b4 g)).toArray)
  have HB1 := hide (HZ.out.row (bs (b4 g)))
  rw [cl_zero] at HS1
  clear hb HS0
  go_upto_region 2 with (refine wpList_store_row rfl 104 (.tmp 7) (.tmp 10) rfl w2.heap.size (bs (b4 g)).toArray rfl rfl 104 _ HZ.out Try.size104 rfl (one_bs _) ?_)
  generalize w2.heap.size = x2 at *
  generalize (w2.alloc (.cells #[iv 0, iv 0, iv 0, iv 0] 104)).setRow x2 (bs (b4 g)).toArray = w3 at *
  have HS2 := hide (HS1.out.below (Below.refl _ _).drew)
  have HB2 : Hid (Blk w3.drew x2 104 (bs (b4 g))) := hide HB1.out
  clear HZ HS1 HB1
  obtain ⟨a0, a1, a2, a3, hb4⟩ := b4_vals g
  have HBV := hide (show bs (b4 g) = [iv (a0.toNat : Nat), iv (a1.toNat : Nat), iv (a2.toNat : Nat), iv (a3.toNat : Nat)] by rw [hb4]; rfl)
  have HB4 := hide hb4
  clear hb4
  refine wp_region_plan3 (fun _ => True) (.take 0 (.take 1 (.run 2 .done))) (by kernel_rfl) (by kernel_rfl) trivial ?_
  (refine plan3_take (o := ?_) (v := ?_) (by simp only [List.getElem?_toArray, List.getElem?_cons_zero]; rfl) (yields_run (by rfl) ?_) ?_; rotate_left; (focus (intro w' _; go_simp <;> with_reducible rfl)); (simp only [Act.put, List.setIfInBounds_toArray, List.set_cons_zero, List.set_cons_succ]))
  (refine plan3_take (o := ?_) (v := ?_) (by simp only [List.getElem?_toArray, List.getElem?_cons_succ, List.getElem?_cons_zero]; rfl) (yields_run (by rfl) ?_) ?_; rotate_left; (focus (intro w' _; go_simp <;> with_reducible rfl)); (simp only [Act.put, List.setIfInBounds_toArray, List.set_cons_zero, List.set_cons_succ]))
  refine plan3_run (o := ?_) (by simp only [List.getElem?_toArray, List.getElem?_cons_succ, List.getElem?_cons_zero]; rfl) ?_
  intro R HR
  refine wpList_copyS rfl (.tmp 11) (.tmp 12) 35 35 rfl 5 Try.underlying35 Try.size5 (w.heap.size + 1) 0 128 128 x2 0 4 4 rfl rfl (Cl [iv 0, iv 0, iv 0, iv 0, iv 0, iv 0, iv 0, iv 0, iv 0, iv 0, iv 0, iv 0] (bs (List.replicate 112 0)) [iv 0, iv 0, iv 0, iv 0]) 96 HS2.out.b1 (bs (b4 g)) (by rw [bs_len, b4_len]; rfl) (fun j v hv => by rw [Nat.zero_add, HB2.out.cell, hv]) (by rw [bs_len, b4_len, show List.length (Cl [iv 0, iv 0, iv 0, iv 0, iv 0, iv 0, iv 0, iv 0, iv 0, iv 0, iv 0, iv 0] (bs (List.replicate 112 0)) [iv 0, iv 0, iv 0, iv 0]) = 128 from rfl]; omega) (bs_one _) ?_
  have HS3 := hide (HS2.out.row (splice (Cl [iv 0, iv 0, iv 0, iv 0, iv 0, iv 0, iv 0, iv 0, iv 0, iv 0, iv 0, iv 0] (bs (List.replicate 112 0)) [iv 0, iv 0, iv 0, iv 0]) 0 (bs (b4 g))))
  have HBX3 := hide (HB2.out.far (Y := w.heap.size + 1) (by omega) (splice (Cl [iv 0, iv 0, iv 0, iv 0, iv 0, iv 0, iv 0, iv 0, iv 0, iv 0, iv 0, iv 0] (bs (List.replicate 112 0)) [iv 0, iv 0, iv 0, iv 0]) 0 (bs (b4 g))).toArray)
  generalize w3.drew.setRow (w.heap.size + 1) (splice (Cl [iv 0, iv 0, iv 0, iv 0, iv 0, iv 0, iv 0, iv 0, iv 0, iv 0, iv 0, iv 0] (bs (List.replicate 112 0)) [iv 0, iv 0, iv 0, iv 0]) 0 (bs (b4 g))).toArray = x3 at HS3 HBX3 ⊢
  refine HR.out _ _ trivial ?_
  clear HR
  rw [HBV.out] at HS3
  have HS4 : Hid (JS w [.bool bg, .bool en, s.v] (Cl [iv (a0.toNat : Nat), iv (a1.toNat : Nat), iv (a2.toNat : Nat), iv (a3.toNat : Nat), iv 0, iv 0, iv 0, iv 0, iv 0, iv 0, iv 0, iv 0] (bs (List.replicate 112 0)) [iv 0, iv 0, iv 0, iv 0]) x3) := hide HS3.out
  clear HS3 HS2 HB2
  refine plan3_done ?_
  go_upto_region 3 with (fail)
  have HS5 := hide (HS4.out.below (Below.refl _ _).drew)
  have HB5 : Hid (Blk x3.drew x2 104 (bs (b4 g))) := hide HBX3.out
  clear HS4 HBX3
  refine wp_region_plan3 (fun _ => True) (.take 0 (.take 1 (.run 2 .done))) (by kernel_rfl) (by kernel_rfl) trivial ?_
  (refine plan3_take (o := ?_) (v := ?_) (by simp only [List.getElem?_toArray, List.getElem?_cons_zero]; rfl) (yields_run (by rfl) ?_) ?_; rotate_left; (focus (intro w' _; go_simp <;> with_reducible rfl)); (simp only [Act.put, List.setIfInBounds_toArray, List.set_cons_zero, List.set_cons_succ]))
  (refine plan3_take (o := ?_) (v := ?_) (by simp only [List.getElem?_toArray, List.getElem?_cons_succ, List.getElem?_cons_zero]; rfl) (yields_run (by rfl) ?_) ?_; rotate_left; (focus (intro w' _; go_simp <;> with_reducible rfl)); (simp only [Act.put, List.setIfInBounds_toArray, List.set_cons_zero, List.set_cons_succ]))
  refine plan3_run (o := ?_) (by simp only [List.getElem?_toArray, List.getElem?_cons_succ, List.getElem?_cons_zero]; rfl) ?_
  intro R HR
  refine wpList_copyS rfl (.tmp 14) (.tmp 15) 35 35 rfl 5 Try.underlying35 Try.size5 (w.heap.size + 1) 124 4 4 x2 0 4 4 rfl rfl (Cl [iv (a0.toNat : Nat), iv (a1.toNat : Nat), iv (a2.toNat : Nat), iv (a3.toNat : Nat), iv 0, iv 0, iv 0, iv 0, iv 0, iv 0, iv 0, iv 0] (bs (List.replicate 112 0)) [iv 0, iv 0, iv 0, iv 0]) 96 HS5.out.b1 (bs (b4 g)) (by rw [bs_len, b4_len]; rfl) (fun j v hv => by rw [Nat.zero_add, HB5.out.cell, hv]) (by rw [bs_len, b4_len, show List.length (Cl [iv (a0.toNat : Nat), iv (a1.toNat : Nat), iv (a2.toNat : Nat), iv (a3.toNat : Nat), iv 0, iv 0, iv 0, iv 0, iv 0, iv 0, iv 0, iv 0] (bs (List.replicate 112 0)) [iv 0, iv 0, iv 0, iv 0]) = 128 from rfl]; omega) (bs_one _) ?_
  have HS6 := hide (HS5.out.row (splice (Cl [iv (a0.toNat : Nat), iv (a1.toNat : Nat), iv (a2.toNat : Nat), iv (a3.toNat : Nat), iv 0, iv 0, iv 0, iv 0, iv 0, iv 0, iv 0, iv 0] (bs (List.replicate 112 0)) [iv 0, iv 0, iv 0, iv 0]) 124 (bs (b4 g))))
  have HBX6 := hide (HB5.out.far (Y := w.heap.size + 1) (by omega) (splice (Cl [iv (a0.toNat : Nat), iv (a1.toNat : Nat), iv (a2.toNat : Nat), iv (a3.toNat : Nat), iv 0, iv 0, iv 0, iv 0, iv 0, iv 0, iv 0, iv 0] (bs (List.replicate 112 0)) [iv 0, iv 0, iv 0, iv 0]) 124 (bs (b4 g))).toArray)
  generalize x3.drew.setRow (w.heap.size + 1) (splice (Cl [iv (a0.toNat : Nat), iv (a1.toNat : Nat), iv (a2.toNat : Nat), iv (a3.toNat : Nat), iv 0, iv 0, iv 0, iv 0, iv 0, iv 0, iv 0, iv 0] (bs (List.replicate 112 0)) [iv 0, iv 0, iv 0, iv 0]) 124 (bs (b4 g))).toArray = x6 at HS6 HBX6 ⊢
  refine HR.out _ _ trivial ?_
  clear HR
  rw [cl_last rfl (by rw [bs_len, List.length_replicate]) rfl (by rw [bs_len, b4_len])] at HS6
  clear HS5 HB5 HBX6
  refine plan3_done ?_
  have d8 : x6.cell? ⟨w.heap.size + 1, 8, none⟩ = some (iv 0) := HS6.out.b1.cell 8
  have f8 := HS6.out.b1.free 8
  have HS7 : Hid (JS w [.bool bg, .bool en, s.v] (Cl [iv (a0.toNat : Nat), iv (a1.toNat : Nat), iv (a2.toNat : Nat), iv (a3.toNat : Nat), iv 0, iv 0, iv 0, iv 0, iv ((n : Int) / 256 % 256), iv 0, iv 0, iv 0] (bs (List.replicate 112 0)) (bs (b4 g))) _) := hide (HS6.out.set 8 (iv ((n : Int) / 256 % 256)))
  have d9 : (x6.setCell ⟨w.heap.size + 1, 8, none⟩ (iv ((n : Int) / 256 % 256))).cell? ⟨w.heap.size + 1, 9, none⟩ = some (iv 0) := HS7.out.b1.cell 9
  have f9 := HS7.out.b1.free 9
  have HS8 : Hid (JS w [.bool bg, .bool en, s.v] (Cl [iv (a0.toNat : Nat), iv (a1.toNat : Nat), iv (a2.toNat : Nat), iv (a3.toNat : Nat), iv 0, iv 0, iv 0, iv 0, iv ((n : Int) / 256 % 256), iv ((n : Int) % 256), iv 0, iv 0] (bs (List.replicate 112 0)) (bs (b4 g))) _) := hide (HS7.out.set 9 (iv ((n : Int) % 256)))
  have hn256 : (n : Int) / 256 < 9223372036854775808 := by omega
  go_upto_region 5 with (fail)
  clear d8 f8 d9 f9 HS6 HS7
  generalize (x6.setCell ⟨w.heap.size + 1, 8, none⟩ (iv ((n : Int) / 256 % 256))).setCell ⟨w.heap.size + 1, 9, none⟩ (iv ((n : Int) % 256)) = x8 at *
  have o1 : bits .or .u8 0 1 = 1 := by decide
  have o2 : bits .or .u8 0 2 = 2 := by decide
  have o3 : bits .or .u8 1 2 = 3 := by decide
  have hlm : (s.l.length : Int) % 256 = s.l.length := by omega
  cases bg <;> cases en
  · have p21 : (x8).cell? ⟨w.heap.size, 0, none⟩ = some (.bool false) := HS8.out.b0.cell 0
    have p22 : (x8).cell? ⟨w.heap.size, 1, none⟩ = some (.bool false) := HS8.out.b0.cell 1
    have p23 : (x8).cell? ⟨w.heap.size, 2, none⟩ = some (s.v) := HS8.out.b0.cell 2
    have d24 : (x8).cell? ⟨w.heap.size + 1, 11, none⟩ = some (iv 0) := HS8.out.b1.cell 11
    have f24 := HS8.out.b1.free 11
    have HS24 : Hid (JS w [.bool false, .bool false, s.v] (Cl [iv (a0.toNat : Nat), iv (a1.toNat : Nat), iv (a2.toNat : Nat), iv (a3.toNat : Nat), iv 0, iv 0, iv 0, iv 0, iv ((n : Int) / 256 % 256), iv ((n : Int) % 256), iv 0, iv s.l.length] (bs (List.replicate 112 0)) (bs (b4 g))) ((x8).setCell ⟨w.heap.size + 1, 11, none⟩ (iv s.l.length))) := hide (HS8.out.set 11 (iv s.l.length))
    go_upto_region 10 with (fail)
    have HT := HS24
    generalize (x8).setCell ⟨w.heap.size + 1, 11, none⟩ (iv s.l.length) = xT at HT ⊢
    have HTD := hide (HT.out.below (Below.refl _ _).drew)
    have HPOS := hide (show 0 < (bs s.l).length → ∃ ad, s.A = some ad ∧ ∀ j v, (bs s.l)[j]? = some v → xT.drew.cell? (ad.add j) = some v from fun h => by
      obtain ⟨b, o, e, hlt, hc⟩ := HI.out.cels.at h
      refine ⟨_, e, fun j v hv => ?_⟩
      obtain ⟨hj, rfl⟩ := List.getElem?_eq_some_iff.1 hv
      rw [Addr.add_mid]
      exact (HTD.out.bel.cell (p := ⟨b, o + j, none⟩) hlt).trans (hc j hj))
    refine wp_region_plan3 (fun w' => Blk w' w.heap.size 95 [.bool false, .bool false, s.v]) (.take 0 (.take 1 (.take 2 (.run 3 .done)))) (by kernel_rfl) (by kernel_rfl) HTD.out.b0 ?_
    (refine plan3_take (o := ?_) (v := ?_) (by simp only [List.getElem?_toArray, List.getElem?_cons_zero]; rfl) (yields_run (by rfl) ?_) ?_; rotate_left; (focus (intro w' hw'; have q := hw'.cell 2; go_simp <;> with_reducible rfl)); (simp only [Act.put, List.setIfInBounds_toArray, List.set_cons_zero, List.set_cons_succ]))
    (refine plan3_take (o := ?_) (v := ?_) (by simp only [List.getElem?_toArray, List.getElem?_cons_succ, List.getElem?_cons_zero]; rfl) (yields_run (by rfl) ?_) ?_; rotate_left; (focus (intro w' hw'; have q := hw'.cell 2; go_simp <;> with_reducible rfl)); (simp only [Act.put, List.setIfInBounds_toArray, List.set_cons_zero, List.set_cons_succ]))
    (refine plan3_take (o := ?_) (v := ?_) (by simp only [List.getElem?_toArray, List.getElem?_cons_succ, List.getElem?_cons_zero]; rfl) (yields_run (by rfl) ?_) ?_; rotate_left; (focus (intro w' hw'; have q := hw'.cell 2; go_simp <;> with_reducible rfl)); (simp only [Act.put, List.setIfInBounds_toArray, List.set_cons_zero, List.set_cons_succ]))
    refine plan3_run (o := ?_) (by simp only [List.getElem?_toArray, List.getElem?_cons_succ, List.getElem?_cons_zero]; rfl) ?_
    intro R HR
    refine wpList_copy_splice rfl (.tmp 41) (.tmp 43) 35 35 rfl 5 Try.underlying35 Try.size5 (some ⟨w.heap.size + 1, 12, none⟩) s.A 116 116 s.l.length s.cap rfl rfl (w.heap.size + 1) 12 (Cl [iv (a0.toNat : Nat), iv (a1.toNat : Nat), iv (a2.toNat : Nat), iv (a3.toNat : Nat), iv 0, iv 0, iv 0, iv 0, iv ((n : Int) / 256 % 256), iv ((n : Int) % 256), iv 0, iv s.l.length] (bs (List.replicate 112 0)) (bs (b4 g))) 96 HTD.out.b1 (bs s.l) (by rw [bs_len]; exact (Nat.min_eq_left (by omega)).symm) (fun h => ⟨rfl, HPOS.out h⟩) (by rw [bs_len]; show 12 + s.l.length ≤ 128; omega) (bs_one _) (w.heap.size + 1) xT.drew (Below.refl _ _) (Nat.le_refl _) ?_
    intro x9 hb9 hbel9
    have hJ : JS w [.bool false, .bool false, s.v] _ x9 := ⟨HTD.out.b0.below hbel9 (by omega), hb9, HTD.out.bel.trans (hbel9.mono (by omega))⟩
    rw [cl_data rfl (by rw [bs_len, List.length_replicate]) (by rw [bs_len]; omega), cl_is (bg := false) (en := false) (k := 0) HB4.out HL.out rfl] at hJ
    have HJ := hide hJ
    refine HR.out _ _ HJ.out.b0 ?_
    clear HR hJ hb9 hbel9
    refine plan3_done ?_
    have HCR := hide (checksum_any (w.heap.size + 1) 8 116 120 (bodyB false false s.l n) x9 (fun i h => by rw [HJ.out.b1.cell]; exact cl_body h) (bodyB_len HL.out).symm (by omega))
    have hsb : secB false false s.l n g = b4 g ++ (b4 (crc (bodyB false false s.l n)).toNat ++ ((bodyB false false s.l n) ++ b4 g)) := rfl
    have HSB := hide hsb
    have HSL := hide (secB_len (bg := false) (en := false) (n := n) (g := g) HL.out)
    clear hsb HT HTD HPOS
    generalize crc (bodyB false false s.l n) = cr at HCR HSB
    go_wp2_with fail
    refine HCR.out.mono ?_
    rintro e x10 ⟨rfl, rfl⟩
    clear HCR
    go_wp2_with fail
    refine (bytesOf_any cr.toNat _ cr.isLt).mono ?_
    rintro e x11 ⟨rfl, hb⟩
    have HZ := hide (Blk.new x11 104 [iv 0, iv 0, iv 0, iv 0])
    have hlt11 : w.heap.size + 1 < x11.heap.size := (HJ.out.below hb).b1.lt
    have HS12 := hide (((HJ.out.below hb).below (below_new x11 (.cells #[iv 0, iv 0, iv 0, iv 0] 104))).far hlt11 (bs (b4 cr.toNat)).toArray)
    have HB12 := hide (HZ.out.row (bs (b4 cr.toNat)))
    clear hb HJ
    go_upto_region 12 with (refine wpList_store_row rfl 104 (.tmp 8) (.tmp 47) rfl x11.heap.size (bs (b4 cr.toNat)).toArray rfl rfl 104 _ HZ.out Try.size104 rfl (one_bs _) ?_)
    generalize x11.heap.size = y11 at *
    generalize (x11.alloc (.cells #[iv 0, iv 0, iv 0, iv 0] 104)).setRow y11 (bs (b4 cr.toNat)).toArray = x12 at *
    have HS13 := hide (HS12.out.below (Below.refl _ _).drew)
    have HB13 : Hid (Blk x12.drew y11 104 (bs (b4 cr.toNat))) := hide HB12.out
    clear HZ HS12 HB12
    refine wp_region_plan3 (fun _ => True) (.take 0 (.take 1 (.run 2 .done))) (by kernel_rfl) (by kernel_rfl) trivial ?_
    (refine plan3_take (o := ?_) (v := ?_) (by simp only [List.getElem?_toArray, List.getElem?_cons_zero]; rfl) (yields_run (by rfl) ?_) ?_; rotate_left; (focus (intro w' _; go_simp <;> with_reducible rfl)); (simp only [Act.put, List.setIfInBounds_toArray, List.set_cons_zero, List.set_cons_succ]))
    (refine plan3_take (o := ?_) (v := ?_) (by simp only [List.getElem?_toArray, List.getElem?_cons_succ, List.getElem?_cons_zero]; rfl) (yields_run (by rfl) ?_) ?_; rotate_left; (focus (intro w' _; go_simp <;> with_reducible rfl)); (simp only [Act.put, List.setIfInBounds_toArray, List.set_cons_zero, List.set_cons_succ]))
    refine plan3_run (o := ?_) (by simp only [List.getElem?_toArray, List.getElem?_cons_succ, List.getElem?_cons_zero]; rfl) ?_
    intro R HR
    refine wpList_copyS rfl (.tmp 48) (.tmp 49) 35 35 rfl 5 Try.underlying35 Try.size5 (w.heap.size + 1) 4 124 124 y11 0 4 4 rfl rfl (bs (b4 g ++ ([0, 0, 0, 0] ++ ((bodyB false false s.l n) ++ b4 g)))) 96 HS13.out.b1 (bs (b4 cr.toNat)) (by rw [bs_len, b4_len]; rfl) (fun j v hv => by rw [Nat.zero_add, HB13.out.cell, hv]) (by rw [bs_len, b4_len, bs_len, List.length_append, List.length_append, List.length_append, bodyB_len HL.out, b4_len, show ([0, 0, 0, 0] : List UInt8).length = 4 from rfl]; omega) (bs_one _) ?_
    have HS14 := hide (HS13.out.row (splice (bs (b4 g ++ ([0, 0, 0, 0] ++ ((bodyB false false s.l n) ++ b4 g)))) 4 (bs (b4 cr.toNat))))
    have HBX14 := hide (HB13.out.far (Y := w.heap.size + 1) (by omega) (splice (bs (b4 g ++ ([0, 0, 0, 0] ++ ((bodyB false false s.l n) ++ b4 g)))) 4 (bs (b4 cr.toNat))).toArray)
    generalize x12.drew.setRow (w.heap.size + 1) (splice (bs (b4 g ++ ([0, 0, 0, 0] ++ ((bodyB false false s.l n) ++ b4 g)))) 4 (bs (b4 cr.toNat))).toArray = x14 at HS14 HBX14 ⊢
    refine HR.out _ _ trivial ?_
    clear HR
    rw [cl_sum, ← HSB.out] at HS14
    clear HS13 HB13 HBX14
    refine plan3_done ?_
    have HSZ := hide (show (Try.prog.info? 96).map (·.size) = some (bs (secB false false s.l n g)).toArray.size by rw [List.size_toArray, bs_len, HSL.out]; exact Try.size96)
    have HFIN := hide (HS14.out.row (bs (secB false false s.l n g)))
    go_wp2_with (first | (refine wpList_load_row rfl 96 (.tmp 6) rfl (w.heap.size + 1) rfl 96 _ (0, 0) _ HS14.out.b1 Try.underlying96 rfl HSZ.out ?_) | (refine wpList_store_row rfl 96 (.tmp 6) (.tmp 51) rfl (w.heap.size + 1) (bs (secB false false s.l n g)).toArray rfl rfl 96 _ HS14.out.b1 HSZ.out rfl (one_bs _) ?_))
    exact bodyPost_ret (v := .agg (bs (secB false false s.l n g)).toArray) (results_cell_row rfl _ _ (w.heap.size + 1) 96 _ (0, 0) _ rfl HFIN.out.b1 Try.underlying96 rfl HSZ.out) rfl ⟨rfl, HFIN.out.bel⟩
  · have p21 : (x8).cell? ⟨w.heap.size, 0, none⟩ = some (.bool false) := HS8.out.b0.cell 0
    have p22 : (x8).cell? ⟨w.heap.size, 1, none⟩ = some (.bool true) := HS8.out.b0.cell 1
    have d23 : (x8).cell? ⟨w.heap.size + 1, 10, none⟩ = some (iv 0) := HS8.out.b1.cell 10
    have f23 := HS8.out.b1.free 10
    have HS23 : Hid (JS w [.bool false, .bool true, s.v] (Cl [iv (a0.toNat : Nat), iv (a1.toNat : Nat), iv (a2.toNat : Nat), iv (a3.toNat : Nat), iv 0, iv 0, iv 0, iv 0, iv ((n : Int) / 256 % 256), iv ((n : Int) % 256), iv 2, iv 0] (bs (List.replicate 112 0)) (bs (b4 g))) ((x8).setCell ⟨w.heap.size + 1, 10, none⟩ (iv 2))) := hide (HS8.out.set 10 (iv 2))
    have p24 : ((x8).setCell ⟨w.heap.size + 1, 10, none⟩ (iv 2)).cell? ⟨w.heap.size, 2, none⟩ = some (s.v) := HS23.out.b0.cell 2
    have d25 : ((x8).setCell ⟨w.heap.size + 1, 10, none⟩ (iv 2)).cell? ⟨w.heap.size + 1, 11, none⟩ = some (iv 0) := HS23.out.b1.cell 11
    have f25 := HS23.out.b1.free 11
    have HS25 : Hid (JS w [.bool false, .bool true, s.v] (Cl [iv (a0.toNat : Nat), iv (a1.toNat : Nat), iv (a2.toNat : Nat), iv (a3.toNat : Nat), iv 0, iv 0, iv 0, iv 0, iv ((n : Int) / 256 % 256), iv ((n : Int) % 256), iv 2, iv s.l.length] (bs (List.replicate 112 0)) (bs (b4 g))) (((x8).setCell ⟨w.heap.size + 1, 10, none⟩ (iv 2)).setCell ⟨w.heap.size + 1, 11, none⟩ (iv s.l.length))) := hide (HS23.out.set 11 (iv s.l.length))
    go_upto_region 10 with (fail)
    have HT := HS25
    generalize ((x8).setCell ⟨w.heap.size + 1, 10, none⟩ (iv 2)).setCell ⟨w.heap.size + 1, 11, none⟩ (iv s.l.length) = xT at HT ⊢
    have HTD := hide (HT.out.below (Below.refl _ _).drew)
    have HPOS := hide (show 0 < (bs s.l).length → ∃ ad, s.A = some ad ∧ ∀ j v, (bs s.l)[j]? = some v → xT.drew.cell? (ad.add j) = some v from fun h => by
      obtain ⟨b, o, e, hlt, hc⟩ := HI.out.cels.at h
      refine ⟨_, e, fun j v hv => ?_⟩
      obtain ⟨hj, rfl⟩ := List.getElem?_eq_some_iff.1 hv
      rw [Addr.add_mid]
      exact (HTD.out.bel.cell (p := ⟨b, o + j, none⟩) hlt).trans (hc j hj))
    refine wp_region_plan3 (fun w' => Blk w' w.heap.size 95 [.bool false, .bool true, s.v]) (.take 0 (.take 1 (.take 2 (.run 3 .done)))) (by kernel_rfl) (by kernel_rfl) HTD.out.b0 ?_
    (refine plan3_take (o := ?_) (v := ?_) (by simp only [List.getElem?_toArray, List.getElem?_cons_zero]; rfl) (yields_run (by rfl) ?_) ?_; rotate_left; (focus (intro w' hw'; have q := hw'.cell 2; go_simp <;> with_reducible rfl)); (simp only [Act.put, List.setIfInBounds_toArray, List.set_cons_zero, List.set_cons_succ]))
    (refine plan3_take (o := ?_) (v := ?_) (by simp only [List.getElem?_toArray, List.getElem?_cons_succ, List.getElem?_cons_zero]; rfl) (yields_run (by rfl) ?_) ?_; rotate_left; (focus (intro w' hw'; have q := hw'.cell 2; go_simp <;> with_reducible rfl)); (simp only [Act.put, List.setIfInBounds_toArray, List.set_cons_zero, List.set_cons_succ]))
    (refine plan3_take (o := ?_) (v := ?_) (by simp only [List.getElem?_toArray, List.getElem?_cons_succ, List.getElem?_cons_zero]; rfl) (yields_run (by rfl) ?_) ?_; rotate_left; (focus (intro w' hw'; have q := hw'.cell 2; go_simp <;> with_reducible rfl)); (simp only [Act.put, List.setIfInBounds_toArray, List.set_cons_zero, List.set_cons_succ]))
    refine plan3_run (o := ?_) (by simp only [List.getElem?_toArray, List.getElem?_cons_succ, List.getElem?_cons_zero]; rfl) ?_
    intro R HR
    refine wpList_copy_splice rfl (.tmp 41) (.tmp 43) 35 35 rfl 5 Try.underlying35 Try.size5 (some ⟨w.heap.size + 1, 12, none⟩) s.A 116 116 s.l.length s.cap rfl rfl (w.heap.size + 1) 12 (Cl [iv (a0.toNat : Nat), iv (a1.toNat : Nat), iv (a2.toNat : Nat), iv (a3.toNat : Nat), iv 0, iv 0, iv 0, iv 0, iv ((n : Int) / 256 % 256), iv ((n : Int) % 256), iv 2, iv s.l.length] (bs (List.replicate 112 0)) (bs (b4 g))) 96 HTD.out.b1 (bs s.l) (by rw [bs_len]; exact (Nat.min_eq_left (by omega)).symm) (fun h => ⟨rfl, HPOS.out h⟩) (by rw [bs_len]; show 12 + s.l.length ≤ 128; omega) (bs_one _) (w.heap.size + 1) xT.drew (Below.refl _ _) (Nat.le_refl _) ?_
    intro x9 hb9 hbel9
    have hJ : JS w [.bool false, .bool true, s.v] _ x9 := ⟨HTD.out.b0.below hbel9 (by omega), hb9, HTD.out.bel.trans (hbel9.mono (by omega))⟩
    rw [cl_data rfl (by rw [bs_len, List.length_replicate]) (by rw [bs_len]; omega), cl_is (bg := false) (en := true) (k := 2) HB4.out HL.out rfl] at hJ
    have HJ := hide hJ
    refine HR.out _ _ HJ.out.b0 ?_
    clear HR hJ hb9 hbel9
    refine plan3_done ?_
    have HCR := hide (checksum_any (w.heap.size + 1) 8 116 120 (bodyB false true s.l n) x9 (fun i h => by rw [HJ.out.b1.cell]; exact cl_body h) (bodyB_len HL.out).symm (by omega))
    have hsb : secB false true s.l n g = b4 g ++ (b4 (crc (bodyB false true s.l n)).toNat ++ ((bodyB false true s.l n) ++ b4 g)) := rfl
    have HSB := hide hsb
    have HSL := hide (secB_len (bg := false) (en := true) (n := n) (g := g) HL.out)
    clear hsb HT HTD HPOS
    generalize crc (bodyB false true s.l n) = cr at HCR HSB
    go_wp2_with fail
    refine HCR.out.mono ?_
    rintro e x10 ⟨rfl, rfl⟩
    clear HCR
    go_wp2_with fail
    refine (bytesOf_any cr.toNat _ cr.isLt).mono ?_
    rintro e x11 ⟨rfl, hb⟩
    have HZ := hide (Blk.new x11 104 [iv 0, iv 0, iv 0, iv 0])
    have hlt11 : w.heap.size + 1 < x11.heap.size := (HJ.out.below hb).b1.lt
    have HS12 := hide (((HJ.out.below hb).below (below_new x11 (.cells #[iv 0, iv 0, iv 0, iv 0] 104))).far hlt11 (bs (b4 cr.toNat)).toArray)
    have HB12 := hide (HZ.out.row (bs (b4 cr.toNat)))
    clear hb HJ
    go_upto_region 12 with (refine wpList_store_row rfl 104 (.tmp 8) (.tmp 47) rfl x11.heap.size (bs (b4 cr.toNat)).toArray rfl rfl 104 _ HZ.out Try.size104 rfl (one_bs _) ?_)
    generalize x11.heap.size = y11 at *
    generalize (x11.alloc (.cells #[iv 0, iv 0, iv 0, iv 0] 104)).setRow y11 (bs (b4 cr.toNat)).toArray = x12 at *
    have HS13 := hide (HS12.out.below (Below.refl _ _).drew)
    have HB13 : Hid (Blk x12.drew y11 104 (bs (b4 cr.toNat))) := hide HB12.out
    clear HZ HS12 HB12
    refine wp_region_plan3 (fun _ => True) (.take 0 (.take 1 (.run 2 .done))) (by kernel_rfl) (by kernel_rfl) trivial ?_
    (refine plan3_take (o := ?_) (v := ?_) (by simp only [List.getElem?_toArray, List.getElem?_cons_zero]; rfl) (yields_run (by rfl) ?_) ?_; rotate_left; (focus (intro w' _; go_simp <;> with_reducible rfl)); (simp only [Act.put, List.setIfInBounds_toArray, List.set_cons_zero, List.set_cons_succ]))
    (refine plan3_take (o := ?_) (v := ?_) (by simp only [List.getElem?_toArray, List.getElem?_cons_succ, List.getElem?_cons_zero]; rfl) (yields_run (by rfl) ?_) ?_; rotate_left; (focus (intro w' _; go_simp <;> with_reducible rfl)); (simp only [Act.put, List.setIfInBounds_toArray, List.set_cons_zero, List.set_cons_succ]))
    refine plan3_run (o := ?_) (by simp only [List.getElem?_toArray, List.getElem?_cons_succ, List.getElem?_cons_zero]; rfl) ?_
    intro R HR
    refine wpList_copyS rfl (.tmp 48) (.tmp 49) 35 35 rfl 5 Try.underlying35 Try.size5 (w.heap.size + 1) 4 124 124 y11 0 4 4 rfl rfl (bs (b4 g ++ ([0, 0, 0, 0] ++ ((bodyB false true s.l n) ++ b4 g)))) 96 HS13.out.b1 (bs (b4 cr.toNat)) (by rw [bs_len, b4_len]; rfl) (fun j v hv => by rw [Nat.zero_add, HB13.out.cell, hv]) (by rw [bs_len, b4_len, bs_len, List.length_append, List.length_append, List.length_append, bodyB_len HL.out, b4_len, show ([0, 0, 0, 0] : List UInt8).length = 4 from rfl]; omega) (bs_one _) ?_
    have HS14 := hide (HS13.out.row (splice (bs (b4 g ++ ([0, 0, 0, 0] ++ ((bodyB false true s.l n) ++ b4 g)))) 4 (bs (b4 cr.toNat))))
    have HBX14 := hide (HB13.out.far (Y := w.heap.size + 1) (by omega) (splice (bs (b4 g ++ ([0, 0, 0, 0] ++ ((bodyB false true s.l n) ++ b4 g)))) 4 (bs (b4 cr.toNat))).toArray)
    generalize x12.drew.setRow (w.heap.size + 1) (splice (bs (b4 g ++ ([0, 0, 0, 0] ++ ((bodyB false true s.l n) ++ b4 g)))) 4 (bs (b4 cr.toNat))).toArray = x14 at HS14 HBX14 ⊢
    refine HR.out _ _ trivial ?_
    clear HR
    rw [cl_sum, ← HSB.out] at HS14
    clear HS13 HB13 HBX14
    refine plan3_done ?_
    have HSZ := hide (show (Try.prog.info? 96).map (·.size) = some (bs (secB false true s.l n g)).toArray.size by rw [List.size_toArray, bs_len, HSL.out]; exact Try.size96)
    have HFIN := hide (HS14.out.row (bs (secB false true s.l n g)))
    go_wp2_with (first | (refine wpList_load_row rfl 96 (.tmp 6) rfl (w.heap.size + 1) rfl 96 _ (0, 0) _ HS14.out.b1 Try.underlying96 rfl HSZ.out ?_) | (refine wpList_store_row rfl 96 (.tmp 6) (.tmp 51) rfl (w.heap.size + 1) (bs (secB false true s.l n g)).toArray rfl rfl 96 _ HS14.out.b1 HSZ.out rfl (one_bs _) ?_))
    exact bodyPost_ret (v := .agg (bs (secB false true s.l n g)).toArray) (results_cell_row rfl _ _ (w.heap.size + 1) 96 _ (0, 0) _ rfl HFIN.out.b1 Try.underlying96 rfl HSZ.out) rfl ⟨rfl, HFIN.out.bel⟩
  · have p21 : (x8).cell? ⟨w.heap.size, 0, none⟩ = some (.bool true) := HS8.out.b0.cell 0
    have d22 : (x8).cell? ⟨w.heap.size + 1, 10, none⟩ = some (iv 0) := HS8.out.b1.cell 10
    have f22 := HS8.out.b1.free 10
    have HS22 : Hid (JS w [.bool true, .bool false, s.v] (Cl [iv (a0.toNat : Nat), iv (a1.toNat : Nat), iv (a2.toNat : Nat), iv (a3.toNat : Nat), iv 0, iv 0, iv 0, iv 0, iv ((n : Int) / 256 % 256), iv ((n : Int) % 256), iv 1, iv 0] (bs (List.replicate 112 0)) (bs (b4 g))) ((x8).setCell ⟨w.heap.size + 1, 10, none⟩ (iv 1))) := hide (HS8.out.set 10 (iv 1))
    have p23 : ((x8).setCell ⟨w.heap.size + 1, 10, none⟩ (iv 1)).cell? ⟨w.heap.size, 1, none⟩ = some (.bool false) := HS22.out.b0.cell 1
    have p24 : ((x8).setCell ⟨w.heap.size + 1, 10, none⟩ (iv 1)).cell? ⟨w.heap.size, 2, none⟩ = some (s.v) := HS22.out.b0.cell 2
    have d25 : ((x8).setCell ⟨w.heap.size + 1, 10, none⟩ (iv 1)).cell? ⟨w.heap.size + 1, 11, none⟩ = some (iv 0) := HS22.out.b1.cell 11
    have f25 := HS22.out.b1.free 11
    have HS25 : Hid (JS w [.bool true, .bool false, s.v] (Cl [iv (a0.toNat : Nat), iv (a1.toNat : Nat), iv (a2.toNat : Nat), iv (a3.toNat : Nat), iv 0, iv 0, iv 0, iv 0, iv ((n : Int) / 256 % 256), iv ((n : Int) % 256), iv 1, iv s.l.length] (bs (List.replicate 112 0)) (bs (b4 g))) (((x8).setCell ⟨w.heap.size + 1, 10, none⟩ (iv 1)).setCell ⟨w.heap.size + 1, 11, none⟩ (iv s.l.length))) := hide (HS22.out.set 11 (iv s.l.length))
    go_upto_region 10 with (fail)
    have HT := HS25
    generalize ((x8).setCell ⟨w.heap.size + 1, 10, none⟩ (iv 1)).setCell ⟨w.heap.size + 1, 11, none⟩ (iv s.l.length) = xT at HT ⊢
    have HTD := hide (HT.out.below (Below.refl _ _).drew)
    have HPOS := hide (show 0 < (bs s.l).length → ∃ ad, s.A = some ad ∧ ∀ j v, (bs s.l)[j]? = some v → xT.drew.cell? (ad.add j) = some v from fun h => by
      obtain ⟨b, o, e, hlt, hc⟩ := HI.out.cels.at h
      refine ⟨_, e, fun j v hv => ?_⟩
      obtain ⟨hj, rfl⟩ := List.getElem?_eq_some_iff.1 hv
      rw [Addr.add_mid]
      exact (HTD.out.bel.cell (p := ⟨b, o + j, none⟩) hlt).trans (hc j hj))
    refine wp_region_plan3 (fun w' => Blk w' w.heap.size 95 [.bool true, .bool false, s.v]) (.take 0 (.take 1 (.take 2 (.run 3 .done)))) (by kernel_rfl) (by kernel_rfl) HTD.out.b0 ?_
    (refine plan3_take (o := ?_) (v := ?_) (by simp only [List.getElem?_toArray, List.getElem?_cons_zero]; rfl) (yields_run (by rfl) ?_) ?_; rotate_left; (focus (intro w' hw'; have q := hw'.cell 2; go_simp <;> with_reducible rfl)); (simp only [Act.put, List.setIfInBounds_toArray, List.set_cons_zero, List.set_cons_succ]))
    (refine plan3_take (o := ?_) (v := ?_) (by simp only [List.getElem?_toArray, List.getElem?_cons_succ, List.getElem?_cons_zero]; rfl) (yields_run (by rfl) ?_) ?_; rotate_left; (focus (intro w' hw'; have q := hw'.cell 2; go_simp <;> with_reducible rfl)); (simp only [Act.put, List.setIfInBounds_toArray, List.set_cons_zero, List.set_cons_succ]))
    (refine plan3_take (o := ?_) (v := ?_) (by simp only [List.getElem?_toArray, List.getElem?_cons_succ, List.getElem?_cons_zero]; rfl) (yields_run (by rfl) ?_) ?_; rotate_left; (focus (intro w' hw'; have q := hw'.cell 2; go_simp <;> with_reducible rfl)); (simp only [Act.put, List.setIfInBounds_toArray, List.set_cons_zero, List.set_cons_succ]))
    refine plan3_run (o := ?_) (by simp only [List.getElem?_toArray, List.getElem?_cons_succ, List.getElem?_cons_zero]; rfl) ?_
    intro R HR
    refine wpList_copy_splice rfl (.tmp 41) (.tmp 43) 35 35 rfl 5 Try.underlying35 Try.size5 (some ⟨w.heap.size + 1, 12, none⟩) s.A 116 116 s.l.length s.cap rfl rfl (w.heap.size + 1) 12 (Cl [iv (a0.toNat : Nat), iv (a1.toNat : Nat), iv (a2.toNat : Nat), iv (a3.toNat : Nat), iv 0, iv 0, iv 0, iv 0, iv ((n : Int) / 256 % 256), iv ((n : Int) % 256), iv 1, iv s.l.length] (bs (List.replicate 112 0)) (bs (b4 g))) 96 HTD.out.b1 (bs s.l) (by rw [bs_len]; exact (Nat.min_eq_left (by omega)).symm) (fun h => ⟨rfl, HPOS.out h⟩) (by rw [bs_len]; show 12 + s.l.length ≤ 128; omega) (bs_one _) (w.heap.size + 1) xT.drew (Below.refl _ _) (Nat.le_refl _) ?_
    intro x9 hb9 hbel9
    have hJ : JS w [.bool true, .bool false, s.v] _ x9 := ⟨HTD.out.b0.below hbel9 (by omega), hb9, HTD.out.bel.trans (hbel9.mono (by omega))⟩
    rw [cl_data rfl (by rw [bs_len, List.length_replicate]) (by rw [bs_len]; omega), cl_is (bg := true) (en := false) (k := 1) HB4.out HL.out rfl] at hJ
    have HJ := hide hJ
    refine HR.out _ _ HJ.out.b0 ?_
    clear HR hJ hb9 hbel9
    refine plan3_done ?_
    have HCR := hide (checksum_any (w.heap.size + 1) 8 116 120 (bodyB true false s.l n) x9 (fun i h => by rw [HJ.out.b1.cell]; exact cl_body h) (bodyB_len HL.out).symm (by omega))
    have hsb : secB true false s.l n g = b4 g ++ (b4 (crc (bodyB true false s.l n)).toNat ++ ((bodyB true false s.l n) ++ b4 g)) := rfl
    have HSB := hide hsb
    have HSL := hide (secB_len (bg := true) (en := false) (n := n) (g := g) HL.out)
    clear hsb HT HTD HPOS
    generalize crc (bodyB true false s.l n) = cr at HCR HSB
    go_wp2_with fail
    refine HCR.out.mono ?_
    rintro e x10 ⟨rfl, rfl⟩
    clear HCR
    go_wp2_with fail
    refine (bytesOf_any cr.toNat _ cr.isLt).mono ?_
    rintro e x11 ⟨rfl, hb⟩
    have HZ := hide (Blk.new x11 104 [iv 0, iv 0, iv 0, iv 0])
    have hlt11 : w.heap.size + 1 < x11.heap.size := (HJ.out.below hb).b1.lt
    have HS12 := hide (((HJ.out.below hb).below (below_new x11 (.cells #[iv 0, iv 0, iv 0, iv 0] 104))).far hlt11 (bs (b4 cr.toNat)).toArray)
    have HB12 := hide (HZ.out.row (bs (b4 cr.toNat)))
    clear hb HJ
    go_upto_region 12 with (refine wpList_store_row rfl 104 (.tmp 8) (.tmp 47) rfl x11.heap.size (bs (b4 cr.toNat)).toArray rfl rfl 104 _ HZ.out Try.size104 rfl (one_bs _) ?_)
    generalize x11.heap.size = y11 at *
    generalize (x11.alloc (.cells #[iv 0, iv 0, iv 0, iv 0] 104)).setRow y11 (bs (b4 cr.toNat)).toArray = x12 at *
    have HS13 := hide (HS12.out.below (Below.refl _ _).drew)
    have HB13 : Hid (Blk x12.drew y11 104 (bs (b4 cr.toNat))) := hide HB12.out
    clear HZ HS12 HB12
    refine wp_region_plan3 (fun _ => True) (.take 0 (.take 1 (.run 2 .done))) (by kernel_rfl) (by kernel_rfl) trivial ?_
    (refine plan3_take (o := ?_) (v := ?_) (by simp only [List.getElem?_toArray, List.getElem?_cons_zero]; rfl) (yields_run (by rfl) ?_) ?_; rotate_left; (focus (intro w' _; go_simp <;> with_reducible rfl)); (simp only [Act.put, List.setIfInBounds_toArray, List.set_cons_zero, List.set_cons_succ]))
    (refine plan3_take (o := ?_) (v := ?_) (by simp only [List.getElem?_toArray, List.getElem?_cons_succ, List.getElem?_cons_zero]; rfl) (yields_run (by rfl) ?_) ?_; rotate_left; (focus (intro w' _; go_simp <;> with_reducible rfl)); (simp only [Act.put, List.setIfInBounds_toArray, List.set_cons_zero, List.set_cons_succ]))
    refine plan3_run (o := ?_) (by simp only [List.getElem?_toArray, List.getElem?_cons_succ, List.getElem?_cons_zero]; rfl) ?_
    intro R HR
    refine wpList_copyS rfl (.tmp 48) (.tmp 49) 35 35 rfl 5 Try.underlying35 Try.size5 (w.heap.size + 1) 4 124 124 y11 0 4 4 rfl rfl (bs (b4 g ++ ([0, 0, 0, 0] ++ ((bodyB true false s.l n) ++ b4 g)))) 96 HS13.out.b1 (bs (b4 cr.toNat)) (by rw [bs_len, b4_len]; rfl) (fun j v hv => by rw [Nat.zero_add, HB13.out.cell, hv]) (by rw [bs_len, b4_len, bs_len, List.length_append, List.length_append, List.length_append, bodyB_len HL.out, b4_len, show ([0, 0, 0, 0] : List UInt8).length = 4 from rfl]; omega) (bs_one _) ?_
    have HS14 := hide (HS13.out.row (splice (bs (b4 g ++ ([0, 0, 0, 0] ++ ((bodyB true false s.l n) ++ b4 g)))) 4 (bs (b4 cr.toNat))))
    have HBX14 := hide (HB13.out.far (Y := w.heap.size + 1) (by omega) (splice (bs (b4 g ++ ([0, 0, 0, 0] ++ ((bodyB true false s.l n) ++ b4 g)))) 4 (bs (b4 cr.toNat))).toArray)
    generalize x12.drew.setRow (w.heap.size + 1) (splice (bs (b4 g ++ ([0, 0, 0, 0] ++ ((bodyB true false s.l n) ++ b4 g)))) 4 (bs (b4 cr.toNat))).toArray = x14 at HS14 HBX14 ⊢
    refine HR.out _ _ trivial ?_
    clear HR
    rw [cl_sum, ← HSB.out] at HS14
    clear HS13 HB13 HBX14
    refine plan3_done ?_
    have HSZ := hide (show (Try.prog.info? 96).map (·.size) = some (bs (secB true false s.l n g)).toArray.size by rw [List.size_toArray, bs_len, HSL.out]; exact Try.size96)
    have HFIN := hide (HS14.out.row (bs (secB true false s.l n g)))
    go_wp2_with (first | (refine wpList_load_row rfl 96 (.tmp 6) rfl (w.heap.size + 1) rfl 96 _ (0, 0) _ HS14.out.b1 Try.underlying96 rfl HSZ.out ?_) | (refine wpList_store_row rfl 96 (.tmp 6) (.tmp 51) rfl (w.heap.size + 1) (bs (secB true false s.l n g)).toArray rfl rfl 96 _ HS14.out.b1 HSZ.out rfl (one_bs _) ?_))
    exact bodyPost_ret (v := .agg (bs (secB true false s.l n g)).toArray) (results_cell_row rfl _ _ (w.heap.size + 1) 96 _ (0, 0) _ rfl HFIN.out.b1 Try.underlying96 rfl HSZ.out) rfl ⟨rfl, HFIN.out.bel⟩
  · have p21 : (x8).cell? ⟨w.heap.size, 0, none⟩ = some (.bool true) := HS8.out.b0.cell 0
    have d22 : (x8).cell? ⟨w.heap.size + 1, 10, none⟩ = some (iv 0) := HS8.out.b1.cell 10
    have f22 := HS8.out.b1.free 10
    have HS22 : Hid (JS w [.bool true, .bool true, s.v] (Cl [iv (a0.toNat : Nat), iv (a1.toNat : Nat), iv (a2.toNat : Nat), iv (a3.toNat : Nat), iv 0, iv 0, iv 0, iv 0, iv ((n : Int) / 256 % 256), iv ((n : Int) % 256), iv 1, iv 0] (bs (List.replicate 112 0)) (bs (b4 g))) ((x8).setCell ⟨w.heap.size + 1, 10, none⟩ (iv 1))) := hide (HS8.out.set 10 (iv 1))
    have p23 : ((x8).setCell ⟨w.heap.size + 1, 10, none⟩ (iv 1)).cell? ⟨w.heap.size, 1, none⟩ = some (.bool true) := HS22.out.b0.cell 1
    have d24 : ((x8).setCell ⟨w.heap.size + 1, 10, none⟩ (iv 1)).cell? ⟨w.heap.size + 1, 10, none⟩ = some (iv 1) := HS22.out.b1.cell 10
    have f24 := HS22.out.b1.free 10
    have HS24 : Hid (JS w [.bool true, .bool true, s.v] (Cl [iv (a0.toNat : Nat), iv (a1.toNat : Nat), iv (a2.toNat : Nat), iv (a3.toNat : Nat), iv 0, iv 0, iv 0, iv 0, iv ((n : Int) / 256 % 256), iv ((n : Int) % 256), iv 3, iv 0] (bs (List.replicate 112 0)) (bs (b4 g))) (((x8).setCell ⟨w.heap.size + 1, 10, none⟩ (iv 1)).setCell ⟨w.heap.size + 1, 10, none⟩ (iv 3))) := hide (HS22.out.set 10 (iv 3))
    have p25 : (((x8).setCell ⟨w.heap.size + 1, 10, none⟩ (iv 1)).setCell ⟨w.heap.size + 1, 10, none⟩ (iv 3)).cell? ⟨w.heap.size, 2, none⟩ = some (s.v) := HS24.out.b0.cell 2
    have d26 : (((x8).setCell ⟨w.heap.size + 1, 10, none⟩ (iv 1)).setCell ⟨w.heap.size + 1, 10, none⟩ (iv 3)).cell? ⟨w.heap.size + 1, 11, none⟩ = some (iv 0) := HS24.out.b1.cell 11
    have f26 := HS24.out.b1.free 11
    have HS26 : Hid (JS w [.bool true, .bool true, s.v] (Cl [iv (a0.toNat : Nat), iv (a1.toNat : Nat), iv (a2.toNat : Nat), iv (a3.toNat : Nat), iv 0, iv 0, iv 0, iv 0, iv ((n : Int) / 256 % 256), iv ((n : Int) % 256), iv 3, iv s.l.length] (bs (List.replicate 112 0)) (bs (b4 g))) ((((x8).setCell ⟨w.heap.size + 1, 10, none⟩ (iv 1)).setCell ⟨w.heap.size + 1, 10, none⟩ (iv 3)).setCell ⟨w.heap.size + 1, 11, none⟩ (iv s.l.length))) := hide (HS24.out.set 11 (iv s.l.length))
    go_upto_region 10 with (fail)
    have HT := HS26
    generalize (((x8).setCell ⟨w.heap.size + 1, 10, none⟩ (iv 1)).setCell ⟨w.heap.size + 1, 10, none⟩ (iv 3)).setCell ⟨w.heap.size + 1, 11, none⟩ (iv s.l.length) = xT at HT ⊢
    have HTD := hide (HT.out.below (Below.refl _ _).drew)
    have HPOS := hide (show 0 < (bs s.l).length → ∃ ad, s.A = some ad ∧ ∀ j v, (bs s.l)[j]? = some v → xT.drew.cell? (ad.add j) = some v from fun h => by
      obtain ⟨b, o, e, hlt, hc⟩ := HI.out.cels.at h
      refine ⟨_, e, fun j v hv => ?_⟩
      obtain ⟨hj, rfl⟩ := List.getElem?_eq_some_iff.1 hv
      rw [Addr.add_mid]
      exact (HTD.out.bel.cell (p := ⟨b, o + j, none⟩) hlt).trans (hc j hj))
    refine wp_region_plan3 (fun w' => Blk w' w.heap.size 95 [.bool true, .bool true, s.v]) (.take 0 (.take 1 (.take 2 (.run 3 .done)))) (by kernel_rfl) (by kernel_rfl) HTD.out.b0 ?_
    (refine plan3_take (o := ?_) (v := ?_) (by simp only [List.getElem?_toArray, List.getElem?_cons_zero]; rfl) (yields_run (by rfl) ?_) ?_; rotate_left; (focus (intro w' hw'; have q := hw'.cell 2; go_simp <;> with_reducible rfl)); (simp only [Act.put, List.setIfInBounds_toArray, List.set_cons_zero, List.set_cons_succ]))
    (refine plan3_take (o := ?_) (v := ?_) (by simp only [List.getElem?_toArray, List.getElem?_cons_succ, List.getElem?_cons_zero]; rfl) (yields_run (by rfl) ?_) ?_; rotate_left; (focus (intro w' hw'; have q := hw'.cell 2; go_simp <;> with_reducible rfl)); (simp only [Act.put, List.setIfInBounds_toArray, List.set_cons_zero, List.set_cons_succ]))
    (refine plan3_take (o := ?_) (v := ?_) (by simp only [List.getElem?_toArray, List.getElem?_cons_succ, List.getElem?_cons_zero]; rfl) (yields_run (by rfl) ?_) ?_; rotate_left; (focus (intro w' hw'; have q := hw'.cell 2; go_simp <;> with_reducible rfl)); (simp only [Act.put, List.setIfInBounds_toArray, List.set_cons_zero, List.set_cons_succ]))
    refine plan3_run (o := ?_) (by simp only [List.getElem?_toArray, List.getElem?_cons_succ, List.getElem?_cons_zero]; rfl) ?_
    intro R HR
    refine wpList_copy_splice rfl (.tmp 41) (.tmp 43) 35 35 rfl 5 Try.underlying35 Try.size5 (some ⟨w.heap.size + 1, 12, none⟩) s.A 116 116 s.l.length s.cap rfl rfl (w.heap.size + 1) 12 (Cl [iv (a0.toNat : Nat), iv (a1.toNat : Nat), iv (a2.toNat : Nat), iv (a3.toNat : Nat), iv 0, iv 0, iv 0, iv 0, iv ((n : Int) / 256 % 256), iv ((n : Int) % 256), iv 3, iv s.l.length] (bs (List.replicate 112 0)) (bs (b4 g))) 96 HTD.out.b1 (bs s.l) (by rw [bs_len]; exact (Nat.min_eq_left (by omega)).symm) (fun h => ⟨rfl, HPOS.out h⟩) (by rw [bs_len]; show 12 + s.l.length ≤ 128; omega) (bs_one _) (w.heap.size + 1) xT.drew (Below.refl _ _) (Nat.le_refl _) ?_
    intro x9 hb9 hbel9
    have hJ : JS w [.bool true, .bool true, s.v] _ x9 := ⟨HTD.out.b0.below hbel9 (by omega), hb9, HTD.out.bel.trans (hbel9.mono (by omega))⟩
    rw [cl_data rfl (by rw [bs_len, List.length_replicate]) (by rw [bs_len]; omega), cl_is (bg := true) (en := true) (k := 3) HB4.out HL.out rfl] at hJ
    have HJ := hide hJ
    refine HR.out _ _ HJ.out.b0 ?_
    clear HR hJ hb9 hbel9
    refine plan3_done ?_
    have HCR := hide (checksum_any (w.heap.size + 1) 8 116 120 (bodyB true true s.l n) x9 (fun i h => by rw [HJ.out.b1.cell]; exact cl_body h) (bodyB_len HL.out).symm (by omega))
    have hsb : secB true true s.l n g = b4 g ++ (b4 (crc (bodyB true true s.l n)).toNat ++ ((bodyB true true s.l n) ++ b4 g)) := rfl
    have HSB := hide hsb
    have HSL := hide (secB_len (bg := true) (en := true) (n := n) (g := g) HL.out)
    clear hsb HT HTD HPOS
    generalize crc (bodyB true true s.l n) = cr at HCR HSB
    go_wp2_with fail
    refine HCR.out.mono ?_
    rintro e x10 ⟨rfl, rfl⟩
    clear HCR
    go_wp2_with fail
    refine (bytesOf_any cr.toNat _ cr.isLt).mono ?_
    rintro e x11 ⟨rfl, hb⟩
    have HZ := hide (Blk.new x11 104 [iv 0, iv 0, iv 0, iv 0])
    have hlt11 : w.heap.size + 1 < x11.heap.size := (HJ.out.below hb).b1.lt
    have HS12 := hide (((HJ.out.below hb).below (below_new x11 (.cells #[iv 0, iv 0, iv 0, iv 0] 104))).far hlt11 (bs (b4 cr.toNat)).toArray)
    have HB12 := hide (HZ.out.row (bs (b4 cr.toNat)))
    clear hb HJ
    go_upto_region 12 with (refine wpList_store_row rfl 104 (.tmp 8) (.tmp 47) rfl x11.heap.size (bs (b4 cr.toNat)).toArray rfl rfl 104 _ HZ.out Try.size104 rfl (one_bs _) ?_)
    generalize x11.heap.size = y11 at *
    generalize (x11.alloc (.cells #[iv 0, iv 0, iv 0, iv 0] 104)).setRow y11 (bs (b4 cr.toNat)).toArray = x12 at *
    have HS13 := hide (HS12.out.below (Below.refl _ _).drew)
    have HB13 : Hid (Blk x12.drew y11 104 (bs (b4 cr.toNat))) := hide HB12.out
    clear HZ HS12 HB12
    refine wp_region_plan3 (fun _ => True) (.take 0 (.take 1 (.run 2 .done))) (by kernel_rfl) (by kernel_rfl) trivial ?_
    (refine plan3_take (o := ?_) (v := ?_) (by simp only [List.getElem?_toArray, List.getElem?_cons_zero]; rfl) (yields_run (by rfl) ?_) ?_; rotate_left; (focus (intro w' _; go_simp <;> with_reducible rfl)); (simp only [Act.put, List.setIfInBounds_toArray, List.set_cons_zero, List.set_cons_succ]))
    (refine plan3_take (o := ?_) (v := ?_) (by simp only [List.getElem?_toArray, List.getElem?_cons_succ, List.getElem?_cons_zero]; rfl) (yields_run (by rfl) ?_) ?_; rotate_left; (focus (intro w' _; go_simp <;> with_reducible rfl)); (simp only [Act.put, List.setIfInBounds_toArray, List.set_cons_zero, List.set_cons_succ]))
    refine plan3_run (o := ?_) (by simp only [List.getElem?_toArray, List.getElem?_cons_succ, List.getElem?_cons_zero]; rfl) ?_
    intro R HR
    refine wpList_copyS rfl (.tmp 48) (.tmp 49) 35 35 rfl 5 Try.underlying35 Try.size5 (w.heap.size + 1) 4 124 124 y11 0 4 4 rfl rfl (bs (b4 g ++ ([0, 0, 0, 0] ++ ((bodyB true true s.l n) ++ b4 g)))) 96 HS13.out.b1 (bs (b4 cr.toNat)) (by rw [bs_len, b4_len]; rfl) (fun j v hv => by rw [Nat.zero_add, HB13.out.cell, hv]) (by rw [bs_len, b4_len, bs_len, List.length_append, List.length_append, List.length_append, bodyB_len HL.out, b4_len, show ([0, 0, 0, 0] : List UInt8).length = 4 from rfl]; omega) (bs_one _) ?_
    have HS14 := hide (HS13.out.row (splice (bs (b4 g ++ ([0, 0, 0, 0] ++ ((bodyB true true s.l n) ++ b4 g)))) 4 (bs (b4 cr.toNat))))
    have HBX14 := hide (HB13.out.far (Y := w.heap.size + 1) (by omega) (splice (bs (b4 g ++ ([0, 0, 0, 0] ++ ((bodyB true true s.l n) ++ b4 g)))) 4 (bs (b4 cr.toNat))).toArray)
    generalize x12.drew.setRow (w.heap.size + 1) (splice (bs (b4 g ++ ([0, 0, 0, 0] ++ ((bodyB true true s.l n) ++ b4 g)))) 4 (bs (b4 cr.toNat))).toArray = x14 at HS14 HBX14 ⊢
    refine HR.out _ _ trivial ?_
    clear HR
    rw [cl_sum, ← HSB.out] at HS14
    clear HS13 HB13 HBX14
    refine plan3_done ?_
    have HSZ := hide (show (Try.prog.info? 96).map (·.size) = some (bs (secB true true s.l n g)).toArray.size by rw [List.size_toArray, bs_len, HSL.out]; exact Try.size96)
    have HFIN := hide (HS14.out.row (bs (secB true true s.l n g)))
    go_wp2_with (first | (refine wpList_load_row rfl 96 (.tmp 6) rfl (w.heap.size + 1) rfl 96 _ (0, 0) _ HS14.out.b1 Try.underlying96 rfl HSZ.out ?_) | (refine wpList_store_row rfl 96 (.tmp 6) (.tmp 51) rfl (w.heap.size + 1) (bs (secB true true s.l n g)).toArray rfl rfl 96 _ HS14.out.b1 HSZ.out rfl (one_bs _) ?_))
    exact bodyPost_ret (v := .agg (bs (secB true true s.l n g)).toArray) (results_cell_row rfl _ _ (w.heap.size + 1) 96 _ (0, 0) _ rfl HFIN.out.b1 Try.underlying96 rfl HSZ.out) rfl ⟨rfl, HFIN.out.bel⟩
end Go.Proofs.Ytgigccgklahddaa
