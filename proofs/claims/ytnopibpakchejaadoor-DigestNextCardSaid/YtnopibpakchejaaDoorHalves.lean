/- DigestHalves. -/
import Derived.Test.YtnopibpakchejaaDoorPlaces
import Derived.Test.YtnopibpakchejaaDoorInv
namespace Go.Proofs.YtnopibpakchejaaDoor
open Go.RowKit

theorem run_eql_op {o : Oper} {a : Act} (x y : Operand) (T : TypeId) (ho : o.op = .binOp .eql 26 x y T) (X Y : List UInt8) (hx : a.eval x = dv X) (hy : a.eval y = dv Y) (h1 : X.length = 32) (h2 : Y.length = 32) (v : Bool) (hv : v = (X == Y)) (w : World) : (execOp a.eval o).run Tryd.prog w = .ok (.value (.bool v)) w := by
  unfold execOp
  simp only [ho, hx, hy, Sem.run_bind, run_eqGuard_agg w .eql 26 x y _ _ Tryd.eqGuardType26, Result.andThen_ok, eql_dv X Y h1 h2 w, Sem.run_pure, hv]
theorem wpList_eql {ops : Array Oper} {Q : Exit → Act → World → Prop} {o : Oper} {rest : List Oper} {a : Act} {w : World} (hg : o.guard = none) (x y : Operand) (T : TypeId) (ho : o.op = .binOp .eql 26 x y T) (X Y : List UInt8) (hx : a.eval x = dv X) (hy : a.eval y = dv Y)
    (h1 : X.length = 32) (h2 : Y.length = 32) (v : Bool) (hv : v = (X == Y)) (h : wpList Tryd.prog ops Q rest (a.put o.dst (.bool v)) w) : wpList Tryd.prog ops Q (o :: rest) a w :=
  wpList_of_wp (by simp [Region.wanted, hg]) (by unfold Oper.wp; rw [run_eql_op x y T ho X Y hx hy h1 h2 v hv w]; exact h)

/-- A pointer to a block. -/
abbrev ptr (X : Nat) : Value := .pointer (some ⟨X, 0, none⟩)
/-- The value points to a block of a digest's size, and to a block that holds a digest. -/
def M8 (b : Nat) (v : Value) (W : World) : Prop := ∃ X, v = ptr X ∧ b ≤ X ∧ ∃ cs, Blk W X 26 cs ∧ cs.length = 32
def M10 (b : Nat) (D : List UInt8) (v : Value) (W : World) : Prop := ∃ X, v = ptr X ∧ b ≤ X ∧ Blk W X 26 (bc D)
theorem M8.below {b : Nat} {v : Value} {W W' : World} (h : M8 b v W) (hb : Below W.heap.size W W') : M8 b v W' := by
  obtain ⟨X, e, h1, cs, h2, h3⟩ := h
  exact ⟨X, e, h1, cs, h2.below hb h2.lt, h3⟩
theorem M10.below {b : Nat} {D : List UInt8} {v : Value} {W W' : World} (h : M10 b D v W) (hb : Below W.heap.size W W') : M10 b D v W' := by
  obtain ⟨X, e, h1, h2⟩ := h
  exact ⟨X, e, h1, h2.below hb h2.lt⟩
/-- Two variables: they lie apart. -/
def Two (u v : Value) (W : World) : Prop := (∀ X, u = ptr X → X < W.heap.size) ∧ (∀ X, v = ptr X → X < W.heap.size) ∧ (∀ X Y, u = ptr X → v = ptr Y → X ≠ Y)
theorem Two.none (W : World) : Two undef undef W := ⟨fun X e => (by cases e), fun X e => (by cases e), fun X Y e => (by cases e)⟩
theorem Two.below {u v : Value} {W W' : World} (h : Two u v W) (hb : Below W.heap.size W W') : Two u v W' := ⟨fun X e => Nat.lt_of_lt_of_le (h.1 X e) hb.size, fun X e => Nat.lt_of_lt_of_le (h.2.1 X e) hb.size, h.2.2⟩
theorem ptr_inj {X Y : Nat} (h : ptr X = ptr Y) : X = Y := by injection h with h; injection h with h; injection h
theorem Two.new1 {u v : Value} {W : World} (h : Two u v W) (o : Obj) : Two (ptr W.heap.size) v (W.alloc o) :=
  ⟨fun X e => by have := ptr_inj e; simp; omega, fun X e => by have := h.2.1 X e; simp; omega, fun X Y e f => by have := ptr_inj e; have := h.2.1 Y f; omega⟩
theorem Two.new2 {u v : Value} {W : World} (h : Two u v W) (o : Obj) : Two u (ptr W.heap.size) (W.alloc o) :=
  ⟨fun X e => by have := h.1 X e; simp; omega, fun X e => by have := ptr_inj e; simp; omega, fun X Y e f => by have := ptr_inj f; have := h.1 X e; omega⟩
theorem size_setCells (b : Nat) : ∀ (vs : List Value) (o : Nat) (w : World), (w.setCells b o vs).heap.size = w.heap.size
  | [], _, _ => rfl
  | v :: vs, o, w => by rw [World.setCells, size_setCells b vs]; simp [World.setCell]
theorem Two.set {u v : Value} {W : World} (h : Two u v W) (b : Nat) (vs : List Value) : Two u v (W.setCells b 0 vs) := by
  unfold Two
  rw [size_setCells]
  exact h
theorem M8.set {b X : Nat} {v : Value} {W : World} (h : M8 b v W) {vs : List Value} (hv : vs.length = 32) : M8 b v (W.setCells X 0 vs) := by
  obtain ⟨Y, e, h1, cs, h2, h3⟩ := h
  by_cases hXY : Y = X
  · subst hXY; exact ⟨Y, e, h1, vs, h2.setAll (by rw [h3, hv]), hv⟩
  · exact ⟨Y, e, h1, cs, h2.setCellsOther hXY _ _, h3⟩
theorem M10.set {b X : Nat} {D : List UInt8} {v : Value} {W : World} (h : M10 b D v W) (hne : ∀ Y, v = ptr Y → Y ≠ X) (vs : List Value) : M10 b D v (W.setCells X 0 vs) := by
  obtain ⟨Y, e, h1, h2⟩ := h
  exact ⟨Y, e, h1, h2.setCellsOther (hne Y e) _ _⟩
theorem M8.new (b T : Nat) (W : World) (hT : T = 26) (hb : b ≤ W.heap.size) (cs : List Value) (hc : cs.length = 32) : M8 b (ptr W.heap.size) (W.alloc (.cells cs.toArray T)) := by
  subst hT
  exact ⟨W.heap.size, rfl, hb, cs, Blk.new W 26 cs, hc⟩

/-- Two digests in memory, and what is new. -/
abbrev RS2 (w : World) (X Y base : Nat) (D E : List UInt8) (W : World) : Prop := Hid (Blk W X 26 (bc D) ∧ Blk W Y 26 (bc E) ∧ Below w.heap.size w W ∧ w.heap.size ≤ base ∧ X < base ∧ Y < base ∧ base ≤ W.heap.size)
theorem RS2.keep {w W W' : World} {X Y base : Nat} {D E : List UInt8} (hb : Below W.heap.size W W') (h : RS2 w X Y base D E W) : RS2 w X Y base D E W' :=
  hide ⟨h.1.below hb h.1.lt, h.2.1.below hb h.2.1.lt, below_one h.2.2.1 hb, h.2.2.2.1, h.2.2.2.2.1, h.2.2.2.2.2.1, Nat.le_trans h.2.2.2.2.2.2 hb.size⟩
theorem RS2.grow {w W W' : World} {X Y base e size n : Nat} {D E : List UInt8} {v : Value} {xs : List Value} (hg : W.grownBy W' v.ownBlock) (ho : W.ownsRow base e size v n xs) (h : RS2 w X Y base D E W) : RS2 w X Y base D E W' := by
  have hr : ∀ k, v.ownBlock = some k → base ≤ k := fun k hk => (ho.lt k hk).1
  obtain ⟨h1, h2, h3, h4, h5, h6, h7⟩ := h
  exact hide ⟨(hg.block X h1.lt (by intro e; have := hr X e.symm; omega)).trans h1, (hg.block Y h2.lt (by intro e; have := hr Y e.symm; omega)).trans h2, h3.grown hg h3.size fun k hk => by have := hr k hk; omega, h4, h5, h6, Nat.le_trans h7 hg.size⟩
theorem RS2.bel {w W : World} {X Y base : Nat} {D E : List UInt8} (h : RS2 w X Y base D E W) : Below w.heap.size w W := h.2.2.1
theorem RS2.size {w W : World} {X Y base : Nat} {D E : List UInt8} (h : RS2 w X Y base D E W) : base ≤ W.heap.size := h.2.2.2.2.2.2
theorem RS2.src1 {w W : World} {X Y base : Nat} {D E : List UInt8} (h : RS2 w X Y base D E W) (hD : D.length = 32) : Src W (some ⟨X, 0, none⟩) 32 32 D := ⟨hD.symm, Sb.of h.1.bs, fun h => by cases h⟩
theorem RS2.src2 {w W : World} {X Y base : Nat} {D E : List UInt8} (h : RS2 w X Y base D E W) (hE : E.length = 32) : Src W (some ⟨Y, 0, none⟩) 32 32 E := ⟨hE.symm, Sb.of h.2.1.bs, fun h => by cases h⟩

/-- What a law knows when the list is there. -/
structure Got (w W : World) (A : Option Addr) (c : Nat) (L : List (List UInt8)) : Prop where
  bel : Below w.heap.size w W
  src : DSrc W A L.length c L

set_option maxRecDepth 10000 in
set_option maxHeartbeats 4000000 in
theorem halves_two (a : Option Addr) (n cap : Nat) (l : List UInt8) (w : World) (hT : Tab w) (hS : Src w a n cap l) (hn : n ≤ 9223372036854775807) (h2 : 2 ≤ (digsOf l).length) :
    Calls Tryd.prog 7 #[.slice a n cap] w (LawPost w) := by
  have HT := hide hT
  have HSA := hide (sane_any w hT)
  have HDG := hide (fun (W : World) (hW : Below w.heap.size w W) => digestsOf_any a n cap l W (hS.sb.below hW) hS.len hn)
  have HDL := hide (And.intro (digsOf_len l) (digsOf_d32 l))
  have hk24 := digsOf_len l
  clear hT hS
  generalize digsOf l = L at *
  obtain ⟨N, hN⟩ : ∃ N, L.length = N := ⟨_, rfl⟩
  have HN := hide hN
  rw [hN] at hk24 h2
  clear hN
  go_enter Tryd.func7, Tryd.ntmps7
  go_wp2_with fail
  with_reducible refine HSA.out.mono ?_
  rintro e w1 ⟨rfl, hb⟩
  have HB1 := hide hb
  clear hb
  go_wp2_with fail
  with_reducible refine (HDG.out _ HB1.out).mono ?_
  rintro e w2 ⟨v, rfl, hown, hb⟩
  have HB2 := hide (below_one HB1.out hb)
  obtain ⟨A, c, rfl, hD⟩ := own_dsrc hown HDL.out.2 rfl
  have HDS := hide hD
  rw [HN.out]
  rw [HN.out] at HDS
  clear hown hb hD HB1 HSA HDG
  go_wp2_with fail
  go_loop [4] (fun v => IsP N v) (fun v => N - (intOf v).toNat)
  case atStart => exact ⟨1, 0, rfl, rfl, by omega⟩
  case round =>
    obtain ⟨q, j, rfl, hq, hqn⟩ := hrel
    have HQ := hide hq
    have hq1 : 1 ≤ q := by rw [hq]; exact Nat.two_pow_pos j
    clear hq
    by_cases hlt : 2 * q < N
    · have h5 : 2 * (q : Int) < (N : Int) := by omega
      go_wp2_with fail
      go_round
      case rel => exact ⟨2 * q, j + 1, val_num (by omega), by rw [HQ.out, Nat.pow_succ]; omega, hlt⟩
      case measure => simp [intOf]; omega
    · have HE := hide (hp_of HQ.out hqn (by omega))
      have h4 : ¬ (2 * (q : Int) < (N : Int)) := by omega
      go_wp2_with fail
      obtain ⟨b, o, rfl, hBs⟩ := HDS.out.ds.at HDS.out.d32 (by rw [HN.out]; omega)
      have hqN : q < N := hqn
      have HT2 := hide (HT.out.below HB2.out)
      have blt : b < w2.heap.size := hBs.lt (by rw [HDS.out.d32.flat, HN.out]; omega)
      have HTL := hide (fun (W : World) (hW : Below w2.heap.size w2 W) => tree_any (L.take q) q c (some ⟨b, o, none⟩) W (HT2.out.below hW) (HDS.out.d32.take _) (Ds.of (bs_take HDS.out.d32 (hBs.below hW blt) _)) (by rw [List.length_take, HN.out]; omega) (by omega) (by have := HDS.out.le; omega) HDS.out.top)
      have HTR := hide (fun (W : World) (hW : Below w2.heap.size w2 W) => tree_any (L.drop q) (N - q) (c - q) (some ⟨b, o + q * 32, none⟩) W (HT2.out.below hW) (HDS.out.d32.drop _) (Ds.of (by rw [Nat.mul_comm]; exact bs_drop HDS.out.d32 (hBs.below hW blt) _)) (by rw [List.length_drop, HN.out]) (by omega) (by have := HDS.out.le; omega) (by have := HDS.out.top; omega))
      clear hBs
      have hNc := HDS.out.le
      have i1 : (0 : Int) ≤ (q : Int) := by omega
      have i2 : (q : Int) ≤ (N : Int) := by omega
      have i3 : (q : Int) ≤ (c : Int) := by omega
      have i4 : (N : Int) ≤ (c : Int) := by omega
      have i5 : ¬ c = q := by omega
      refine wp_region_inv (fun ac W => ∃ x5 x6 x35 x36 x37 x38 x39 x40 x41 x42 : Value, ac = ⟨#[Value.slice a n cap, undef, Value.bool false, Value.slice (some ⟨b, o, none⟩) N c, Value.int IntKind.i64 (q : Nat), x5, x6, Value.bool true, Value.bool false, Value.slice a n cap, Value.slice (some ⟨b, o, none⟩) N c, Value.slice (some ⟨b, o, none⟩) N c, Value.int IntKind.i64 (N : Nat), Value.bool false, Value.bool false, undef, undef, undef, undef, Value.bool false, Value.bool false, undef, undef, undef, undef, undef, undef, undef, Value.int IntKind.i64 (q : Nat), Value.int IntKind.i64 (2 * (q : Int)), Value.slice (some ⟨b, o, none⟩) N c, Value.int IntKind.i64 (N : Nat), Value.bool false, u33, u34, x35, x36, x37, x38, x39, x40, x41, x42, undef, undef, undef, undef, undef, undef, undef, undef, undef], []⟩ ∧ Below w2.heap.size w2 W ∧ Two x5 x6 W)
        (fun i ac W => match i with
        | 0 => ac.eval (.tmp 35) = .slice (some ⟨b, o, none⟩) N c
        | 1 => ac.eval (.tmp 36) = .int .i64 (q : Nat)
        | 2 => ac.eval (.tmp 37) = .slice (some ⟨b, o, none⟩) q c
        | 3 => ac.eval (.tmp 38) = dv (treeL (L.take q))
        | 4 => ac.eval (.tmp 39) = .slice (some ⟨b, o, none⟩) N c
        | 5 => ac.eval (.tmp 40) = .int .i64 (q : Nat)
        | 6 => ac.eval (.tmp 41) = .slice (some ⟨b, o + q * 32, none⟩) (N - q) (c - q)
        | 7 => ac.eval (.tmp 42) = dv (treeL (L.drop q))
        | 8 => M8 w2.heap.size (ac.eval (.tmp 5)) W
        | 9 => M8 w2.heap.size (ac.eval (.tmp 6)) W
        | 10 => M10 w2.heap.size (treeL (L.take q)) (ac.eval (.tmp 5)) W
        | 11 => M10 w2.heap.size (treeL (L.drop q)) (ac.eval (.tmp 6)) W
        | _ => True)
        (by kernel_rfl) (by kernel_rfl) ⟨undef, undef, undef, undef, undef, undef, undef, undef, undef, undef, rfl, (Below.refl _ _).drew, Two.none _⟩ ?_ ?_
      · intro i op ho ac W hB hdep R HR
        obtain ⟨x5, x6, x35, x36, x37, x38, x39, x40, x41, x42, rfl, hbel, htwo⟩ := hB
        match i, ho with
        | 0, ho =>
          simp only [List.getElem?_cons_zero, Option.some.injEq] at ho
          subst ho
          go_wp2_with fail
          exact HR.out _ _ ⟨_, _, _, _, _, _, _, _, _, _, rfl, hbel, htwo⟩ rfl (fun j hj hne hno hI => by
            match j, hj, hne, hno, hI with
            | 0, _, hne, _, _ => exact absurd rfl hne
            | 1, _, _, hno, hI => exact hI
            | 2, _, _, hno, hI => exact hI
            | 3, _, _, hno, hI => exact hI
            | 4, _, _, hno, hI => exact hI
            | 5, _, _, hno, hI => exact hI
            | 6, _, _, hno, hI => exact hI
            | 7, _, _, hno, hI => exact hI
            | 8, _, _, hno, hI => exact hI
            | 9, _, _, hno, hI => exact hI
            | 10, _, _, hno, hI => exact hI
            | 11, _, _, hno, hI => exact hI
            | j + 12, hj, _, _, _ => exact absurd hj (by simp))
        | 1, ho =>
          simp only [List.getElem?_cons_succ, List.getElem?_cons_zero, Option.some.injEq] at ho
          subst ho
          go_wp2_with fail
          exact HR.out _ _ ⟨_, _, _, _, _, _, _, _, _, _, rfl, hbel, htwo⟩ rfl (fun j hj hne hno hI => by
            match j, hj, hne, hno, hI with
            | 0, _, _, hno, hI => exact hI
            | 1, _, hne, _, _ => exact absurd rfl hne
            | 2, _, _, hno, hI => exact hI
            | 3, _, _, hno, hI => exact hI
            | 4, _, _, hno, hI => exact hI
            | 5, _, _, hno, hI => exact hI
            | 6, _, _, hno, hI => exact hI
            | 7, _, _, hno, hI => exact hI
            | 8, _, _, hno, hI => exact hI
            | 9, _, _, hno, hI => exact hI
            | 10, _, _, hno, hI => exact hI
            | 11, _, _, hno, hI => exact hI
            | j + 12, hj, _, _, _ => exact absurd hj (by simp))
        | 2, ho =>
          simp only [List.getElem?_cons_succ, List.getElem?_cons_zero, Option.some.injEq] at ho
          subst ho
          obtain rfl : x35 = Value.slice (some ⟨b, o, none⟩) N c := hdep ⟨0, .data⟩ (by simp) rfl
          obtain rfl : x36 = Value.int .i64 (q : Nat) := hdep ⟨1, .data⟩ (by simp) rfl
          go_wp2_with fail
          exact HR.out _ _ ⟨_, _, _, _, _, _, _, _, _, _, rfl, hbel, htwo⟩ rfl (fun j hj hne hno hI => by
            match j, hj, hne, hno, hI with
            | 0, _, _, hno, hI => exact hI
            | 1, _, _, hno, hI => exact hI
            | 2, _, hne, _, _ => exact absurd rfl hne
            | 3, _, _, hno, hI => exact hI
            | 4, _, _, hno, hI => exact hI
            | 5, _, _, hno, hI => exact hI
            | 6, _, _, hno, hI => exact hI
            | 7, _, _, hno, hI => exact hI
            | 8, _, _, hno, hI => exact hI
            | 9, _, _, hno, hI => exact hI
            | 10, _, _, hno, hI => exact hI
            | 11, _, _, hno, hI => exact hI
            | j + 12, hj, _, _, _ => exact absurd hj (by simp))
        | 3, ho =>
          simp only [List.getElem?_cons_succ, List.getElem?_cons_zero, Option.some.injEq] at ho
          subst ho
          obtain rfl : x37 = Value.slice (some ⟨b, o, none⟩) q c := hdep ⟨2, .data⟩ (by simp) rfl
          have hbelH := hide hbel
          have htwoH := hide htwo
          clear hbel htwo
          go_wp2_with fail
          with_reducible refine (HTL.out _ (hbelH.out)).mono ?_
          rintro e W' ⟨rfl, hbw⟩
          have HBW := hide hbw
          clear hbw
          go_wp2_with fail
          have hbw := HBW.out
          exact HR.out _ _ ⟨_, _, _, _, _, _, _, _, _, _, rfl, below_one hbelH.out hbw, htwoH.out.below hbw⟩ rfl (fun j hj hne hno hI => by
            match j, hj, hne, hno, hI with
            | 0, _, _, hno, hI => exact hI
            | 1, _, _, hno, hI => exact hI
            | 2, _, _, hno, hI => exact hI
            | 3, _, hne, _, _ => exact absurd rfl hne
            | 4, _, _, hno, hI => exact hI
            | 5, _, _, hno, hI => exact hI
            | 6, _, _, hno, hI => exact hI
            | 7, _, _, hno, hI => exact hI
            | 8, _, _, hno, hI => exact hI.below hbw
            | 9, _, _, hno, hI => exact hI.below hbw
            | 10, _, _, hno, hI => exact hI.below hbw
            | 11, _, _, hno, hI => exact hI.below hbw
            | j + 12, hj, _, _, _ => exact absurd hj (by simp))
        | 4, ho =>
          simp only [List.getElem?_cons_succ, List.getElem?_cons_zero, Option.some.injEq] at ho
          subst ho
          go_wp2_with fail
          exact HR.out _ _ ⟨_, _, _, _, _, _, _, _, _, _, rfl, hbel, htwo⟩ rfl (fun j hj hne hno hI => by
            match j, hj, hne, hno, hI with
            | 0, _, _, hno, hI => exact hI
            | 1, _, _, hno, hI => exact hI
            | 2, _, _, hno, hI => exact hI
            | 3, _, _, hno, hI => exact hI
            | 4, _, hne, _, _ => exact absurd rfl hne
            | 5, _, _, hno, hI => exact hI
            | 6, _, _, hno, hI => exact hI
            | 7, _, _, hno, hI => exact hI
            | 8, _, _, hno, hI => exact hI
            | 9, _, _, hno, hI => exact hI
            | 10, _, _, hno, hI => exact hI
            | 11, _, _, hno, hI => exact hI
            | j + 12, hj, _, _, _ => exact absurd hj (by simp))
        | 5, ho =>
          simp only [List.getElem?_cons_succ, List.getElem?_cons_zero, Option.some.injEq] at ho
          subst ho
          go_wp2_with fail
          exact HR.out _ _ ⟨_, _, _, _, _, _, _, _, _, _, rfl, hbel, htwo⟩ rfl (fun j hj hne hno hI => by
            match j, hj, hne, hno, hI with
            | 0, _, _, hno, hI => exact hI
            | 1, _, _, hno, hI => exact hI
            | 2, _, _, hno, hI => exact hI
            | 3, _, _, hno, hI => exact hI
            | 4, _, _, hno, hI => exact hI
            | 5, _, hne, _, _ => exact absurd rfl hne
            | 6, _, _, hno, hI => exact hI
            | 7, _, _, hno, hI => exact hI
            | 8, _, _, hno, hI => exact hI
            | 9, _, _, hno, hI => exact hI
            | 10, _, _, hno, hI => exact hI
            | 11, _, _, hno, hI => exact hI
            | j + 12, hj, _, _, _ => exact absurd hj (by simp))
        | 6, ho =>
          simp only [List.getElem?_cons_succ, List.getElem?_cons_zero, Option.some.injEq] at ho
          subst ho
          obtain rfl : x39 = Value.slice (some ⟨b, o, none⟩) N c := hdep ⟨4, .data⟩ (by simp) rfl
          obtain rfl : x40 = Value.int .i64 (q : Nat) := hdep ⟨5, .data⟩ (by simp) rfl
          go_wp2_with fail
          exact HR.out _ _ ⟨_, _, _, _, _, _, _, _, _, _, rfl, hbel, htwo⟩ rfl (fun j hj hne hno hI => by
            match j, hj, hne, hno, hI with
            | 0, _, _, hno, hI => exact hI
            | 1, _, _, hno, hI => exact hI
            | 2, _, _, hno, hI => exact hI
            | 3, _, _, hno, hI => exact hI
            | 4, _, _, hno, hI => exact hI
            | 5, _, _, hno, hI => exact hI
            | 6, _, hne, _, _ => exact absurd rfl hne
            | 7, _, _, hno, hI => exact hI
            | 8, _, _, hno, hI => exact hI
            | 9, _, _, hno, hI => exact hI
            | 10, _, _, hno, hI => exact hI
            | 11, _, _, hno, hI => exact hI
            | j + 12, hj, _, _, _ => exact absurd hj (by simp))
        | 7, ho =>
          simp only [List.getElem?_cons_succ, List.getElem?_cons_zero, Option.some.injEq] at ho
          subst ho
          obtain rfl : x41 = Value.slice (some ⟨b, o + q * 32, none⟩) (N - q) (c - q) := hdep ⟨6, .data⟩ (by simp) rfl
          have hbelH := hide hbel
          have htwoH := hide htwo
          clear hbel htwo
          go_wp2_with fail
          with_reducible refine (HTR.out _ (hbelH.out)).mono ?_
          rintro e W' ⟨rfl, hbw⟩
          have HBW := hide hbw
          clear hbw
          go_wp2_with fail
          have hbw := HBW.out
          exact HR.out _ _ ⟨_, _, _, _, _, _, _, _, _, _, rfl, below_one hbelH.out hbw, htwoH.out.below hbw⟩ rfl (fun j hj hne hno hI => by
            match j, hj, hne, hno, hI with
            | 0, _, _, hno, hI => exact hI
            | 1, _, _, hno, hI => exact hI
            | 2, _, _, hno, hI => exact hI
            | 3, _, _, hno, hI => exact hI
            | 4, _, _, hno, hI => exact hI
            | 5, _, _, hno, hI => exact hI
            | 6, _, _, hno, hI => exact hI
            | 7, _, hne, _, _ => exact absurd rfl hne
            | 8, _, _, hno, hI => exact hI.below hbw
            | 9, _, _, hno, hI => exact hI.below hbw
            | 10, _, _, hno, hI => exact hI.below hbw
            | 11, _, _, hno, hI => exact hI.below hbw
            | j + 12, hj, _, _, _ => exact absurd hj (by simp))
        | 8, ho =>
          simp only [List.getElem?_cons_succ, List.getElem?_cons_zero, Option.some.injEq] at ho
          subst ho
          have hbelH := hide hbel
          have htwoH := hide htwo
          clear hbel htwo
          go_wp2_with fail
          have hbw := below_new W (.cells (List.replicate 32 (Value.int .u8 0)).toArray 26)
          exact HR.out _ _ ⟨_, _, _, _, _, _, _, _, _, _, rfl, below_one hbelH.out hbw, htwoH.out.new1 _⟩ (M8.new _ 26 W rfl hbelH.out.size (List.replicate 32 (Value.int .u8 0)) (by simp)) (fun j hj hne hno hI => by
            match j, hj, hne, hno, hI with
            | 0, _, _, hno, hI => exact hI
            | 1, _, _, hno, hI => exact hI
            | 2, _, _, hno, hI => exact hI
            | 3, _, _, hno, hI => exact hI
            | 4, _, _, hno, hI => exact hI
            | 5, _, _, hno, hI => exact hI
            | 6, _, _, hno, hI => exact hI
            | 7, _, _, hno, hI => exact hI
            | 8, _, hne, _, _ => exact absurd rfl hne
            | 9, _, _, hno, hI => exact hI.below hbw
            | 10, _, _, hno, hI => exact absurd rfl (hno _ rfl ⟨8, .data⟩ (by simp) rfl)
            | 11, _, _, hno, hI => exact hI.below hbw
            | j + 12, hj, _, _, _ => exact absurd hj (by simp))
        | 9, ho =>
          simp only [List.getElem?_cons_succ, List.getElem?_cons_zero, Option.some.injEq] at ho
          subst ho
          have hbelH := hide hbel
          have htwoH := hide htwo
          clear hbel htwo
          go_wp2_with fail
          have hbw := below_new W (.cells (List.replicate 32 (Value.int .u8 0)).toArray 26)
          exact HR.out _ _ ⟨_, _, _, _, _, _, _, _, _, _, rfl, below_one hbelH.out hbw, htwoH.out.new2 _⟩ (M8.new _ 26 W rfl hbelH.out.size (List.replicate 32 (Value.int .u8 0)) (by simp)) (fun j hj hne hno hI => by
            match j, hj, hne, hno, hI with
            | 0, _, _, hno, hI => exact hI
            | 1, _, _, hno, hI => exact hI
            | 2, _, _, hno, hI => exact hI
            | 3, _, _, hno, hI => exact hI
            | 4, _, _, hno, hI => exact hI
            | 5, _, _, hno, hI => exact hI
            | 6, _, _, hno, hI => exact hI
            | 7, _, _, hno, hI => exact hI
            | 8, _, _, hno, hI => exact hI.below hbw
            | 9, _, hne, _, _ => exact absurd rfl hne
            | 10, _, _, hno, hI => exact hI.below hbw
            | 11, _, _, hno, hI => exact absurd rfl (hno _ rfl ⟨9, .data⟩ (by simp) rfl)
            | j + 12, hj, _, _, _ => exact absurd hj (by simp))
        | 10, ho =>
          simp only [List.getElem?_cons_succ, List.getElem?_cons_zero, Option.some.injEq] at ho
          subst ho
          obtain ⟨X, hX, hbX, cs, hBX, hcs⟩ : M8 w2.heap.size x5 W := hdep ⟨8, .data⟩ (by simp) rfl
          obtain rfl : x5 = ptr X := hX
          obtain rfl : x38 = dv (treeL (L.take q)) := hdep ⟨3, .data⟩ (by simp) rfl
          have hlen : (bc (treeL (L.take q))).length = 32 := by rw [bc_len, treeL_len]
          have hsz : (bc (treeL (L.take q))).toArray.size = 32 := dv_size _ (treeL_len _)
          refine wpList_store_mid rfl 26 (.tmp 5) (.tmp 38) rfl X 0 (bc (treeL (L.take q))).toArray rfl rfl (by rw [hsz]; exact hBX.there hcs) (by rw [hsz]; exact Tryd.size26) (all_oneCell_toArray (bc_one _)) ?_
          exact HR.out _ _ ⟨_, _, _, _, _, _, _, _, _, _, rfl, below_setCells hbel hbX _ _, htwo.set _ _⟩ ⟨X, rfl, hbX, hBX.setAll (by rw [hcs, hlen])⟩ (fun j hj hne hno hI => by
            match j, hj, hne, hno, hI with
            | 0, _, _, hno, hI => exact hI
            | 1, _, _, hno, hI => exact hI
            | 2, _, _, hno, hI => exact hI
            | 3, _, _, hno, hI => exact hI
            | 4, _, _, hno, hI => exact hI
            | 5, _, _, hno, hI => exact hI
            | 6, _, _, hno, hI => exact hI
            | 7, _, _, hno, hI => exact hI
            | 8, _, _, hno, hI => exact M8.set hI (by rw [bc_len, treeL_len])
            | 9, _, _, hno, hI => exact M8.set hI (by rw [bc_len, treeL_len])
            | 10, _, hne, _, _ => exact absurd rfl hne
            | 11, _, _, hno, hI => exact M10.set hI (fun Y e => fun h => htwo.2.2 _ Y rfl e h.symm) _
            | j + 12, hj, _, _, _ => exact absurd hj (by simp))
        | 11, ho =>
          simp only [List.getElem?_cons_succ, List.getElem?_cons_zero, Option.some.injEq] at ho
          subst ho
          obtain ⟨X, hX, hbX, cs, hBX, hcs⟩ : M8 w2.heap.size x6 W := hdep ⟨9, .data⟩ (by simp) rfl
          obtain rfl : x6 = ptr X := hX
          obtain rfl : x42 = dv (treeL (L.drop q)) := hdep ⟨7, .data⟩ (by simp) rfl
          have hlen : (bc (treeL (L.drop q))).length = 32 := by rw [bc_len, treeL_len]
          have hsz : (bc (treeL (L.drop q))).toArray.size = 32 := dv_size _ (treeL_len _)
          refine wpList_store_mid rfl 26 (.tmp 6) (.tmp 42) rfl X 0 (bc (treeL (L.drop q))).toArray rfl rfl (by rw [hsz]; exact hBX.there hcs) (by rw [hsz]; exact Tryd.size26) (all_oneCell_toArray (bc_one _)) ?_
          exact HR.out _ _ ⟨_, _, _, _, _, _, _, _, _, _, rfl, below_setCells hbel hbX _ _, htwo.set _ _⟩ ⟨X, rfl, hbX, hBX.setAll (by rw [hcs, hlen])⟩ (fun j hj hne hno hI => by
            match j, hj, hne, hno, hI with
            | 0, _, _, hno, hI => exact hI
            | 1, _, _, hno, hI => exact hI
            | 2, _, _, hno, hI => exact hI
            | 3, _, _, hno, hI => exact hI
            | 4, _, _, hno, hI => exact hI
            | 5, _, _, hno, hI => exact hI
            | 6, _, _, hno, hI => exact hI
            | 7, _, _, hno, hI => exact hI
            | 8, _, _, hno, hI => exact M8.set hI (by rw [bc_len, treeL_len])
            | 9, _, _, hno, hI => exact M8.set hI (by rw [bc_len, treeL_len])
            | 10, _, _, hno, hI => exact M10.set hI (fun Y e => htwo.2.2 Y _ e rfl) _
            | 11, _, hne, _, _ => exact absurd rfl hne
            | j + 12, hj, _, _, _ => exact absurd hj (by simp))
        | i + 12, ho => simp at ho
      · intro ac W hB hI
        obtain ⟨x5, x6, x35, x36, x37, x38, x39, x40, x41, x42, rfl, hbel, htwo⟩ := hB
        obtain rfl : x35 = Value.slice (some ⟨b, o, none⟩) N c := hI 0 (by simp)
        obtain rfl : x36 = Value.int .i64 (q : Nat) := hI 1 (by simp)
        obtain rfl : x37 = Value.slice (some ⟨b, o, none⟩) q c := hI 2 (by simp)
        obtain rfl : x38 = dv (treeL (L.take q)) := hI 3 (by simp)
        obtain rfl : x39 = Value.slice (some ⟨b, o, none⟩) N c := hI 4 (by simp)
        obtain rfl : x40 = Value.int .i64 (q : Nat) := hI 5 (by simp)
        obtain rfl : x41 = Value.slice (some ⟨b, o + q * 32, none⟩) (N - q) (c - q) := hI 6 (by simp)
        obtain rfl : x42 = dv (treeL (L.drop q)) := hI 7 (by simp)
        obtain ⟨X, hX, hbX, hBX⟩ : M10 w2.heap.size (treeL (L.take q)) x5 W := hI 10 (by simp)
        obtain rfl : x5 = ptr X := hX
        obtain ⟨Y, hY, hbY, hBY⟩ : M10 w2.heap.size (treeL (L.drop q)) x6 W := hI 11 (by simp)
        obtain rfl : x6 = ptr Y := hY
        have HLE := hide (And.intro (treeL_len (L.take q)) (treeL_len (L.drop q)))
        have HMO := hide (show treeL L = tagd tNode (treeL (L.take q) ++ treeL (L.drop q)) by rw [treeL_more (by rw [HN.out]; exact h2), HN.out, HE.out])
        have HLE2 := hide (show 64 = (treeL (L.take q) ++ treeL (L.drop q)).length by rw [List.length_append, treeL_len, treeL_len])
        have HTF := hide (fun (W : World) (hW : Below w2.heap.size w2 W) => tree_any L N c (some ⟨b, o, none⟩) W (HT2.out.below hW) HDS.out.d32 (HDS.out.ds.below hW) HN.out.symm (by omega) hNc HDS.out.top)
        obtain ⟨base, hbase⟩ : ∃ base, base = W.heap.size := ⟨_, rfl⟩
        have HS0 : Hid (RS2 w2 X Y base (treeL (L.take q)) (treeL (L.drop q)) W) := hide (hide ⟨hBX, hBY, hbel, by rw [hbase]; exact hbel.size, by rw [hbase]; exact hBX.lt, by rw [hbase]; exact hBY.lt, by rw [hbase]; exact Nat.le_refl _⟩)
        clear hI hbel htwo hBX hBY HTL HTR hbase
        generalize treeL (L.take q) = D at *
        generalize treeL (L.drop q) = E at *
        go_wp2_with fail
        refine name_code ?_
        intro W4 HW4
        obtain rfl : W4 = W := HW4.out
        have HSD : Hid (RS2 w2 X Y base D E W4.drew) := hide (hide ⟨HS0.out.out.1.drew, HS0.out.out.2.1.drew, HS0.out.out.2.2.1.drew, HS0.out.out.2.2.2⟩)
        refine wp_region_plan (RS2 w2 X Y base D E) (.take 0 (.take 3 (.take 5 (.both 1 (.run 2 (.run 4 (.run 6 (.run 7 (.take 8 (.take 9 .done)))))) 2 (.run 1 (.run 4 (.run 6 (.run 7 (.take 8 (.take 9 .done)))))))))) (by kernel_rfl) (by kernel_rfl) HSD.out ?_
        (refine plan_take (o := ?_) (v := ?_) (by simp only [List.getElem?_toArray, List.getElem?_cons_zero]; rfl) (yields_run (by rfl) ?_) ?_; rotate_left; (focus (intro w' _; go_simp <;> with_reducible rfl)); (simp only [Act.put, List.setIfInBounds_toArray, List.set_cons_zero, List.set_cons_succ]))
        (refine plan_take (o := ?_) (v := ?_) (by simp only [List.getElem?_toArray, List.getElem?_cons_succ, List.getElem?_cons_zero]; rfl) (yields_run (by rfl) ?_) ?_; rotate_left; (focus (intro w' _; go_simp <;> with_reducible rfl)); (simp only [Act.put, List.setIfInBounds_toArray, List.set_cons_zero, List.set_cons_succ]))
        (refine plan_take (o := ?_) (v := ?_) (by simp only [List.getElem?_toArray, List.getElem?_cons_succ, List.getElem?_cons_zero]; rfl) (yields_run (by rfl) ?_) ?_; rotate_left; (focus (intro w' _; go_simp <;> with_reducible rfl)); (simp only [Act.put, List.setIfInBounds_toArray, List.set_cons_zero, List.set_cons_succ]))
        refine plan_both (o1 := ?_) (o2 := ?_) (by simp only [List.getElem?_toArray, List.getElem?_cons_succ, List.getElem?_cons_zero]; rfl) (by simp only [List.getElem?_toArray, List.getElem?_cons_succ, List.getElem?_cons_zero]; rfl) ?_ ?_
        · intro R HR
          go_wp2_with fail
          with_reducible refine (HTF.out _ HSD.out.bel).mono ?_
          rintro e wT ⟨rfl, hbT⟩
          have HST := hide (RS2.keep hbT HSD.out)
          go_wp2_with fail
          refine HR.out _ _ HST.out ?_
          refine plan_run (o := ?_) (by simp only [List.getElem?_toArray, List.getElem?_cons_succ, List.getElem?_cons_zero]; rfl) ?_
          clear HR
          intro R HR
          go_wp2_with fail
          have HS2 := hide (RS2.keep (below_new wT (.cells #[] 5)) HST.out)
          have hown := own_empty wT base 5 5 1 rfl HST.out.size
          refine HR.out _ _ HS2.out ?_
          clear HR hbT HST
          refine plan_run (o := ?_) (by simp only [List.getElem?_toArray, List.getElem?_cons_succ, List.getElem?_cons_zero]; rfl) ?_
          intro R HR
          refine wpList_of_wp (by rfl) (wp_app5 (.tmp 45) (.tmp 46) rfl base _ 0 [] rfl hown (some ⟨X, 0, none⟩) 32 32 D rfl (HS2.out.src1 HLE.out.1) (by decide) HS2.out.size 32 D rfl rfl ?_)
          intro v1 wA hA1 hgA
          have HS3 := hide (RS2.grow hgA hown HS2.out)
          clear hgA hown HS2
          obtain ⟨gA, cA, rfl, hA2, hA3, _, hA4, hA5⟩ := own_form hA1 (by decide)
          refine HR.out _ _ HS3.out ?_
          clear HR
          (simp only [Act.put, List.setIfInBounds_toArray, List.set_cons_zero, List.set_cons_succ])
          refine plan_run (o := ?_) (by simp only [List.getElem?_toArray, List.getElem?_cons_succ, List.getElem?_cons_zero]; rfl) ?_
          intro R HR
          refine wpList_of_wp (by rfl) (wp_app5 (.tmp 47) (.tmp 48) rfl base _ 32 D rfl hA2 (some ⟨Y, 0, none⟩) 32 32 E rfl (HS3.out.src2 HLE.out.2) (by decide) HS3.out.size 64 (D ++ E) rfl rfl ?_)
          intro v2 wB hB1 hgB
          have HS4 := hide (RS2.grow hgB hA2 HS3.out)
          clear hgB hA1 hA2 hA3 hA4 hA5 HS3
          obtain ⟨gB, cB, rfl, hB2, hB3, _, hB4, hB5⟩ := own_form hB1 (by decide)
          refine HR.out _ _ HS4.out ?_
          clear HR
          (simp only [Act.put, List.setIfInBounds_toArray, List.set_cons_zero, List.set_cons_succ])
          refine plan_run (o := ?_) (by simp only [List.getElem?_toArray, List.getElem?_cons_succ, List.getElem?_cons_zero]; rfl) ?_
          intro R HR
          have HB3 := hide hB3
          clear hB1 hB2 hB3 hB4 hB5
          go_wp2_with fail
          with_reducible refine (tag_node gB 64 cB (D ++ E) _ (HT2.out.below HS4.out.bel) HB3.out HLE2.out (by decide)).mono ?_
          rintro e wC ⟨rfl, hbC⟩
          have HS5 := hide (RS2.keep hbC HS4.out)
          clear hbC HS4 HB3
          go_wp2_with fail
          refine HR.out _ _ HS5.out ?_
          clear HR
          (refine plan_take (o := ?_) (by simp only [List.getElem?_toArray, List.getElem?_cons_succ, List.getElem?_cons_zero]; rfl) (yields_eql (by rfl) (.tmp 44) (.tmp 50) 26 rfl (treeL L) (tagd tNode (D ++ E)) rfl rfl (treeL_len _) (tagd_len _ _) true (by rw [HMO.out]; simp)) ?_; (simp only [Act.put, List.setIfInBounds_toArray, List.set_cons_zero, List.set_cons_succ]))
          (refine plan_take (o := ?_) (v := ?_) (by simp only [List.getElem?_toArray, List.getElem?_cons_succ, List.getElem?_cons_zero]; rfl) (yields_run (by rfl) ?_) ?_; rotate_left; (focus (intro w' _; go_simp <;> with_reducible rfl)); (simp only [Act.put, List.setIfInBounds_toArray, List.set_cons_zero, List.set_cons_succ]))
          refine plan_done ?_
          go_wp2_with fail
          go_ret
          exact ⟨rfl, below_one HB2.out HS5.out.bel⟩
        · intro R HR
          go_wp2_with fail
          have HST := hide (RS2.keep (below_new W4 (.cells #[] 5)).drew HS0.out)
          have hown0 := (own_empty W4 base 5 5 1 rfl HS0.out.size).drew
          refine HR.out _ _ HST.out ?_
          refine plan_run (o := ?_) (by simp only [List.getElem?_toArray, List.getElem?_cons_succ, List.getElem?_cons_zero]; rfl) ?_
          clear HR
          intro R HR
          go_wp2_with fail
          with_reducible refine (HTF.out _ HST.out.bel).mono ?_
          rintro e wT ⟨rfl, hbT⟩
          have HS2 := hide (RS2.keep hbT HST.out)
          have hown := own_below hown0 hbT
          clear hown0 HST hbT
          go_wp2_with fail
          refine HR.out _ _ HS2.out ?_
          clear HR
          refine plan_run (o := ?_) (by simp only [List.getElem?_toArray, List.getElem?_cons_succ, List.getElem?_cons_zero]; rfl) ?_
          intro R HR
          refine wpList_of_wp (by rfl) (wp_app5 (.tmp 45) (.tmp 46) rfl base _ 0 [] rfl hown (some ⟨X, 0, none⟩) 32 32 D rfl (HS2.out.src1 HLE.out.1) (by decide) HS2.out.size 32 D rfl rfl ?_)
          intro v1 wA hA1 hgA
          have HS3 := hide (RS2.grow hgA hown HS2.out)
          clear hgA hown HS2
          obtain ⟨gA, cA, rfl, hA2, hA3, _, hA4, hA5⟩ := own_form hA1 (by decide)
          refine HR.out _ _ HS3.out ?_
          clear HR
          (simp only [Act.put, List.setIfInBounds_toArray, List.set_cons_zero, List.set_cons_succ])
          refine plan_run (o := ?_) (by simp only [List.getElem?_toArray, List.getElem?_cons_succ, List.getElem?_cons_zero]; rfl) ?_
          intro R HR
          refine wpList_of_wp (by rfl) (wp_app5 (.tmp 47) (.tmp 48) rfl base _ 32 D rfl hA2 (some ⟨Y, 0, none⟩) 32 32 E rfl (HS3.out.src2 HLE.out.2) (by decide) HS3.out.size 64 (D ++ E) rfl rfl ?_)
          intro v2 wB hB1 hgB
          have HS4 := hide (RS2.grow hgB hA2 HS3.out)
          clear hgB hA1 hA2 hA3 hA4 hA5 HS3
          obtain ⟨gB, cB, rfl, hB2, hB3, _, hB4, hB5⟩ := own_form hB1 (by decide)
          refine HR.out _ _ HS4.out ?_
          clear HR
          (simp only [Act.put, List.setIfInBounds_toArray, List.set_cons_zero, List.set_cons_succ])
          refine plan_run (o := ?_) (by simp only [List.getElem?_toArray, List.getElem?_cons_succ, List.getElem?_cons_zero]; rfl) ?_
          intro R HR
          have HB3 := hide hB3
          clear hB1 hB2 hB3 hB4 hB5
          go_wp2_with fail
          with_reducible refine (tag_node gB 64 cB (D ++ E) _ (HT2.out.below HS4.out.bel) HB3.out HLE2.out (by decide)).mono ?_
          rintro e wC ⟨rfl, hbC⟩
          have HS5 := hide (RS2.keep hbC HS4.out)
          clear hbC HS4 HB3
          go_wp2_with fail
          refine HR.out _ _ HS5.out ?_
          clear HR
          (refine plan_take (o := ?_) (by simp only [List.getElem?_toArray, List.getElem?_cons_succ, List.getElem?_cons_zero]; rfl) (yields_eql (by rfl) (.tmp 44) (.tmp 50) 26 rfl (treeL L) (tagd tNode (D ++ E)) rfl rfl (treeL_len _) (tagd_len _ _) true (by rw [HMO.out]; simp)) ?_; (simp only [Act.put, List.setIfInBounds_toArray, List.set_cons_zero, List.set_cons_succ]))
          (refine plan_take (o := ?_) (v := ?_) (by simp only [List.getElem?_toArray, List.getElem?_cons_succ, List.getElem?_cons_zero]; rfl) (yields_run (by rfl) ?_) ?_; rotate_left; (focus (intro w' _; go_simp <;> with_reducible rfl)); (simp only [Act.put, List.setIfInBounds_toArray, List.set_cons_zero, List.set_cons_succ]))
          refine plan_done ?_
          go_wp2_with fail
          go_ret
          exact ⟨rfl, below_one HB2.out HS5.out.bel⟩
end Go.Proofs.YtnopibpakchejaaDoor
