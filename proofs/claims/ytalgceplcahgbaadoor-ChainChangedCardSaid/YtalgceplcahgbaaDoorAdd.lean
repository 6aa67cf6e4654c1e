/- Clip, Add. -/
import Derived.Test.YtalgceplcahgbaaDoorPrt
import Derived.ArgAppend
namespace Go.Proofs.YtalgceplcahgbaaDoor
open Go.RowKit Go.Shelf

set_option maxRecDepth 20000 in
theorem clip_any (A : Option Addr) (n cap : Nat) (w : World) (h : n ≤ cap) (hc : cap ≤ 9223372036854775807) (hA : A = none → n = 0 ∧ cap = 0) :
    Calls Tryd.prog 69 #[.slice A n cap] w fun e w' => e = .returned (.slice A n n) ∧ w = w' := by
  cases A with
  | none =>
    obtain ⟨rfl, rfl⟩ := hA rfl
    go_enter Tryd.func69, Tryd.ntmps69
    go_wp2_with fail
    go_ret
    exact ⟨rfl, rfl⟩
  | some a =>
    go_enter Tryd.func69, Tryd.ntmps69
    go_wp2_with fail
    go_ret
    exact ⟨rfl, rfl⟩

/-- What Add answers. -/
def addA (l : List Ln) (node : Int) (data : List UInt8) : Option Ln × Int :=
  if chkA hd0 hdL l ≠ 0 then (none, chkA hd0 hdL l)
  else if admB l node data = false then (none, 1)
  else if l.length = 1024 then (none, 2)
  else (some ⟨node, l.length, hdA l, data⟩, 0)
/-- What Add hands back: nothing and a reason, or the longer list. -/
def AddP (l : List Lr) (D : Option Addr) (c : Nat) (w : World) : Option Ln × Int → Ending → World → Prop
  | .mk none v, e, w' => e = .returned (.tuple #[.slice none 0 0, .int .i64 v]) ∧ Below w.heap.size w w'
  | .mk (some x) v, e, w' => ∃ (g cap : Nat), e = .returned (.tuple #[.slice (some ⟨g, 0, none⟩) (l ++ [Lr.mk x D c]).length cap, .int .i64 v]) ∧ Lks w' (some ⟨g, 0, none⟩) (l ++ [Lr.mk x D c]) ∧ (l ++ [Lr.mk x D c]).length ≤ cap ∧ cap ≤ 9223372036854775807 ∧ Below w.heap.size w w'

theorem Tryd.info60 : (Tryd.prog.info? 60).map (fun i => (i.zero, i.size, i.bytes)) = some (some (.agg z60.toArray), 35, 72) := by kernel_rfl
theorem hinfo60 : ∃ i0, Tryd.prog.info? 60 = some i0 ∧ i0.zero = some (.agg z60.toArray) ∧ i0.size = 35 ∧ i0.bytes = 72 := by
  obtain ⟨i0, hi, hz0, hz1, hz2⟩ := info_parts Tryd.info60
  exact ⟨i0, hi, hz0, hz1, hz2⟩

theorem built60v (n0 n1 : Int) (x0 x1 x2 x3 x4 x5 x6 x7 x8 x9 x10 x11 x12 x13 x14 x15 x16 x17 x18 x19 x20 x21 x22 x23 x24 x25 x26 x27 x28 x29 x30 x31 : Value) (D : Option Addr) (n c : Nat) : Tryd.prog.built 60 [(0, .int .i64 n0), (1, .int .i64 n1), (2, .agg #[x0, x1, x2, x3, x4, x5, x6, x7, x8, x9, x10, x11, x12, x13, x14, x15, x16, x17, x18, x19, x20, x21, x22, x23, x24, x25, x26, x27, x28, x29, x30, x31]), (3, .slice D n c)] = some #[.int .i64 n0, .int .i64 n1, x0, x1, x2, x3, x4, x5, x6, x7, x8, x9, x10, x11, x12, x13, x14, x15, x16, x17, x18, x19, x20, x21, x22, x23, x24, x25, x26, x27, x28, x29, x30, x31, .slice D n c] := by kernel_rfl
theorem list32 {l : List UInt8} (h : l.length = 32) : ∃ x0 x1 x2 x3 x4 x5 x6 x7 x8 x9 x10 x11 x12 x13 x14 x15 x16 x17 x18 x19 x20 x21 x22 x23 x24 x25 x26 x27 x28 x29 x30 x31 : UInt8, l = [x0, x1, x2, x3, x4, x5, x6, x7, x8, x9, x10, x11, x12, x13, x14, x15, x16, x17, x18, x19, x20, x21, x22, x23, x24, x25, x26, x27, x28, x29, x30, x31] := by
  rcases l with _ | ⟨x0, l⟩
  · simp at h
  simp only [List.length_cons, Nat.reduceEqDiff] at h
  rcases l with _ | ⟨x1, l⟩
  · simp at h
  simp only [List.length_cons, Nat.reduceEqDiff] at h
  rcases l with _ | ⟨x2, l⟩
  · simp at h
  simp only [List.length_cons, Nat.reduceEqDiff] at h
  rcases l with _ | ⟨x3, l⟩
  · simp at h
  simp only [List.length_cons, Nat.reduceEqDiff] at h
  rcases l with _ | ⟨x4, l⟩
  · simp at h
  simp only [List.length_cons, Nat.reduceEqDiff] at h
  rcases l with _ | ⟨x5, l⟩
  · simp at h
  simp only [List.length_cons, Nat.reduceEqDiff] at h
  rcases l with _ | ⟨x6, l⟩
  · simp at h
  simp only [List.length_cons, Nat.reduceEqDiff] at h
  rcases l with _ | ⟨x7, l⟩
  · simp at h
  simp only [List.length_cons, Nat.reduceEqDiff] at h
  rcases l with _ | ⟨x8, l⟩
  · simp at h
  simp only [List.length_cons, Nat.reduceEqDiff] at h
  rcases l with _ | ⟨x9, l⟩
  · simp at h
  simp only [List.length_cons, Nat.reduceEqDiff] at h
  rcases l with _ | ⟨x10, l⟩
  · simp at h
  simp only [List.length_cons, Nat.reduceEqDiff] at h
  rcases l with _ | ⟨x11, l⟩
  · simp at h
  simp only [List.length_cons, Nat.reduceEqDiff] at h
  rcases l with _ | ⟨x12, l⟩
  · simp at h
  simp only [List.length_cons, Nat.reduceEqDiff] at h
  rcases l with _ | ⟨x13, l⟩
  · simp at h
  simp only [List.length_cons, Nat.reduceEqDiff] at h
  rcases l with _ | ⟨x14, l⟩
  · simp at h
  simp only [List.length_cons, Nat.reduceEqDiff] at h
  rcases l with _ | ⟨x15, l⟩
  · simp at h
  simp only [List.length_cons, Nat.reduceEqDiff] at h
  rcases l with _ | ⟨x16, l⟩
  · simp at h
  simp only [List.length_cons, Nat.reduceEqDiff] at h
  rcases l with _ | ⟨x17, l⟩
  · simp at h
  simp only [List.length_cons, Nat.reduceEqDiff] at h
  rcases l with _ | ⟨x18, l⟩
  · simp at h
  simp only [List.length_cons, Nat.reduceEqDiff] at h
  rcases l with _ | ⟨x19, l⟩
  · simp at h
  simp only [List.length_cons, Nat.reduceEqDiff] at h
  rcases l with _ | ⟨x20, l⟩
  · simp at h
  simp only [List.length_cons, Nat.reduceEqDiff] at h
  rcases l with _ | ⟨x21, l⟩
  · simp at h
  simp only [List.length_cons, Nat.reduceEqDiff] at h
  rcases l with _ | ⟨x22, l⟩
  · simp at h
  simp only [List.length_cons, Nat.reduceEqDiff] at h
  rcases l with _ | ⟨x23, l⟩
  · simp at h
  simp only [List.length_cons, Nat.reduceEqDiff] at h
  rcases l with _ | ⟨x24, l⟩
  · simp at h
  simp only [List.length_cons, Nat.reduceEqDiff] at h
  rcases l with _ | ⟨x25, l⟩
  · simp at h
  simp only [List.length_cons, Nat.reduceEqDiff] at h
  rcases l with _ | ⟨x26, l⟩
  · simp at h
  simp only [List.length_cons, Nat.reduceEqDiff] at h
  rcases l with _ | ⟨x27, l⟩
  · simp at h
  simp only [List.length_cons, Nat.reduceEqDiff] at h
  rcases l with _ | ⟨x28, l⟩
  · simp at h
  simp only [List.length_cons, Nat.reduceEqDiff] at h
  rcases l with _ | ⟨x29, l⟩
  · simp at h
  simp only [List.length_cons, Nat.reduceEqDiff] at h
  rcases l with _ | ⟨x30, l⟩
  · simp at h
  simp only [List.length_cons, Nat.reduceEqDiff] at h
  rcases l with _ | ⟨x31, l⟩
  · simp at h
  simp only [List.length_cons, Nat.reduceEqDiff] at h
  obtain rfl := List.eq_nil_of_length_eq_zero h
  exact ⟨x0, x1, x2, x3, x4, x5, x6, x7, x8, x9, x10, x11, x12, x13, x14, x15, x16, x17, x18, x19, x20, x21, x22, x23, x24, x25, x26, x27, x28, x29, x30, x31, rfl⟩
theorem built60 (node no : Int) (hd : List UInt8) (h : hd.length = 32) (D : Option Addr) (data : List UInt8) (c : Nat) : Tryd.prog.built 60 [(0, .int .i64 node), (1, .int .i64 no), (2, dv hd), (3, .slice D data.length c)] = some (Lr.mk ⟨node, no, hd, data⟩ D c).cs.toArray := by
  obtain ⟨x0, x1, x2, x3, x4, x5, x6, x7, x8, x9, x10, x11, x12, x13, x14, x15, x16, x17, x18, x19, x20, x21, x22, x23, x24, x25, x26, x27, x28, x29, x30, x31, rfl⟩ := list32 h
  exact built60v node no _ _ _ _ _ _ _ _ _ _ _ _ _ _ _ _ _ _ _ _ _ _ _ _ _ _ _ _ _ _ _ _ D data.length c
theorem run_build60 {o : Oper} {a : Act} (x y z u : Operand) (ho : o.op = .build 60 #[(0, x), (1, y), (2, z), (3, u)]) (node no : Int) (hd : List UInt8) (h : hd.length = 32) (D : Option Addr) (data : List UInt8) (c : Nat)
    (hx : a.eval x = .int .i64 node) (hy : a.eval y = .int .i64 no) (hz : a.eval z = dv hd) (hu : a.eval u = .slice D data.length c) (w : World) : (execOp a.eval o).run Tryd.prog w = .ok (.value (.agg (Lr.mk ⟨node, no, hd, data⟩ D c).cs.toArray)) w := by
  unfold execOp
  have := run_build (P := Tryd.prog) w 60 #[(0, .int .i64 node), (1, .int .i64 no), (2, dv hd), (3, .slice D data.length c)] _ (built60 node no hd h D data c)
  simp [ho, hx, hy, hz, hu, this]
theorem wpList_build60 {ops : Array Oper} {Q : Exit → Act → World → Prop} {o : Oper} {rest : List Oper} {a : Act} {w : World} (hw : Region.wanted o (yielded ops a.tmps) = true) (x y z u : Operand) (ho : o.op = .build 60 #[(0, x), (1, y), (2, z), (3, u)]) (node no : Int) (hd : List UInt8) (h : hd.length = 32) (D : Option Addr) (data : List UInt8) (c : Nat)
    (hx : a.eval x = .int .i64 node) (hy : a.eval y = .int .i64 no) (hz : a.eval z = dv hd) (hu : a.eval u = .slice D data.length c)
    (hk : wpList Tryd.prog ops Q rest (a.put o.dst (.agg (Lr.mk ⟨node, no, hd, data⟩ D c).cs.toArray)) w) : wpList Tryd.prog ops Q (o :: rest) a w :=
  wpList_of_wp hw (by unfold Oper.wp; rw [run_build60 x y z u ho node no hd h D data c hx hy hz hu w]; exact hk)

theorem filled60 (n0 n1 : Int) (x0 x1 x2 x3 x4 x5 x6 x7 x8 x9 x10 x11 x12 x13 x14 x15 x16 x17 x18 x19 x20 x21 x22 x23 x24 x25 x26 x27 x28 x29 x30 x31 : Value) (D : Option Addr) (n c : Nat) : Instr.fill (fun i => some (i * 35, 35)) ((Array.range (1 * 35)).map fun k => z60.toArray[k % z60.toArray.size]!) [(0, .agg #[.int .i64 n0, .int .i64 n1, x0, x1, x2, x3, x4, x5, x6, x7, x8, x9, x10, x11, x12, x13, x14, x15, x16, x17, x18, x19, x20, x21, x22, x23, x24, x25, x26, x27, x28, x29, x30, x31, .slice D n c])] = some #[.int .i64 n0, .int .i64 n1, x0, x1, x2, x3, x4, x5, x6, x7, x8, x9, x10, x11, x12, x13, x14, x15, x16, x17, x18, x19, x20, x21, x22, x23, x24, x25, x26, x27, x28, x29, x30, x31, .slice D n c] := by kernel_rfl
theorem filledL (r : Lr) (h : r.x.prev.length = 32) : Instr.fill (fun i => some (i * 35, 35)) ((Array.range (1 * 35)).map fun k => z60.toArray[k % z60.toArray.size]!) [(0, .agg r.cs.toArray)] = some r.cs.toArray := by
  obtain ⟨⟨node, no, prev, data⟩, D, c⟩ := r
  obtain ⟨x0, x1, x2, x3, x4, x5, x6, x7, x8, x9, x10, x11, x12, x13, x14, x15, x16, x17, x18, x19, x20, x21, x22, x23, x24, x25, x26, x27, x28, x29, x30, x31, rfl⟩ := list32 h
  exact filled60 node no _ _ _ _ _ _ _ _ _ _ _ _ _ _ _ _ _ _ _ _ _ _ _ _ _ _ _ _ _ _ _ _ D data.length c
theorem run_slice60 (w : World) (r : Lr) (h : r.x.prev.length = 32) : (Instr.buildSlice 49 1 #[(0, .agg r.cs.toArray)]).run Tryd.prog w = .ok (.slice (some ⟨w.heap.size, 0, none⟩) 1 1) (w.alloc (.cells r.cs.toArray 60)) := by
  obtain ⟨i60, hi0, hz0, hz1, hz2⟩ := hinfo60
  have hf := filledL r h
  have hsz : (sizeOf 60).run Tryd.prog w = .ok 35 w := by simp [sizeOf, typeInfo, hi0, hz1]
  have hzv : (zeroValue 60).run Tryd.prog w = .ok (.agg z60.toArray) w := by simp [zeroValue, typeInfo, hi0, hz0]
  unfold Instr.buildSlice
  simp only [Sem.run_bind, run_underlying Tryd.underlying49, Result.andThen_ok, hsz, if_neg (show ¬ 1 * 35 > 2 ^ 24 by decide), if_neg (show ¬ 1 * 35 = 0 by decide), hzv, Sem.run_pure]
  rw [show (Value.agg z60.toArray).cells = z60.toArray from rfl, hf]
  simp [newRow]
theorem wpList_slice60 {ops : Array Oper} {Q : Exit → Act → World → Prop} {o : Oper} {rest : List Oper} {a : Act} {w : World} (hw : Region.wanted o (yielded ops a.tmps) = true) (x : Operand) (ho : o.op = .buildSlice 49 1 #[(0, x)]) (r : Lr) (h : r.x.prev.length = 32)
    (hx : a.eval x = r.v) (hk : wpList Tryd.prog ops Q rest (a.put o.dst (.slice (some ⟨w.heap.size, 0, none⟩) 1 1)) (w.alloc (.cells r.cs.toArray 60))) : wpList Tryd.prog ops Q (o :: rest) a w :=
  wpList_of_wp hw (by
    unfold Oper.wp execOp
    have := run_slice60 w r h
    simp only [Lr.v] at hx
    simp [ho, hx, this]
    exact hk)
theorem below_grown {w w' : World} (h : w.grownBy w' none) : Below w.heap.size w w' := ⟨h.os, h.tape, h.output, h.size, fun i hi => h.block i hi (by simp)⟩
theorem range_app {w : World} {b : Nat} : ∀ {o : Nat} {x y : List Value}, w.rangeAt b o x → w.rangeAt b (o + x.length) y → w.rangeAt b o (x ++ y) := fun {o x y} h k j v hv => by
  by_cases hj : j < x.length
  · rw [List.getElem?_append_left hj] at hv
    exact h j v hv
  · rw [List.getElem?_append_right (by omega)] at hv
    have := k _ v hv
    rwa [show o + x.length + (j - x.length) = o + j by omega] at this
/-- The cells of links in a row. -/
def lcs (l : List Lr) : List Value := (l.map Lr.cs).flatten
theorem lcs_cons (r : Lr) (l : List Lr) : lcs (r :: l) = r.cs ++ lcs l := by simp [lcs]
theorem lcs_app (l : List Lr) (r : Lr) : lcs (l ++ [r]) = lcs l ++ r.cs := by simp [lcs]
theorem lcs_len : ∀ {l : List Lr}, (∀ r ∈ l, r.x.prev.length = 32) → (lcs l).length = l.length * 35
  | [], _ => rfl
  | r :: l, h => by
    have h1 : r.cs.length = 35 := by simp [Lr.cs, bc_len, h r (by simp)]
    rw [lcs_cons, List.length_append, h1, lcs_len fun q hq => h q (by simp [hq]), List.length_cons]
    omega
theorem lcs_range {w : World} {b : Nat} : ∀ {l : List Lr} {o : Nat}, (∀ r ∈ l, r.x.prev.length = 32) → (∀ i (h : i < l.length), w.rangeAt b (o + i * 35) (l[i]).cs) → w.rangeAt b o (lcs l)
  | [], o, _, _ => fun j v hv => by simp [lcs] at hv
  | r :: l, o, h, k => by
    have h1 : r.cs.length = 35 := by simp [Lr.cs, bc_len, h r (by simp)]
    rw [lcs_cons]
    have k0 := k 0 (by simp)
    rw [Nat.zero_mul, Nat.add_zero] at k0
    refine range_app k0 (h1 ▸ lcs_range (fun q hq => h q (by simp [hq])) fun i hi => ?_)
    have := k (i + 1) (by simpa using hi)
    rwa [show o + (i + 1) * 35 = o + 35 + i * 35 by omega] at this
theorem range_lcs {w : World} {b : Nat} : ∀ {l : List Lr} {o : Nat}, (∀ r ∈ l, r.x.prev.length = 32) → w.rangeAt b o (lcs l) → ∀ i (h : i < l.length), w.rangeAt b (o + i * 35) (l[i]).cs
  | r :: l, o, h, k, 0, _ => fun j v hv => by
    have hv' : r.cs[j]? = some v := hv
    have := k j v (by rw [lcs_cons, List.getElem?_append_left (List.getElem?_eq_some_iff.1 hv').1]; exact hv')
    rwa [Nat.zero_mul, Nat.add_zero]
  | r :: l, o, h, k, i + 1, hi => by
    have h1 : r.cs.length = 35 := by simp [Lr.cs, bc_len, h r (by simp)]
    have := range_lcs (w := w) (b := b) (l := l) (o := o + 35) (fun q hq => h q (by simp [hq])) (fun j v hv => by
      have := k (35 + j) v (by rw [lcs_cons, List.getElem?_append_right (by omega), h1, Nat.add_sub_cancel_left]; exact hv)
      rwa [show o + (35 + j) = o + 35 + j by omega] at this) i (by simpa using hi)
    rwa [show o + (i + 1) * 35 = o + 35 + i * 35 by omega]
set_option maxRecDepth 100000 in
/-- Append of a link to a list that is full: all lies anew. -/
theorem wpList_append_link {ops : Array Oper} {rest : List Oper} {o : Oper} {a : Act} {Q : Exit → Act → World → Prop} (w : World) (hg : o.guard = none) (s x : Operand) (hop : o.op = Op.call { callee := Callee.builtin Builtin.append, args := #[s, x], argTypes := #[49, 49] })
    (A : Option Addr) (l : List Lr) (hl : Lks w A l) (hs : a.eval s = .slice A l.length l.length) (hA : A = none → l.length = 0) (Y : Nat) (hx : a.eval x = .slice (some ⟨Y, 0, none⟩) 1 1) (r : Lr) (hY : Blk w Y 60 r.cs) (hr : r.In w) (hl2 : l.length ≤ 1048576)
    (hK : ∀ g cap w', Below w.heap.size w w' → Lks w' (some ⟨g, 0, none⟩) (l ++ [r]) → l.length + 1 ≤ cap → cap ≤ 9223372036854775807 → wpList Tryd.prog ops Q rest (a.put o.dst (.slice (some ⟨g, 0, none⟩) (l.length + 1) cap)) w') :
    wpList Tryd.prog ops Q (o :: rest) a w := by
  obtain ⟨i60, hi0, hz0, hz1, hz2⟩ := hinfo60
  have hp : ∀ q ∈ l, q.x.prev.length = 32 := fun q hq => (hl.each q hq).p32
  have hp' : ∀ q ∈ l ++ [r], q.x.prev.length = 32 := fun q hq => by
    rcases List.mem_append.1 hq with hq | hq
    · exact hp q hq
    · rw [List.mem_singleton.1 hq]; exact hr.p32
  refine wpList_append_grows w hg s x 49 hop 60 i60 _ 35 72 Tryd.underlying49 hi0 hz0 hz1 hz2 (by kernel_rfl) (by omega) A l.length l.length (lcs l) hs (fun h => ⟨hA h, hA h⟩) (lcs_len hp) (fun b hb j u hu => ?_) ⟨Y, 0, none⟩ 1 1 r.cs hx (by rw [Lr.cs_len hr]) (fun j u hu => by rw [Addr.add_mid, Nat.zero_add]; exact (hY.cell j).trans hu) (Lr.cs_one r) (by omega) (by unfold maxLen; omega) (by omega) ?_
  · have hne : l ≠ [] := by intro e; subst e; simp [lcs] at hu
    obtain ⟨b', o', h1, h2, h3⟩ := hl.cel hne
    rw [hb] at h1
    injection h1 with h1
    subst h1
    rw [Addr.add_mid]
    exact lcs_range hp h3 j u hu
  · intro v' w' hown hgr
    have hB := below_grown hgr
    have hlen : (lcs l ++ r.cs).length = (l.length + 1) * 35 := by rw [List.length_append, lcs_len hp, Lr.cs_len hr]; omega
    rcases id hown.2 with ⟨rfl, h0⟩ | ⟨g, cap, cur, rfl, hb, hg2, hn, hcap, hsz, htake⟩
    · omega
    · refine hK g cap w' hB ⟨fun _ => ⟨g, 0, rfl, (Array.getElem?_eq_some_iff.1 hg2).1, fun i hi => ?_⟩, fun q hq => ?_⟩ hn (by unfold maxLen at hcap; omega)
      · refine range_lcs hp' (fun j v hv => ?_) i hi
        rw [lcs_app] at hv
        have hj := (List.getElem?_eq_some_iff.1 hv).1
        have := World.ownsRow.cellAt hown j (by omega)
        rw [Nat.zero_add, this]
        exact hv
      · rcases List.mem_append.1 hq with hq | hq
        · exact (hl.each q hq).below hB
        · rw [List.mem_singleton.1 hq]; exact hr.below hB

set_option maxRecDepth 20000 in
set_option maxHeartbeats 3200000 in
theorem add_any (A D : Option Addr) (l : List Lr) (ca c : Nat) (node : Int) (data : List UInt8) (w : World) (hT : Tab w) (hl : Lks w A l) (hlc : l.length ≤ ca) (hcx : ca ≤ 9223372036854775807) (hs : Short l) (hA : A = none → ca = 0)
    (hn : -9223372036854775808 ≤ node ∧ node ≤ 9223372036854775807) (hd : Src w D data.length c data) (hdc : data.length ≤ c) (hcc : c ≤ 9223372036854775807) :
    Calls Tryd.prog 39 #[.slice A l.length ca, .int .i64 node, .slice D data.length c] w (AddP l D c w (addA (lnks l) node data)) := by
  have HT := hide hT
  have HL := hide hl
  have HS := hide hs
  have HA := hide hA
  have HD := hide hd
  have HN := hide (And.intro hn (And.intro hdc hcc))
  have HLL := hide (lnks_len l)
  clear hT hl hs hA hd hn
  have HC := hide (check_any A l ca w HT.out HL.out hlc hcx HS.out)
  by_cases h0 : chkA hd0 hdL (lnks l) = 0
  · rw [h0] at HC
    cases had : admB (lnks l) node data with
    | false =>
      have HE := hide (show addA (lnks l) node data = (none, 1) by unfold addA; rw [if_neg (by simp [h0]), if_pos had])
      have HAD := hide (fun (W : World) (h : Lks W A l) => had ▸ admits_any A D l ca c node data W h (by omega))
      clear h0 had
      go_enter Tryd.func39, Tryd.ntmps39
      go_wp2_with fail
      refine HC.out.mono ?_
      rintro e w1 ⟨rfl, hb⟩
      have HB := hide hb
      clear hb HC
      go_wp2_with fail
      refine (HAD.out w1 (HL.out.below HB.out)).mono ?_
      rintro e w2 ⟨rfl, rfl⟩
      go_wp2_with fail
      go_ret2
      rw [HE.out]
      exact ⟨rfl, HB.out⟩
    | true =>
      have HAD := hide (fun (W : World) (h : Lks W A l) => had ▸ admits_any A D l ca c node data W h (by omega))
      by_cases h1 : l.length = 1024
      · have h1b : (((l.length : Nat) : Int) == 1024) = true := by simp [h1]
        have HE := hide (show addA (lnks l) node data = (none, 2) by unfold addA; rw [if_neg (by simp [h0]), if_neg (by simp [had]), if_pos (by rw [HLL.out]; exact h1)])
        clear h0 had h1
        go_enter Tryd.func39, Tryd.ntmps39
        go_wp2_with fail
        refine HC.out.mono ?_
        rintro e w1 ⟨rfl, hb⟩
        have HB := hide hb
        clear hb HC
        go_wp2_with fail
        refine (HAD.out w1 (HL.out.below HB.out)).mono ?_
        rintro e w2 ⟨rfl, rfl⟩
        go_wp2_with fail
        go_ret2
        rw [HE.out]
        exact ⟨rfl, HB.out⟩
      · have h1b : (((l.length : Nat) : Int) == 1024) = false := by simp; omega
        have HE := hide (show addA (lnks l) node data = (some ⟨node, l.length, hdA (lnks l), data⟩, 0) by unfold addA; rw [if_neg (by simp [h0]), if_neg (by simp [had]), if_neg (by rw [HLL.out]; exact h1), HLL.out])
        have HLN := hide (show l.length < 1024 by
          unfold chkA at h0
          rw [HLL.out] at h0
          split at h0
          · omega
          · omega)
        have H32 := hide (hdA_32 (lnks l))
        clear h0 had h1
        go_enter Tryd.func39, Tryd.ntmps39
        go_wp2_with fail
        refine HC.out.mono ?_
        rintro e w1 ⟨rfl, hb⟩
        have HB := hide hb
        clear hb HC
        go_wp2_with fail
        refine (HAD.out w1 (HL.out.below HB.out)).mono ?_
        rintro e w2 ⟨rfl, rfl⟩
        go_wp2_with fail
        refine (head_any A l ca w1 (HT.out.below HB.out) (HL.out.below HB.out) hlc hcx HS.out).mono ?_
        rintro e w2 ⟨rfl, hb⟩
        have HB2 := hide (below_one HB.out hb)
        clear hb HAD
        generalize hdA (lnks l) = hd at *
        have HIN := hide (show (Lr.mk ⟨node, l.length, hd, data⟩ D c).In w2 from ⟨H32.out, HN.out.1, by show -9223372036854775808 ≤ ((l.length : Nat) : Int) ∧ ((l.length : Nat) : Int) ≤ 9223372036854775807; omega, HD.out.below HB2.out, HN.out.2.1, HN.out.2.2⟩)
        have HZ60 := hide (size60 HIN.out)
        have HX3 := hide (show Blk ((w2.alloc (.cells z60.toArray 60)).setRow w2.heap.size (Lr.mk ⟨node, l.length, hd, data⟩ D c).cs.toArray) w2.heap.size 60 (Lr.mk ⟨node, l.length, hd, data⟩ D c).cs from (Blk.new w2 60 z60).row _)
        have HB3 := hide (show Below w2.heap.size w2 ((w2.alloc (.cells z60.toArray 60)).setRow w2.heap.size (Lr.mk ⟨node, l.length, hd, data⟩ D c).cs.toArray) from below_setRow (below_new w2 _) (Nat.le_refl _) _)
        have HCL := hide (fun (W : World) => clip_any A l.length ca W hlc hcx (fun h => by have := HA.out h; omega))
        go_wp2_with (first | (refine wpList_build60 rfl (.tmp 22) (.tmp 24) (.tmp 26) (.tmp 27) rfl node l.length hd H32.out D data c rfl rfl rfl rfl ?_) | (refine wpList_store_row rfl 60 (.tmp 8) (.tmp 28) rfl w2.heap.size (Lr.mk ⟨node, l.length, hd, data⟩ D c).cs.toArray rfl rfl 60 _ (heap_alloc_new w2 _) HZ60.out (by rw [show (Lr.mk ⟨node, l.length, hd, data⟩ D c).cs.toArray.size = 35 from by rw [List.size_toArray, Lr.cs_len HIN.out]]; rfl) (all_oneCell_toArray (Lr.cs_one _)) ?_))
        generalize hr : Lr.mk ⟨node, l.length, hd, data⟩ D c = r at *
        refine name_code ?_
        intro V hV
        have HXV := hide (show Blk V w2.heap.size 60 r.cs from by rw [hV.out]; exact HX3.out)
        have HBV0 := hide (show Below w.heap.size w V from by rw [hV.out]; exact below_one HB2.out HB3.out)
        have HRW := hide (show r.In V from by rw [hV.out]; exact HIN.out.below HB3.out)
        clear hV HX3 HB3 HIN
        have HBV := HBV0
        have HBD := hide (show Below V.heap.size V V.drew from (Below.refl _ _).drew)
        refine wp_region_plan4 (fun W' => Below V.heap.size V W') (.take 0 (.take 2 (.both 1 (.run 3 (.run 4 (.run 5 (.last 6 .done)))) 3 (.run 1 (.run 4 (.run 5 (.last 6 .done))))))) (by kernel_rfl) (by kernel_rfl) HBD.out ?_
        generalize V.drew = wD at HBD ⊢
        (refine plan4_take (o := ?_) (v := ?_) (by simp only [List.getElem?_toArray, List.getElem?_cons_zero]; rfl) (yields_run (by rfl) ?_) ?_; rotate_left; (focus (intro w' _; go_simp <;> with_reducible rfl)); (simp only [Act.put, List.setIfInBounds_toArray, List.set_cons_zero, List.set_cons_succ]))
        (refine plan4_take (o := ?_) (v := .agg r.cs.toArray) (by simp only [List.getElem?_toArray, List.getElem?_cons_succ, List.getElem?_cons_zero]; rfl) ?_ ?_; (focus (exact yieldsIf_load_mid (by rfl) 60 (.tmp 8) rfl w2.heap.size 0 rfl r.cs _ (fun W h j v hv => by rw [Nat.zero_add, (HXV.out.below h HXV.out.lt).cell j]; exact hv) Tryd.underlying60 rfl (size60 HRW.out))); (simp only [Act.put, List.setIfInBounds_toArray, List.set_cons_zero, List.set_cons_succ]))
        refine plan4_both (o1 := ?_) (o2 := ?_) (by simp only [List.getElem?_toArray, List.getElem?_cons_succ, List.getElem?_cons_zero]; rfl) (by simp only [List.getElem?_toArray, List.getElem?_cons_succ, List.getElem?_cons_zero]; rfl) ?_ ?_
        · intro R' HK
          go_wp2_with fail
          refine (HCL.out _).mono ?_
          rintro e w' ⟨rfl, rfl⟩
          go_wp2_with fail
          refine HK.out _ _ HBD.out ?_
          clear HK
          refine plan4_run (o := ?_) (by simp only [List.getElem?_toArray, List.getElem?_cons_succ, List.getElem?_cons_zero]; rfl) ?_
          intro R' HK
          go_wp2_with (refine wpList_slice60 rfl (.tmp 31) rfl r HRW.out.p32 rfl ?_)
          have HBX := hide (Blk.new wD 60 r.cs)
          have HBW := hide (below_one HBD.out (below_new wD (.cells r.cs.toArray 60)))
          refine HK.out _ _ HBW.out ?_
          clear HK
          refine plan4_run (o := ?_) (by simp only [List.getElem?_toArray, List.getElem?_cons_succ, List.getElem?_cons_zero]; rfl) ?_
          intro R' HK
          refine wpList_append_link _ rfl (.tmp 30) (.tmp 32) rfl A l (HL.out.below (below_one HBV.out HBW.out)) rfl (fun h => by have := HA.out h; omega) wD.heap.size rfl r HBX.out (HRW.out.below HBW.out) (by have := HLN.out; omega) ?_
          intro g cap w4 hb4 hl4 hc4 hc5
          have HB4 := hide (below_one (below_one HBV.out HBW.out) hb4)
          have HL4 := hide hl4
          have HC4 := hide (And.intro hc4 hc5)
          have HS4 := hide (below_one HBW.out hb4)
          clear hb4 hl4 hc4 hc5
          go_wp2_with fail
          refine HK.out _ _ HS4.out ?_
          clear HK
          refine plan4_run (o := ?_) (by simp only [List.getElem?_toArray, List.getElem?_cons_succ, List.getElem?_cons_zero]; rfl) ?_
          intro R' HK
          go_wp2_with fail
          refine HK.out _ _ HS4.out ?_
          clear HK
          refine plan4_last (o := ?_) (by simp only [List.getElem?_toArray, List.getElem?_cons_succ, List.getElem?_cons_zero]; rfl) ?_
          intro R' HK
          go_wp2_with fail
          refine HK.out _ _ ?_
          clear HK
          refine plan4_done ?_
          go_wp2_with fail
          go_ret2
          rw [HE.out]
          exact ⟨g, cap, by rw [List.length_append]; rfl, by rw [hr]; exact HL4.out, by rw [List.length_append]; exact HC4.out.1, HC4.out.2, HB4.out⟩
        · intro R' HK
          go_wp2_with (refine wpList_slice60 rfl (.tmp 31) rfl r HRW.out.p32 rfl ?_)
          have HBX := hide (Blk.new wD 60 r.cs)
          have HBW := hide (below_one HBD.out (below_new wD (.cells r.cs.toArray 60)))
          refine HK.out _ _ HBW.out ?_
          clear HK
          refine plan4_run (o := ?_) (by simp only [List.getElem?_toArray, List.getElem?_cons_succ, List.getElem?_cons_zero]; rfl) ?_
          intro R' HK
          go_wp2_with fail
          refine (HCL.out _).mono ?_
          rintro e w' ⟨rfl, rfl⟩
          go_wp2_with fail
          refine HK.out _ _ HBW.out ?_
          clear HK
          refine plan4_run (o := ?_) (by simp only [List.getElem?_toArray, List.getElem?_cons_succ, List.getElem?_cons_zero]; rfl) ?_
          intro R' HK
          refine wpList_append_link _ rfl (.tmp 30) (.tmp 32) rfl A l (HL.out.below (below_one HBV.out HBW.out)) rfl (fun h => by have := HA.out h; omega) wD.heap.size rfl r HBX.out (HRW.out.below HBW.out) (by have := HLN.out; omega) ?_
          intro g cap w4 hb4 hl4 hc4 hc5
          have HB4 := hide (below_one (below_one HBV.out HBW.out) hb4)
          have HL4 := hide hl4
          have HC4 := hide (And.intro hc4 hc5)
          have HS4 := hide (below_one HBW.out hb4)
          clear hb4 hl4 hc4 hc5
          go_wp2_with fail
          refine HK.out _ _ HS4.out ?_
          clear HK
          refine plan4_run (o := ?_) (by simp only [List.getElem?_toArray, List.getElem?_cons_succ, List.getElem?_cons_zero]; rfl) ?_
          intro R' HK
          go_wp2_with fail
          refine HK.out _ _ HS4.out ?_
          clear HK
          refine plan4_last (o := ?_) (by simp only [List.getElem?_toArray, List.getElem?_cons_succ, List.getElem?_cons_zero]; rfl) ?_
          intro R' HK
          go_wp2_with fail
          refine HK.out _ _ ?_
          clear HK
          refine plan4_done ?_
          go_wp2_with fail
          go_ret2
          rw [HE.out]
          exact ⟨g, cap, by rw [List.length_append]; rfl, by rw [hr]; exact HL4.out, by rw [List.length_append]; exact HC4.out.1, HC4.out.2, HB4.out⟩
  · have h0b : (chkA hd0 hdL (lnks l) != 0) = true := by simpa using h0
    have HE := hide (show addA (lnks l) node data = (none, chkA hd0 hdL (lnks l)) by unfold addA; rw [if_pos h0])
    generalize chkA hd0 hdL (lnks l) = v at *
    clear h0
    go_enter Tryd.func39, Tryd.ntmps39
    go_wp2_with fail
    refine HC.out.mono ?_
    rintro e w1 ⟨rfl, hb⟩
    have HB := hide hb
    clear hb HC
    go_wp2_with fail
    go_ret2
    rw [HE.out]
    exact ⟨rfl, HB.out⟩
end Go.Proofs.YtalgceplcahgbaaDoor
