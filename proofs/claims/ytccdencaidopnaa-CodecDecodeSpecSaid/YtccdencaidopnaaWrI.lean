/- writeInt and writeText of the program append the numeral, and the text. -/
import Derived.Test.YtccdencaidopnaaWr
namespace Go.Proofs.Ytccdencaidopnaa
open Go.RowKit

/-- Behind a call that appends to what is written, ahead of the store. -/
theorem WS.kept {base B : Nat} {v : Value} {xs : List UInt8} {w w1 : World} (h : WS base B v xs w) (hk : Keeps base w w1) :
    w1.cell? ⟨B, 0, none⟩ = some v ∧ w1.frozen? ⟨B, 0, none⟩ = false := by
  have hb : w1.heap[B]? = some (wtr v) := hk.other B _ 54 (by decide) h.block
  exact ⟨by rw [cell_of_row w1 B 0 _ _ _ hb]; rfl, frozen_of_row w1 B 0 _ _ hb⟩

set_option maxRecDepth 10000 in
set_option maxHeartbeats 1600000 in
theorem writeInt_any (base B : Nat) (v : Value) (xs : List UInt8) (t : VT) (w : World) (hbase : base ≤ w.heap.size) (hin : t.In w) (hstay : ∀ W, Below base w W → t.In W) (hlen : xs.length ≤ 4294967296) (hws : WS base B v xs w) :
    Calls Try.prog 40 #[.pointer (some ⟨B, 0, none⟩), t.val] w fun e w' => e = .returned (.tuple #[]) ∧ Below base w w' ∧ ∃ v', WS base B v' (xs ++ numeral (uns t.num)) w' := by
  have hst := St.start hws hin hbase
  have hBX : w.heap.size ≠ B := by have := hws.lt; omega
  have HS := hide hst
  obtain ⟨c0, f0, c2, _, _⟩ := hst.ws.cell
  obtain ⟨_, x1, _, _⟩ := hst.box.cells
  obtain ⟨_, hn, _, _⟩ := hin.facts
  have hu := uns_lt hn.1 hn.2
  clear hst
  rw [VT.val]
  go_enter Try.func40, Try.ntmps40
  go_wp2_with fail
  generalize w.alloc (.cells #[.int .i64 t.kind, .int .i64 t.num, .string t.str, t.sl] 24) = W1 at *
  generalize w.heap.size = X at *
  have hs1 := HS.out.size
  have hn2 : xs.length ≤ 8589934592 := by omega
  go_region_law (first
    | (go_simp; go_at_call 44; refine (unsignedForm_any _ _ (by omega) (by omega)).mono ?_; rintro e w' ⟨rfl, rfl⟩)
    | (go_simp; go_at_call 55; refine (appendNumeral_any base _ v xs _ W1.drew hu hs1 hn2 HS.out.drew.ws.own).mono ?_; rintro e w1 ⟨g1, cap, rfl, hown1, hk1⟩; obtain ⟨g0, g1⟩ := HS.out.drew.ws.kept hk1))
  all_goals (
    have hst2 := hide (St.store (ys := xs ++ numeral (uns t.num)) HS.out.drew hBX (fun W hW => hstay W (HS.out.drew.below.trans hW)) hk1 (by rw [List.length_append]; exact hown1))
    go_wp2_with fail
    go_end0
    exact ⟨rfl, hst2.out.below, _, hst2.out.ws⟩)

/-- 'append(b, s...)', s a string, at a step of a region that draws. -/
theorem step_append_string {P : Program} (w : World) {ops : Array Oper} {o : Oper} {a : Act} {K : Act → World → Prop} {Q : Exit → Act → World → Prop} {E : Prop} (hgd : o.guard = none) (sl x : Operand) (t u : TypeId)
    (ho : o.op = .call { callee := .builtin .append, args := #[sl, x], argTypes := #[t, u] })
    (base : Nat) (e : TypeId) (i : TypeInfo) (ht : P.underlying t = some (.slice e)) (hu : P.underlying u = some .string) (hi : P.info? e = some i) (hz : i.zero = some (.int .u8 0)) (hsize : i.size = 1) (hby : i.bytes = 1)
    (v : Value) (n : Nat) (xs : List Value) (hs : a.eval sl = v) (hown : w.ownsRow base e 1 v n xs) (s : ByteArray) (hx : a.eval x = .string s) (hn : 0 < n)
    (h63 : n + s.size ≤ maxLen) (hbytes : n + s.size ≤ 140737488355328) (hbase : base ≤ w.heap.size)
    (h : ∀ g cap w', w'.ownsRow base e 1 (.slice (some ⟨g, 0, none⟩) (n + s.size) cap) (n + s.size) (xs ++ Lib.strCells s) → w.grownBy w' v.ownBlock → K (a.put o.dst (.slice (some ⟨g, 0, none⟩) (n + s.size) cap)) w') :
    if Region.wanted o (yielded ops a.tmps) = true then Oper.wp P o a w K Q else E := by
  have hw : Region.wanted o (yielded ops a.tmps) = true := by simp [Region.wanted, hgd]
  rw [if_pos hw]
  obtain ⟨v', w', hr, h2, h3, _⟩ := Lib.run_append_own_string (P := P) w base t u o.type e i ht hu hi hz hsize hby v n xs hown s h63 hbytes hbase
  obtain ⟨g, cap, rfl, _, _⟩ := h2.form (by omega)
  unfold Oper.wp execOp
  simp only [ho, resolve, invoke, builtin, Sem.run_bind, Sem.run_pure, Result.andThen_ok, List.map_toArray, List.map_cons, List.map_nil, hs, hx, hr]
  exact h g cap w' h2 h3

set_option maxRecDepth 10000 in
set_option maxHeartbeats 1600000 in
theorem writeText_any (base B : Nat) (v : Value) (xs : List UInt8) (t : VT) (w : World) (hbase : base ≤ w.heap.size) (hin : t.In w) (hstay : ∀ W, Below base w W → t.In W) (hlen : xs.length + t.str.size ≤ 4294967296) (hws : WS base B v xs w) :
    Calls Try.prog 41 #[.pointer (some ⟨B, 0, none⟩), t.val] w fun e w' => e = .returned (.tuple #[]) ∧ Below base w w' ∧ ∃ v', WS base B v' (xs ++ (numeral t.str.size ++ t.str.data.toList)) w' := by
  obtain ⟨i0, hi0, hz0, hz1, hz2⟩ := info_parts Try.info5
  have HI := hide (And.intro hi0 (And.intro hz0 (And.intro hz1 hz2)))
  clear hi0 hz0 hz1 hz2
  have hst := St.start hws hin hbase
  have hBX : w.heap.size ≠ B := by have := hws.lt; omega
  have HS := hide hst
  obtain ⟨c0, f0, c2, _, _⟩ := hst.ws.cell
  obtain ⟨_, _, x2, _⟩ := hst.box.cells
  obtain ⟨_, _, hsz, _⟩ := hin.facts
  have hu : t.str.size < 18446744073709551616 := by omega
  have hnl := (numeral_len hu).2.1
  have hnl1 := (numeral_len hu).2.2
  clear hst
  rw [VT.val]
  go_enter Try.func41, Try.ntmps41
  go_wp2_with fail
  generalize w.alloc (.cells #[.int .i64 t.kind, .int .i64 t.num, .string t.str, t.sl] 24) = W1 at *
  generalize w.heap.size = X at *
  have hs1 := HS.out.size
  have hn2 : xs.length ≤ 8589934592 := by omega
  have hwr : IntKind.u64.wrap (t.str.size : Int) = t.str.size := by rw [IntKind.wrap_u64]; omega
  go_region_law ((go_simp; go_at_call 55; refine (appendNumeral_any base _ v xs _ W1.drew hu hs1 hn2 HS.out.drew.ws.own).mono ?_; rintro e w1 ⟨gb, cap, rfl, hown1, hk1⟩; obtain ⟨g0, g1⟩ := HS.out.drew.ws.kept hk1))
  all_goals (
    have hst2 := hide (St.store (ys := xs ++ numeral t.str.size) HS.out.drew hBX (fun W hW => hstay W (HS.out.drew.below.trans hW)) hk1 (by rw [List.length_append]; exact hown1))
    go_wp2_with fail
    generalize w1.setCell ⟨B, 0, none⟩ _ = W2 at *
    obtain ⟨d0, e0, _, _, _⟩ := hst2.out.ws.cell
    obtain ⟨_, _, y2, _⟩ := hst2.out.box.cells
    have hs2 := hst2.out.size
    have hn3 : xs.length + (numeral t.str.size).length + t.str.size ≤ 8589934592 := by omega
    have own2 := hide (show W2.drew.ownsRow base 5 1 (Value.slice (some ⟨gb, 0, none⟩) (xs.length + (numeral t.str.size).length) cap) (xs.length + (numeral t.str.size).length) (bs (xs ++ numeral t.str.size)) from by have := hst2.out.drew.ws.own; rwa [List.length_append] at this)
    go_region_law (refine step_append_string _ (by rfl) _ _ _ _ (by rfl) base 5 i0 Try.underlying27 Try.underlying9 HI.out.1 HI.out.2.1 HI.out.2.2.1 HI.out.2.2.2 _ _ (bs (xs ++ numeral t.str.size)) (by rfl) own2.out t.str (by rfl) (by omega) (by unfold maxLen; omega) (by omega) hs2 ?_; intro gc cap2 w2 hown2 hgrow2; obtain ⟨k0, k1⟩ := hst2.out.drew.ws.after hgrow2)
    all_goals (
      have hys : (xs ++ (numeral t.str.size ++ t.str.data.toList)).length = xs.length + (numeral t.str.size).length + t.str.size := by
        rw [List.length_append, List.length_append, ← Nat.add_assoc, Array.length_toList]; rfl
      have hst3 := hide (St.store (ys := xs ++ (numeral t.str.size ++ t.str.data.toList)) hst2.out.drew hBX (fun W hW => hstay W (hst2.out.drew.below.trans hW)) ((Keeps.refl base _).grown own2.out (Nat.le_refl _) hgrow2 hs2)
        (by rw [hys, ← List.append_assoc, bs_append]; exact hown2))
      clear hys
      go_wp2_with fail
      go_end0
      exact ⟨rfl, hst3.out.below, _, hst3.out.ws⟩))
end Go.Proofs.Ytccdencaidopnaa
