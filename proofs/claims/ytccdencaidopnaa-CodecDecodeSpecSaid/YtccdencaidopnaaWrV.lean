/- (*writer).value of the program: it appends the kind's byte and calls the function of the kind. -/
import Derived.Test.YtccdencaidopnaaWr
namespace Go.Proofs.Ytccdencaidopnaa
open Go.RowKit

set_option maxRecDepth 10000 in
set_option maxHeartbeats 1600000 in
theorem value_1 (base B : Nat) (v : Value) (xs : List UInt8) (t : VT) (w : World) (hbase : base ≤ w.heap.size) (hin : t.In w) (hstay : ∀ W, Below base w W → t.In W) (h1 : t.kind = 1) (hlen : xs.length ≤ 4294967296) (hws : WS base B v xs w)
    (ih : ∀ v' W, WS base B v' (xs ++ [1]) W → t.In W → Below base w W → Calls Try.prog 40 #[.pointer (some ⟨B, 0, none⟩), t.val] W fun e w' => e = .returned (.tuple #[]) ∧ Below base W w' ∧ ∃ v', WS base B v' (xs ++ t.enc) w') :
    Calls Try.prog 28 #[.pointer (some ⟨B, 0, none⟩), t.val] w fun e w' => e = .returned (.tuple #[]) ∧ Below base w w' ∧ ∃ v', WS base B v' (xs ++ t.enc) w' := by
  obtain ⟨i0, hi0, hz0, hz1, hz2⟩ := info_parts Try.info5
  have IH := fun v' W a b c => hide (ih v' W a b c)
  clear ih
  have hst := St.start hws hin hbase
  have hBX : w.heap.size ≠ B := by have := hws.lt; omega
  have HS := hide hst
  obtain ⟨c0, f0, c2, _, _⟩ := hst.ws.cell
  obtain ⟨x0, _, _, _⟩ := hst.box.cells
  clear hst
  have H1 := hide h1
  clear h1
  rw [VT.val]
  go_enter Try.func28, Try.ntmps28
  go_wp2_with fail
  generalize w.alloc (.cells #[.int .i64 t.kind, .int .i64 t.num, .string t.str, t.sl] 24) = W1 at *
  generalize w.heap.size = X at *
  have hs1 := HS.out.size
  rw [H1.out] at x0
  have ca : ∀ o, (W1.alloc o).cell? ⟨B, 0, none⟩ = some v := fun o => (HS.out.ws.alloc o).cell.1
  go_region_law (refine step_append_lies _ (by rfl) _ _ _ (by rfl) base 5 i0 _ 1 1 Try.underlying27 hi0 hz0 hz1 hz2 rfl (by omega) v xs.length (bs xs) (by rfl) ((HS.out.ws.own.alloc _).drew) ⟨W1.heap.size, 0, none⟩ 1 1 [.int .u8 1] (by rfl) (by rfl) (World.news_of_block (cs := #[.int .u8 1]) (t := 5) (fr := (0, 0)) (heap_alloc_new W1 _)) (by simp [Value.oneCell']) (by omega) (by unfold maxLen; omega) (by omega) (by simp; omega) (W1.heap.size + 1) (by simp) ?_; intro gg cap w1 hown1 hgrow hat hlt; obtain ⟨g0, g1⟩ := (HS.out.ws.alloc _).drew.after hgrow)
  all_goals (
    have hst2 := hide (St.store (ys := xs ++ [1]) ((HS.out.alloc (.cells #[.int .u8 1] 5)).drew) hBX (fun W hW => hstay W (((HS.out.alloc _).drew).below.trans hW))
      ((Keeps.refl base _).grown (((HS.out.alloc _).drew).ws.own) (Nat.le_refl _) hgrow (by simp; omega)) (by rw [bs_append, List.length_append]; exact hown1))
    go_wp2_with fail
    generalize w1.setCell ⟨B, 0, none⟩ _ = W2 at *
    obtain ⟨d0, e0, d2, _, _⟩ := hst2.out.ws.cell
    obtain ⟨y0, y1, y2, y3⟩ := hst2.out.box.cells
    rw [H1.out] at y0
    go_still_tail 9, (by kernel_rfl)
    change wpList _ _ _ _ _ W2.drew
    have hst3 := hide hst2.out.drew
    have hc := (IH _ _ hst3.out.ws hst3.out.hin hst3.out.below).out
    rw [VT.val, H1.out] at hc
    have HC := hide hc
    clear hc d0 e0 d2 y0 y1 y2 y3
    generalize W2.drew = W3 at *
    go_wp2_with (go_at_call 40; refine HC.out.mono ?_; rintro e w' ⟨rfl, hb', hws'⟩)
    go_end0
    exact ⟨rfl, hst3.out.below.trans hb', hws'⟩)
set_option maxRecDepth 10000 in
set_option maxHeartbeats 1600000 in
theorem value_2 (base B : Nat) (v : Value) (xs : List UInt8) (t : VT) (w : World) (hbase : base ≤ w.heap.size) (hin : t.In w) (hstay : ∀ W, Below base w W → t.In W) (h1 : t.kind = 2) (hlen : xs.length ≤ 4294967296) (hws : WS base B v xs w)
    (ih : ∀ v' W, WS base B v' (xs ++ [2]) W → t.In W → Below base w W → Calls Try.prog 41 #[.pointer (some ⟨B, 0, none⟩), t.val] W fun e w' => e = .returned (.tuple #[]) ∧ Below base W w' ∧ ∃ v', WS base B v' (xs ++ t.enc) w') :
    Calls Try.prog 28 #[.pointer (some ⟨B, 0, none⟩), t.val] w fun e w' => e = .returned (.tuple #[]) ∧ Below base w w' ∧ ∃ v', WS base B v' (xs ++ t.enc) w' := by
  obtain ⟨i0, hi0, hz0, hz1, hz2⟩ := info_parts Try.info5
  have IH := fun v' W a b c => hide (ih v' W a b c)
  clear ih
  have hst := St.start hws hin hbase
  have hBX : w.heap.size ≠ B := by have := hws.lt; omega
  have HS := hide hst
  obtain ⟨c0, f0, c2, _, _⟩ := hst.ws.cell
  obtain ⟨x0, _, _, _⟩ := hst.box.cells
  clear hst
  have H1 := hide h1
  clear h1
  rw [VT.val]
  go_enter Try.func28, Try.ntmps28
  go_wp2_with fail
  generalize w.alloc (.cells #[.int .i64 t.kind, .int .i64 t.num, .string t.str, t.sl] 24) = W1 at *
  generalize w.heap.size = X at *
  have hs1 := HS.out.size
  rw [H1.out] at x0
  have ca : ∀ o, (W1.alloc o).cell? ⟨B, 0, none⟩ = some v := fun o => (HS.out.ws.alloc o).cell.1
  go_region_law (refine step_append_lies _ (by rfl) _ _ _ (by rfl) base 5 i0 _ 1 1 Try.underlying27 hi0 hz0 hz1 hz2 rfl (by omega) v xs.length (bs xs) (by rfl) ((HS.out.ws.own.alloc _).drew) ⟨W1.heap.size, 0, none⟩ 1 1 [.int .u8 2] (by rfl) (by rfl) (World.news_of_block (cs := #[.int .u8 2]) (t := 5) (fr := (0, 0)) (heap_alloc_new W1 _)) (by simp [Value.oneCell']) (by omega) (by unfold maxLen; omega) (by omega) (by simp; omega) (W1.heap.size + 1) (by simp) ?_; intro gg cap w1 hown1 hgrow hat hlt; obtain ⟨g0, g1⟩ := (HS.out.ws.alloc _).drew.after hgrow)
  all_goals (
    have hst2 := hide (St.store (ys := xs ++ [2]) ((HS.out.alloc (.cells #[.int .u8 2] 5)).drew) hBX (fun W hW => hstay W (((HS.out.alloc _).drew).below.trans hW))
      ((Keeps.refl base _).grown (((HS.out.alloc _).drew).ws.own) (Nat.le_refl _) hgrow (by simp; omega)) (by rw [bs_append, List.length_append]; exact hown1))
    go_wp2_with fail
    generalize w1.setCell ⟨B, 0, none⟩ _ = W2 at *
    obtain ⟨d0, e0, d2, _, _⟩ := hst2.out.ws.cell
    obtain ⟨y0, y1, y2, y3⟩ := hst2.out.box.cells
    rw [H1.out] at y0
    go_still_tail 9, (by kernel_rfl)
    change wpList _ _ _ _ _ W2.drew
    have hst3 := hide hst2.out.drew
    have hc := (IH _ _ hst3.out.ws hst3.out.hin hst3.out.below).out
    rw [VT.val, H1.out] at hc
    have HC := hide hc
    clear hc d0 e0 d2 y0 y1 y2 y3
    generalize W2.drew = W3 at *
    go_wp2_with (go_at_call 41; refine HC.out.mono ?_; rintro e w' ⟨rfl, hb', hws'⟩)
    go_end0
    exact ⟨rfl, hst3.out.below.trans hb', hws'⟩)
set_option maxRecDepth 10000 in
set_option maxHeartbeats 1600000 in
theorem value_3 (base B : Nat) (v : Value) (xs : List UInt8) (t : VT) (w : World) (hbase : base ≤ w.heap.size) (hin : t.In w) (hstay : ∀ W, Below base w W → t.In W) (h1 : t.kind = 3) (hlen : xs.length ≤ 4294967296) (hws : WS base B v xs w)
    (ih : ∀ v' W, WS base B v' (xs ++ [3]) W → t.In W → Below base w W → Calls Try.prog 42 #[.pointer (some ⟨B, 0, none⟩), t.val] W fun e w' => e = .returned (.tuple #[]) ∧ Below base W w' ∧ ∃ v', WS base B v' (xs ++ t.enc) w') :
    Calls Try.prog 28 #[.pointer (some ⟨B, 0, none⟩), t.val] w fun e w' => e = .returned (.tuple #[]) ∧ Below base w w' ∧ ∃ v', WS base B v' (xs ++ t.enc) w' := by
  obtain ⟨i0, hi0, hz0, hz1, hz2⟩ := info_parts Try.info5
  have IH := fun v' W a b c => hide (ih v' W a b c)
  clear ih
  have hst := St.start hws hin hbase
  have hBX : w.heap.size ≠ B := by have := hws.lt; omega
  have HS := hide hst
  obtain ⟨c0, f0, c2, _, _⟩ := hst.ws.cell
  obtain ⟨x0, _, _, _⟩ := hst.box.cells
  clear hst
  have H1 := hide h1
  clear h1
  rw [VT.val]
  go_enter Try.func28, Try.ntmps28
  go_wp2_with fail
  generalize w.alloc (.cells #[.int .i64 t.kind, .int .i64 t.num, .string t.str, t.sl] 24) = W1 at *
  generalize w.heap.size = X at *
  have hs1 := HS.out.size
  rw [H1.out] at x0
  have ca : ∀ o, (W1.alloc o).cell? ⟨B, 0, none⟩ = some v := fun o => (HS.out.ws.alloc o).cell.1
  go_region_law (refine step_append_lies _ (by rfl) _ _ _ (by rfl) base 5 i0 _ 1 1 Try.underlying27 hi0 hz0 hz1 hz2 rfl (by omega) v xs.length (bs xs) (by rfl) ((HS.out.ws.own.alloc _).drew) ⟨W1.heap.size, 0, none⟩ 1 1 [.int .u8 3] (by rfl) (by rfl) (World.news_of_block (cs := #[.int .u8 3]) (t := 5) (fr := (0, 0)) (heap_alloc_new W1 _)) (by simp [Value.oneCell']) (by omega) (by unfold maxLen; omega) (by omega) (by simp; omega) (W1.heap.size + 1) (by simp) ?_; intro gg cap w1 hown1 hgrow hat hlt; obtain ⟨g0, g1⟩ := (HS.out.ws.alloc _).drew.after hgrow)
  all_goals (
    have hst2 := hide (St.store (ys := xs ++ [3]) ((HS.out.alloc (.cells #[.int .u8 3] 5)).drew) hBX (fun W hW => hstay W (((HS.out.alloc _).drew).below.trans hW))
      ((Keeps.refl base _).grown (((HS.out.alloc _).drew).ws.own) (Nat.le_refl _) hgrow (by simp; omega)) (by rw [bs_append, List.length_append]; exact hown1))
    go_wp2_with fail
    generalize w1.setCell ⟨B, 0, none⟩ _ = W2 at *
    obtain ⟨d0, e0, d2, _, _⟩ := hst2.out.ws.cell
    obtain ⟨y0, y1, y2, y3⟩ := hst2.out.box.cells
    rw [H1.out] at y0
    go_still_tail 9, (by kernel_rfl)
    change wpList _ _ _ _ _ W2.drew
    have hst3 := hide hst2.out.drew
    have hc := (IH _ _ hst3.out.ws hst3.out.hin hst3.out.below).out
    rw [VT.val, H1.out] at hc
    have HC := hide hc
    clear hc d0 e0 d2 y0 y1 y2 y3
    generalize W2.drew = W3 at *
    go_wp2_with (go_at_call 42; refine HC.out.mono ?_; rintro e w' ⟨rfl, hb', hws'⟩)
    go_end0
    exact ⟨rfl, hst3.out.below.trans hb', hws'⟩)
end Go.Proofs.Ytccdencaidopnaa
