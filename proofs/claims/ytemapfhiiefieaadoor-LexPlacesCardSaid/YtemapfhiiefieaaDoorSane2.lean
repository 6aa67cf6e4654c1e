/- sane: its walk. -/
import Derived.Test.YtemapfhiiefieaaDoorSane
import Derived.Deep.RegionHeld3
namespace Go.Proofs.YtemapfhiiefieaaDoor
open Go.RowKit

/-- A new block of tokens. -/
theorem toks_new (w : World) (cs : Array Value) (ts : List Tk) (h : cs = (tcs ts).toArray) : Toks (w.alloc (.cells cs 35)) (some ⟨w.heap.size, 0, none⟩) (toks ts) := fun i hi => by
  subst h
  have hi' : i < ts.length := by simpa using hi
  have hB := Blk.new w 35 (tcs ts)
  obtain ⟨g0, g1, g2, g3⟩ := tcs_get ts i hi'
  have e : (toks ts)[i] = (ts[i]).tok := by simp
  rw [e]
  refine ⟨w.heap.size, 0, rfl, by simp, ?_, ?_, ?_, ?_⟩
  · rw [hB.cell, Nat.zero_add, g0]
  · rw [hB.cell, Nat.zero_add, g1]
  · rw [hB.cell, Nat.zero_add, g2]
  · rw [hB.cell, Nat.zero_add, g3]
theorem Ks.news {w W : World} {L : List (Option Addr × List Tok)} (h : Ks w W L) (cs : Array Value) (ts : List Tk) (W' : World) (hW : W' = W.alloc (.cells cs 35)) (hc : cs = (tcs ts).toArray) : Ks w W' ((some ⟨W.heap.size, 0, none⟩, toks ts) :: L) := by
  subst hW
  exact h.add (below_new _ _) (toks_new W cs ts hc)
theorem Ks.at {w W : World} {L : List (Option Addr × List Tok)} (h : Ks w W L) {A : Option Addr} {l : List Tok} (hm : (A, l) ∈ L) : Toks W A l := h.2 _ hm

set_option maxRecDepth 10000 in
set_option maxHeartbeats 1600000 in
theorem sane_any (w : World) (hT : Tab w) (hP : Pow w) : Calls Tryd.prog 11 #[] w fun e w' => e = .returned (.bool true) ∧ Below w.heap.size w w' := by
  have H0 := hide (Ks.new hT hP)
  clear hT hP
  go_enter Tryd.func11, Tryd.ntmps11
  go_wp2_with fail
  with_reducible refine (lex_okn [115, 117, 109, 32, 51, 48, 59] tkSum 3 w H0.out.tab (by decide) ex_sum rfl).mono ?_
  rintro e w1 ⟨A1, c1, rfl, ht, hb⟩
  have H1 := hide (H0.out.add hb ht)
  clear ht hb H0
  go_wp2_with fail
  refine name_world ?_
  intro W2 HW2
  have H2 := hide (H1.out.news _ tkSum _ HW2.out rfl)
  clear HW2 H1
  with_reducible refine (lex_wrongn [48, 48, 55] 0 W2 H2.out.tab (by decide) ex_007 0 rfl).mono ?_
  rintro e w3 ⟨rfl, hb⟩
  have H3 := hide (H2.out.later hb)
  clear hb H2
  go_wp2_with fail
  with_reducible refine (lex_okn [49, 48, 57, 57, 53, 49, 49, 54, 50, 55, 55, 55, 54] tkBig 1 w3 H3.out.tab (by decide) ex_big rfl).mono ?_
  rintro e w4 ⟨A4, c4, rfl, ht, hb⟩
  have H4 := hide (H3.out.add hb ht)
  clear ht hb H3
  go_wp2_with fail
  with_reducible refine (lex_okn [97, 32, 47, 47, 32, 98] tkA 1 w4 H4.out.tab (by decide) ex_ab rfl).mono ?_
  rintro e w5 ⟨A5, c5, rfl, ht, hb⟩
  have H5 := hide (H4.out.add hb ht)
  clear ht hb H4
  go_wp2_with fail
  with_reducible refine (lex_wrongn [97, 32, 36] 2 w5 H5.out.tab (by decide) ex_two 2 rfl).mono ?_
  rintro e w6 ⟨rfl, hb⟩
  have H6 := hide (H5.out.later hb)
  clear hb H5
  go_wp2_with fail
  with_reducible refine (lex_okn [97, 61, 49] tkA1 3 w6 H6.out.tab (by decide) ex_a1 rfl).mono ?_
  rintro e w7 ⟨A7, c7, rfl, ht, hb⟩
  have H7 := hide (H6.out.add hb ht)
  clear ht hb H6
  go_wp2_with fail
  with_reducible refine (text_ok A7 (toks tkA1) 3 c7 [97, 32, 61, 32, 49] w7 rfl (by omega) (H7.out.at (by simp)) H7.out.tab H7.out.pow (by simp [tkA1, toks, str_size]) join_a1 (by decide) valid_a1).mono ?_
  rintro e w8 ⟨rfl, hb⟩
  have H8 := hide (H7.out.later hb)
  clear hb H7
  go_wp2_with fail
  with_reducible refine (lex_okn [] [] 0 w8 H8.out.tab (by decide) ex_nil rfl).mono ?_
  rintro e w9 ⟨A9, c9, rfl, ht, hb⟩
  have H9 := hide (H8.out.later hb)
  clear ht hb H8
  go_wp2_with fail
  refine name_world ?_
  intro W10 HW10
  have H10 := hide (H9.out.news _ [⟨0, [], 0, 0⟩] _ HW10.out rfl)
  clear HW10 H9
  with_reducible refine (text_bad _ (toks [⟨0, [], 0, 0⟩]) 1 1 W10 rfl (by omega) (H10.out.at (by simp)) H10.out.tab H10.out.pow (by simp [toks, str_size]) (by simp [joinT, textT, toks, Lib.join_one]) (by simp [validT, toks])).mono ?_
  rintro e w11 ⟨rfl, hb⟩
  have H11 := hide (H10.out.later hb)
  clear hb H10
  go_wp2_with fail
  with_reducible refine (requal_is A1 _ (toks tkSum) (toks tkSum) 3 3 c1 3 true w11 rfl rfl (by omega) (H11.out.at (by simp)) (H11.out.at (by simp)) sum_self).mono ?_
  rintro e w12 ⟨rfl, hb⟩
  have H12 := hide (H11.out.later hb)
  clear hb H11
  obtain ⟨b4, o4, rfl, _, x0, x1, x2, x3⟩ := (H12.out.at (A := A4) (l := toks tkBig) (by simp)) 0 (by simp)
  obtain ⟨b5, o5, rfl, _, y0, y1, y2, y3⟩ := (H12.out.at (A := A5) (l := toks tkA) (by simp)) 0 (by simp)
  simp only [toks, List.map_cons, List.getElem_cons_zero, Nat.zero_mul, Nat.add_zero] at x0 x1 x2 x3 y0 y1 y2 y3
  go_wp2_with fail
  clear x0 x1 x2 x3 y0 y1 y2 y3
  have HN := hide (name_any [66, 95, 49, 50] w12 H12.out.tab (by decide))
  rw [name_b12] at HN
  with_reducible refine HN.out.mono ?_
  rintro e _ ⟨rfl, rfl⟩
  clear HN
  go_wp2_with fail
  have HN := hide (name_any [95, 49, 50] w12 H12.out.tab (by decide))
  rw [name_12] at HN
  with_reducible refine HN.out.mono ?_
  rintro e _ ⟨rfl, rfl⟩
  clear HN
  go_wp2_with fail
  with_reducible refine (same_is _ A7 (toks tkA) (toks tkA1) 1 3 c5 c7 false w12 rfl rfl (by omega) (H12.out.at (by simp)) (H12.out.at (by simp)) a_a1).mono ?_
  rintro e w13 ⟨rfl, hb⟩
  have H13 := hide (H12.out.later hb)
  clear hb H12
  go_wp2_with fail
  refine name_world ?_
  intro W14 HW14
  have H14 := hide (H13.out.news _ [⟨1, [97], 0, 9⟩] _ HW14.out rfl)
  clear HW14 H13
  with_reducible refine (same_is _ _ (toks tkA) (toks [⟨1, [97], 0, 9⟩]) 1 1 c5 1 true W14 rfl rfl (by omega) (H14.out.at (by simp)) (H14.out.at (by simp)) a_a9).mono ?_
  rintro e w15 ⟨rfl, hb⟩
  have H15 := hide (H14.out.later hb)
  clear hb H14
  go_wp2_with fail
  go_ret
  exact ⟨rfl, H15.out.1.1⟩
end Go.Proofs.YtemapfhiiefieaaDoor
