/- LexSpec: its walk. -/
import Derived.Test.YtemapfhiiefieaaDoorRlex
import Derived.Test.YtemapfhiiefieaaDoorJoinL
namespace Go.Proofs.YtemapfhiiefieaaDoor
open Go.RowKit

theorem toks_none (w : World) (A : Option Addr) : Toks w A (toks []) := fun i h => absurd h (by simp)

set_option maxRecDepth 10000 in
set_option maxHeartbeats 1600000 in
theorem spec_walk (l : List UInt8) (w : World) (hT : Tab w) (hP : Pow w) (hl : l.length ≤ 140737488351232) :
    Calls Tryd.prog 3 #[.string (str l)] w fun e w' => e = .returned (.bool true) ∧ Below w.heap.size w w' := by
  have H0 := hide (Ks.new hT hP)
  have hs := str_size l
  clear hT hP
  by_cases h6 : 70000 < l.length
  · have h6d : decide ((70000 : Int) < (l.length : Int)) = true := by simp; omega
    go_enter Tryd.func3, Tryd.ntmps3
    go_wp2_with fail
    with_reducible refine (sane_any w H0.out.tab H0.out.pow).mono ?_
    rintro e w1 ⟨rfl, hb⟩
    have HB := hide hb
    clear hb
    go_wp2_with fail
    go_ret
    exact ⟨rfl, HB.out⟩
  · have h6d : decide ((70000 : Int) < (l.length : Int)) = false := by simp; omega
    go_enter Tryd.func3, Tryd.ntmps3
    go_wp2_with fail
    with_reducible refine (sane_any w H0.out.tab H0.out.pow).mono ?_
    rintro e w1 ⟨rfl, hb⟩
    have H1 := hide (H0.out.later hb)
    clear hb H0
    go_wp2_with fail
    refine (lex_any l w1 H1.out.tab (by omega)).mono ?_
    rintro e w2 ⟨ha, hb⟩
    have H2 := hide (H1.out.later hb)
    have HR := hide (rlex_any l w2 (by omega))
    clear hb H1
    by_cases h5 : 65536 < l.length
    · rw [if_pos h5] at ha
      subst ha
      go_wp2_with fail
      refine HR.out.mono ?_
      rintro e w3 ⟨h3, hb⟩
      rw [if_pos h5] at h3
      subst h3
      have H3 := hide (H2.out.later hb)
      clear hb H2 HR
      go_wp2_with fail
      refine (requal_is none none (toks []) (toks []) 0 0 0 0 true w3 rfl rfl (by omega) (toks_none _ _) (toks_none _ _) (equal_self [])).mono ?_
      rintro e w4 ⟨rfl, hb⟩
      have H4 := hide (H3.out.later hb)
      clear hb H3
      go_wp2_with fail
      go_ret
      exact ⟨rfl, H4.out.1.1⟩
    · rw [if_neg h5] at ha
      cases hx : lexS l with
      | error p =>
        rw [hx] at ha
        simp only at ha
        subst ha
        go_wp2_with fail
        refine HR.out.mono ?_
        rintro e w3 ⟨h3, hb⟩
        rw [if_neg h5, hx] at h3
        simp only at h3
        subst h3
        have H3 := hide (H2.out.later hb)
        clear hb H2 HR
        go_wp2_with fail
        refine (requal_is none none (toks []) (toks []) 0 0 0 0 true w3 rfl rfl (by omega) (toks_none _ _) (toks_none _ _) (equal_self [])).mono ?_
        rintro e w4 ⟨rfl, hb⟩
        have H4 := hide (H3.out.later hb)
        clear hb H3
        go_wp2_with fail
        go_ret
        exact ⟨rfl, H4.out.1.1⟩
      | ok ts =>
        rw [hx] at ha
        simp only at ha
        obtain ⟨v2, rfl, ho2⟩ := ha
        obtain ⟨A2, c2, rfl, ht2⟩ := toks_own ho2
        have K2 := hide (H2.out.more ht2)
        have HLE := hide (show ts.length ≤ 100000 by
          rw [lexS_R] at hx
          have := (lexR_ok l 0 ts hx).2.1
          omega)
        clear ho2 ht2 H2
        go_wp2_with fail
        refine HR.out.mono ?_
        rintro e w3 ⟨h3, hb⟩
        rw [if_neg h5, hx] at h3
        obtain ⟨v3, rfl, ho3⟩ := h3
        obtain ⟨A3, c3, rfl, ht3⟩ := toks_own ho3
        have H3 := hide ((K2.out.later hb).more ht3)
        clear hb K2 HR ho3 ht3
        go_wp2_with fail
        refine (requal_is A2 A3 (toks ts) (toks ts) ts.length ts.length c2 c3 true w3 (by simp) (by simp) HLE.out (H3.out.at (by simp)) (H3.out.at (by simp)) (equal_self ts)).mono ?_
        rintro e w4 ⟨rfl, hb⟩
        have H4 := hide (H3.out.later hb)
        clear hb H3
        go_wp2_with fail
        go_ret
        exact ⟨rfl, H4.out.1.1⟩
theorem spec_any (s : ByteArray) (w : World) (h : Tab w ∧ Pow w) (hs : s.size ≤ 140737488351232) :
    Calls Tryd.prog 3 #[.string s] w fun e w' => e = .returned (.bool true) ∧ Below w.heap.size w w' := by
  have := spec_walk s.data.toList w h.1 h.2 (by simpa using hs)
  rwa [str_data] at this
end Go.Proofs.YtemapfhiiefieaaDoor
