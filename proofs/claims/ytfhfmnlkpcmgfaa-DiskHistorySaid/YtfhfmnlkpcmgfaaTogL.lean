/- DiskTogether: the walk. -/
import Derived.Test.YtfhfmnlkpcmgfaaTog
namespace Go.Proofs.Ytfhfmnlkpcmgfaa
open Go.RowKit

theorem wrap_small (p : Nat) (h : p < 256) : IntKind.i64.wrap (p : Int) = (p : Int) := by
  have e1 : (2 : Int) ^ IntKind.i64.bits = 18446744073709551616 := by decide
  have e2 : (2 : Int) ^ (IntKind.i64.bits - 1) = 9223372036854775808 := by decide
  have e3 : (p : Int) % 18446744073709551616 = p := by omega
  simp only [IntKind.wrap, e1, e2, e3]
  rw [if_neg (by simp; omega)]
/-- A new box that is empty. -/
theorem Env.fresh {n0 : Nat} {w W : World} {l : List (Nat × Dsk)} {m : List Sec} (h : Env n0 w l m W) (hn : n0 ≤ w.heap.size) : Env n0 w ((W.heap.size, Dsk.zero) :: l) m (W.alloc (.cells #[.slice none 0 0, .slice none 0 0, .int .i64 0, .bool false] 25)) := h.new hn (Dsk.zero_in W)
/-- Into the first box. -/
theorem Env.put1 {n0 : Nat} {w W : World} {l : List (Nat × Dsk)} {m : List Sec} {a : Nat} {x y : Dsk} (h : Env n0 w ((a, x) :: l) m W) (hy : y.In n0 W) (hne : ∀ p ∈ l, p.1 ≠ a) : Env n0 w ((a, y) :: l) m (W.setRow a #[.slice y.sa y.ss.length y.sc, .slice y.pa y.ps.length y.pc, .int .i64 y.left, .bool y.stp]) :=
  h.put (d := x) (by simp) hy fun p hp => by
    rcases List.mem_cons.1 hp with rfl | hp
    · exact .inl rfl
    · exact .inr ⟨by simp [hp], hne p hp⟩
/-- Into the second box. -/
theorem Env.put2 {n0 : Nat} {w W : World} {l : List (Nat × Dsk)} {m : List Sec} {a : Nat} {q : Nat × Dsk} {x y : Dsk} (h : Env n0 w (q :: (a, x) :: l) m W) (hy : y.In n0 W) (hq : q.1 ≠ a) (hne : ∀ p ∈ l, p.1 ≠ a) : Env n0 w (q :: (a, y) :: l) m (W.setRow a #[.slice y.sa y.ss.length y.sc, .slice y.pa y.ps.length y.pc, .int .i64 y.left, .bool y.stp]) :=
  h.put (d := x) (by simp) hy fun p hp => by
    rcases List.mem_cons.1 hp with rfl | hp
    · exact .inr ⟨by simp, hq⟩
    rcases List.mem_cons.1 hp with rfl | hp
    · exact .inl rfl
    · exact .inr ⟨by simp [hp], hne p hp⟩
/-- Fewer boxes. -/
theorem Env.sub {n0 : Nat} {w W : World} {l l' : List (Nat × Dsk)} {m : List Sec} (h : Env n0 w l m W) (hl : ∀ p ∈ l', p ∈ l) : Env n0 w l' m W := ⟨h.bel, fun p hp => h.box p (hl p hp), h.secs⟩
/-- Boxes are less than a new one. -/
theorem Env.lt {n0 : Nat} {w W : World} {l : List (Nat × Dsk)} {m : List Sec} (h : Env n0 w l m W) : ∀ p ∈ l, p.1 < W.heap.size := fun p hp => (h.box p hp).1.lt

set_option maxRecDepth 100000 in
set_option maxHeartbeats 6400000 in
theorem together_walk (d : Dsk) (A : Option Addr) (l : List Ac) (cap : Nat) (w : World) (hi : d.In w.heap.size w) (ha : Acs w.heap.size A l cap w) (hsh : Short d) :
    Calls Try.prog 8 #[d.v, .slice A l.length cap] w fun e w' => e = .returned (.bool true) ∧ Below w.heap.size w w' := by
  have H0 := hide (env_one (m := []) hi (fun s hs => by cases hs))
  have HAC := hide ha
  have HSH := hide hsh
  have hcs1 : d.ss.length ≤ d.sc := hi.sec.le
  have hcs2 : d.sc ≤ 9223372036854775807 := hi.sec.top
  have hcp1 : d.ps.length ≤ d.pc := hi.pen.le
  have hcp2 : d.pc ≤ 9223372036854775807 := hi.pen.top
  have hla : l.length ≤ cap := ha.le
  have hlb : cap ≤ 9223372036854775807 := ha.top
  clear hi ha hsh
  go_enter Try.func8, Try.ntmps8
  go_wp2_with fail
  refine (sane_any _).mono ?_
  rintro e w1 ⟨rfl, hb⟩
  have H1 := hide (H0.out.below hb)
  clear hb H0
  obtain ⟨hbx, -, -, hix⟩ := H1.out.box (w.heap.size, d) (by simp)
  obtain ⟨c0, c1, c2, c3⟩ := hbx.c4
  have HFW := hide (few_any d w1 hix HSH.out.1 HSH.out.2)
  clear hbx hix
  go_wp2_with fail
  refine HFW.out.mono ?_
  rintro e w2 ⟨f, rfl, hb⟩
  have H2 := hide (H1.out.below hb)
  clear hb H1 HFW c0 c1 c2 c3 HSH
  obtain ⟨hbx, -, -, hix⟩ := H2.out.box (w.heap.size, d) (by simp)
  obtain ⟨c0, c1, c2, c3⟩ := hbx.c4
  have HCK := hide (check_any d w2 hix)
  clear hbx hix
  by_cases hg : f = true ∧ l.length ≤ 20 ∧ d.ps.length = 0 ∧ d.ss.length ≠ 0
  · obtain ⟨rfl, hl1, hl2, hl3⟩ := hg
    have hl1' : decide ((20 : Int) < (l.length : Int)) = false := decide_eq_false (by omega)
    have hl2' : decide (0 < d.ps.length) = false := decide_eq_false (by omega)
    have hl4' : decide (0 < (d.ps.length : Int)) = false := decide_eq_false (by omega)
    have HL1 := hide hl1
    have hl3' : ((d.ss.length : Int) == 0) = false := by simp only [beq_eq_false_iff_ne, ne_eq]; omega
    have HP : Hid (d.d.pen = []) := hide (List.eq_nil_of_length_eq_zero (by show (wrD d.ps).length = 0; rw [wrD_len]; exact hl2))
    clear hl2 hl3 hl1
    by_cases hv : d.d.valid = true
    · rw [show chk d.d = 0 by simp [chk, hv]] at HCK
      go_wp2_with fail
      refine HCK.out.mono ?_
      rintro e w3 ⟨rfl, hb⟩
      have H3 := hide (H2.out.below hb)
      clear hb HCK H2 c0 c1 c2 c3
      obtain ⟨hbx, -, -, hix⟩ := H3.out.box (w.heap.size, d) (by simp)
      obtain ⟨c0, c1, c2, c3⟩ := hbx.c4
      clear hbx hix
      by_cases hs : d.stp = true
      · go_wp2_with fail
        go_ret
        exact ⟨rfl, H3.out.bel⟩
      · replace hs : d.stp = false := by simpa using hs
        go_upto_region 5 with (fail)
        have HR : Hid (d.d.runs = true) := hide (by show (!d.stp && d.d.valid) = true; rw [hs, hv]; rfl)
        have HN : Hid (d.d.sec.length = d.ss.length) := hide (secD_len _)
        clear hs hv
        go_cut [5, 6] from 47 to 48 (fun p q W => ∃ a b, p = .pointer (some ⟨a, 0, none⟩) ∧ q = .pointer (some ⟨b, 0, none⟩) ∧ a ≠ b ∧ w.heap.size < a ∧ w.heap.size < b ∧ Hid (Env w.heap.size w [(a, d), (b, d), (w.heap.size, d)] [] W))
        case first =>
          have HE0 := hide (H3.out.drew)
          refine wp_region_plan3 (fun w' => Blk w' w.heap.size 25 d.cs) (.take 0 (.take 1 (.both 2 (.run 3 (.run 4 (.run 5 .done))) 3 (.run 2 (.run 4 (.run 5 .done)))))) (by kernel_rfl) (by kernel_rfl) (HE0.out.box (w.heap.size, d) (by simp)).1 ?_
          generalize w3.drew = wD at HE0 ⊢
          have HWD := hide (show w.heap.size < wD.heap.size from HE0.out.lt _ (List.mem_cons_self))
          (refine plan3_take (o := ?_) (v := ?_) (by simp only [List.getElem?_toArray, List.getElem?_cons_zero]; rfl) (yields_run (by rfl) ?_) ?_; rotate_left; (focus (intro w' hw'; obtain ⟨q0, q1, q2, q3⟩ := hw'.c4; go_simp <;> with_reducible rfl)); (simp only [Act.put, List.setIfInBounds_toArray, List.set_cons_zero, List.set_cons_succ]))
          (refine plan3_take (o := ?_) (v := ?_) (by simp only [List.getElem?_toArray, List.getElem?_cons_succ, List.getElem?_cons_zero]; rfl) (yields_run (by rfl) ?_) ?_; rotate_left; (focus (intro w' hw'; obtain ⟨q0, q1, q2, q3⟩ := hw'.c4; go_simp <;> with_reducible rfl)); (simp only [Act.put, List.setIfInBounds_toArray, List.set_cons_zero, List.set_cons_succ]))
          refine plan3_both (o1 := ?_) (o2 := ?_) (by simp only [List.getElem?_toArray, List.getElem?_cons_succ, List.getElem?_cons_zero]; rfl) (by simp only [List.getElem?_toArray, List.getElem?_cons_succ, List.getElem?_cons_zero]; rfl) ?_ ?_
          · intro R HR
            have HE1 := hide (HE0.out.fresh (Nat.le_refl _))
            try simp only [World.size_alloc] at HE1
            go_wp2_with fail
            refine HR.out _ _ (HE1.out.box (w.heap.size, d) (by simp)).1 ?_
            clear HR
            refine plan3_run (o := ?_) (by simp only [List.getElem?_toArray, List.getElem?_cons_succ, List.getElem?_cons_zero]; rfl) ?_
            intro R HR
            have HE2 := hide (HE1.out.fresh (Nat.le_refl _))
            try simp only [World.size_alloc] at HE2
            go_wp2_with fail
            refine HR.out _ _ (HE2.out.box (w.heap.size, d) (by simp)).1 ?_
            clear HR
            refine plan3_run (o := ?_) (by simp only [List.getElem?_toArray, List.getElem?_cons_succ, List.getElem?_cons_zero]; rfl) ?_
            intro R HR
            have HE3 := hide (HE2.out.put2 (y := d) (HE2.out.box (w.heap.size, d) (by simp)).2.2.2 (by simp only; omega) (fun p hp => by have := HWD.out; simp only [List.mem_cons, List.not_mem_nil, or_false] at hp; first | (rcases hp with rfl | rfl <;> simp only <;> omega) | (subst hp; simp only; omega)))
            have HB3 := hide (show Blk _ wD.heap.size 25 _ from (HE2.out.box (wD.heap.size, Dsk.zero) (by simp)).1)
            refine wpList_store_row rfl 25 (.tmp 5) (.tmp 47) rfl _ #[.slice d.sa d.ss.length d.sc, .slice d.pa d.ps.length d.pc, .int .i64 d.left, .bool d.stp] rfl rfl 25 _ HB3.out Try.size25 rfl (one25 _ _ _ _ _ _ _ _) ?_
            refine HR.out _ _ (HE3.out.box (w.heap.size, d) (by simp)).1 ?_
            clear HR
            refine plan3_run (o := ?_) (by simp only [List.getElem?_toArray, List.getElem?_cons_succ, List.getElem?_cons_zero]; rfl) ?_
            intro R HR
            have HE4 := hide (HE3.out.put1 (y := d) (HE3.out.box (w.heap.size, d) (by simp)).2.2.2 (fun p hp => by have := HWD.out; simp only [List.mem_cons, List.not_mem_nil, or_false] at hp; first | (rcases hp with rfl | rfl <;> simp only <;> omega) | (subst hp; simp only; omega)))
            have HB4 := hide (show Blk _ (wD.heap.size + 1) 25 _ from (HE3.out.box ((wD.heap.size + 1), Dsk.zero) (by simp)).1)
            refine wpList_store_row rfl 25 (.tmp 6) (.tmp 48) rfl _ #[.slice d.sa d.ss.length d.sc, .slice d.pa d.ps.length d.pc, .int .i64 d.left, .bool d.stp] rfl rfl 25 _ HB4.out Try.size25 rfl (one25 _ _ _ _ _ _ _ _) ?_
            refine HR.out _ _ (HE4.out.box (w.heap.size, d) (by simp)).1 ?_
            clear HR
            refine plan3_done ?_
            go_wp2_with fail
            go_meet
            case rel => exact ⟨_, _, rfl, rfl, by omega, by have := HWD.out; omega, by have := HWD.out; omega, hide (HE4.out.sub (fun p hp => by simp only [List.mem_cons, List.not_mem_nil, or_false] at hp; rcases hp with rfl | rfl | rfl <;> simp))⟩
          · intro R HR
            have HE1 := hide (HE0.out.fresh (Nat.le_refl _))
            try simp only [World.size_alloc] at HE1
            go_wp2_with fail
            refine HR.out _ _ (HE1.out.box (w.heap.size, d) (by simp)).1 ?_
            clear HR
            refine plan3_run (o := ?_) (by simp only [List.getElem?_toArray, List.getElem?_cons_succ, List.getElem?_cons_zero]; rfl) ?_
            intro R HR
            have HE2 := hide (HE1.out.fresh (Nat.le_refl _))
            try simp only [World.size_alloc] at HE2
            go_wp2_with fail
            refine HR.out _ _ (HE2.out.box (w.heap.size, d) (by simp)).1 ?_
            clear HR
            refine plan3_run (o := ?_) (by simp only [List.getElem?_toArray, List.getElem?_cons_succ, List.getElem?_cons_zero]; rfl) ?_
            intro R HR
            have HE3 := hide (HE2.out.put1 (y := d) (HE2.out.box (w.heap.size, d) (by simp)).2.2.2 (fun p hp => by have := HWD.out; simp only [List.mem_cons, List.not_mem_nil, or_false] at hp; first | (rcases hp with rfl | rfl <;> simp only <;> omega) | (subst hp; simp only; omega)))
            have HB3 := hide (show Blk _ (wD.heap.size + 1) 25 _ from (HE2.out.box ((wD.heap.size + 1), Dsk.zero) (by simp)).1)
            refine wpList_store_row rfl 25 (.tmp 5) (.tmp 47) rfl _ #[.slice d.sa d.ss.length d.sc, .slice d.pa d.ps.length d.pc, .int .i64 d.left, .bool d.stp] rfl rfl 25 _ HB3.out Try.size25 rfl (one25 _ _ _ _ _ _ _ _) ?_
            refine HR.out _ _ (HE3.out.box (w.heap.size, d) (by simp)).1 ?_
            clear HR
            refine plan3_run (o := ?_) (by simp only [List.getElem?_toArray, List.getElem?_cons_succ, List.getElem?_cons_zero]; rfl) ?_
            intro R HR
            have HE4 := hide (HE3.out.put2 (y := d) (HE3.out.box (w.heap.size, d) (by simp)).2.2.2 (by simp only; omega) (fun p hp => by have := HWD.out; simp only [List.mem_cons, List.not_mem_nil, or_false] at hp; first | (rcases hp with rfl | rfl <;> simp only <;> omega) | (subst hp; simp only; omega)))
            have HB4 := hide (show Blk _ wD.heap.size 25 _ from (HE3.out.box (wD.heap.size, Dsk.zero) (by simp)).1)
            refine wpList_store_row rfl 25 (.tmp 6) (.tmp 48) rfl _ #[.slice d.sa d.ss.length d.sc, .slice d.pa d.ps.length d.pc, .int .i64 d.left, .bool d.stp] rfl rfl 25 _ HB4.out Try.size25 rfl (one25 _ _ _ _ _ _ _ _) ?_
            refine HR.out _ _ (HE4.out.box (w.heap.size, d) (by simp)).1 ?_
            clear HR
            refine plan3_done ?_
            go_wp2_with fail
            go_meet
            case rel => exact ⟨_, _, rfl, rfl, by omega, by have := HWD.out; omega, by have := HWD.out; omega, hide (HE4.out.sub (fun p hp => by simp only [List.mem_cons, List.not_mem_nil, or_false] at hp; rcases hp with rfl | rfl | rfl <;> simp))⟩
        case rest =>
          obtain ⟨a, b, rfl, rfl, hab, hwa, hwb, H4⟩ := hcut
          clear H3 c0 c1 c2 c3 hl1' hl2' hl3' hl4'
          generalize wc = w4 at *
          go_wp2_with fail
          go_loopw [8, 7] (fun i e wr => ∃ (k : Nat) (n : Int) (x : Dsk), k ≤ l.length ∧ i = .int .i64 k ∧ e = .int .i64 n ∧ Hid (St d.d l k n x.d) ∧ Hid (Env w.heap.size w [(a, x), (b, d), (w.heap.size, d)] [] wr)) (fun i _ _ => l.length - (intOf i).toNat)
          case atStart => exact ⟨0, 0, d, Nat.zero_le _, rfl, rfl, hide (st_start HR.out HP.out l), H4⟩
          case round =>
            obtain ⟨k, n, x, hk, rfl, rfl, HST, HE⟩ := hrel
            by_cases hlt : k < l.length ∧ n = 0
            · obtain ⟨hlt, rfl⟩ := hlt
              obtain ⟨hx, hle⟩ : x.d = d.d.did ((wl d.d.sec.length l).take k) ∧ (d.d.left = -1 ∨ (k : Int) ≤ d.d.left) := by
                rcases HST.out with ⟨_, h1, h2⟩ | ⟨h, _⟩
                · exact ⟨h1, h2⟩
                · exact absurd h (by decide)
              obtain ⟨Y, X', n', hY, hX', hS'⟩ := step_x HR.out hlt HL1.out hle
              rw [← hx, HN.out] at hY
              obtain ⟨bb, o, hA, hbb, -, e1, e2⟩ := HAC.out.at hlt
              have hat : 0 ≤ ((l[k].pos.toNat % d.ss.length : Nat) : Int) ∧ ((l[k].pos.toNat % d.ss.length : Nat) : Int) < d.ss.length := by have := at_has HR.out l[k]; rwa [HN.out] at this
              generalize l[k] = ac at hY e1 e2 hat
              have HY := hide hY
              have HX := hide hX'
              have HS := hide hS'
              have f1 := (HE.out.bel.cell (p := ⟨bb, o + k * 3 + 1, none⟩) hbb).trans e1
              have HF2 := hide (fun W (hW : Below w.heap.size w W) => (hW.cell (p := ⟨bb, o + k * 3 + 2, none⟩) hbb).trans e2)
              clear hx hle hY hX' hS' e1 e2 HST
              obtain ⟨hbx, -, -, -⟩ := HE.out.box (w.heap.size, d) (by simp)
              obtain ⟨c0, -, -, -⟩ := hbx.c4
              clear hbx hbb
              have hp1 : ac.pos.toNat < 256 := ac.pos.toNat_lt
              have hd1 : decide (k < l.length) = true := decide_eq_true hlt
              subst hA
              rw [Int.natCast_emod] at hat
              have HW := hide (show ∀ W X, x.In w.heap.size W → Blk W X 5 (bs [ac.byte]) → Calls Try.prog 19 #[x.v, .int .i64 ((ac.pos.toNat : Int) % (d.ss.length : Int)), .slice (some ⟨X, 0, none⟩) 1 1] W fun e w' => ∃ d' : Dsk, e = .returned (.tuple #[d'.v, .int .i64 0]) ∧ d'.d = Y ∧ d'.In w.heap.size w' ∧ Below W.heap.size W w' from fun W X hi hX => write_is (b := ⟨some ⟨X, 0, none⟩, [ac.byte], 1⟩) W rfl (by have := HY.out; rwa [Int.natCast_emod] at this) hi (blk_in (n0 := w.heap.size) hX (by simp) (by decide)) ⟨by omega, by omega⟩)
              go_upto_region 10 with (fail)
              go_quiet (fail)
              go_wp2_with fail
              have HE0 := hide (HE.out.below (below_dn _ wr nq))
              clear HE c0 f1 hat
              generalize wr.drewN nq = wB at *
              go_cut [10, 11] from 69 to 80 (fun p q W => ∃ (g : Nat) (z : Dsk), p = .pointer (some ⟨g, 0, none⟩) ∧ q = .int .i64 0 ∧ Hid (z.d = Y) ∧ Hid (Env w.heap.size w [(g, z), (a, x), (b, d), (w.heap.size, d)] [] W))
              case first =>
                have HE1 := hide (HE0.out.drew)
                refine wp_region_plan3 (fun w' => (Blk w' a 25 x.cs ∧ Blk w' w.heap.size 25 d.cs) ∧ Below w.heap.size w w') (.take 0 (.take 1 (.take 2 (.take 3 (.take 4 (.take 5 (.take 6 (.both 7 (.both 8 (.take 9 (.take 10 (.take 11 (.run 12 (.run 13 (.run 14 .done)))))) 12 (.run 8 (.take 9 (.take 10 (.take 11 (.run 13 (.run 14 .done))))))) 12 (.run 7 (.run 8 (.take 9 (.take 10 (.take 11 (.run 13 (.run 14 .done))))))))))))))) (by kernel_rfl) (by kernel_rfl) ⟨⟨(HE1.out.box (a, x) (by simp)).1, (HE1.out.box (w.heap.size, d) (by simp)).1⟩, HE1.out.bel⟩ ?_
                generalize wB.drew = wD at HE1 ⊢
                (refine plan3_take (o := ?_) (v := ?_) (by simp only [List.getElem?_toArray, List.getElem?_cons_zero]; rfl) (yields_run (by rfl) ?_) ?_; rotate_left; (focus (intro w' hw'; obtain ⟨q0, q1, q2, q3⟩ := hw'.1.1.c4; go_simp <;> with_reducible rfl)); (simp only [Act.put, List.setIfInBounds_toArray, List.set_cons_zero, List.set_cons_succ]))
                (refine plan3_take (o := ?_) (v := ?_) (by simp only [List.getElem?_toArray, List.getElem?_cons_succ, List.getElem?_cons_zero]; rfl) (yields_run (by rfl) ?_) ?_; rotate_left; (focus (intro w' hw'; skip; go_simp <;> with_reducible rfl)); (simp only [Act.put, List.setIfInBounds_toArray, List.set_cons_zero, List.set_cons_succ]))
                (refine plan3_take (o := ?_) (v := ?_) (by simp only [List.getElem?_toArray, List.getElem?_cons_succ, List.getElem?_cons_zero]; rfl) (yields_run (by rfl) ?_) ?_; rotate_left; (focus (intro w' hw'; skip; go_simp <;> with_reducible rfl)); (simp only [Act.put, List.setIfInBounds_toArray, List.set_cons_zero, List.set_cons_succ]))
                (refine plan3_take (o := ?_) (v := ?_) (by simp only [List.getElem?_toArray, List.getElem?_cons_succ, List.getElem?_cons_zero]; rfl) (yields_run (by rfl) ?_) ?_; rotate_left; (focus (intro w' hw'; skip; go_simp <;> with_reducible rfl)); (simp only [Act.put, List.setIfInBounds_toArray, List.set_cons_zero, List.set_cons_succ]))
                (refine plan3_take (o := ?_) (v := ?_) (by simp only [List.getElem?_toArray, List.getElem?_cons_succ, List.getElem?_cons_zero]; rfl) (yields_run (by rfl) ?_) ?_; rotate_left; (focus (intro w' hw'; skip; go_simp <;> with_reducible rfl)); (simp only [Act.put, List.setIfInBounds_toArray, List.set_cons_zero, List.set_cons_succ]))
                (refine plan3_take (o := ?_) (v := ?_) (by simp only [List.getElem?_toArray, List.getElem?_cons_succ, List.getElem?_cons_zero]; rfl) (yields_run (by rfl) ?_) ?_; rotate_left; (focus (intro w' hw'; skip; go_simp <;> with_reducible rfl)); (simp only [Act.put, List.setIfInBounds_toArray, List.set_cons_zero, List.set_cons_succ]))
                (refine plan3_take (o := ?_) (v := ?_) (by simp only [List.getElem?_toArray, List.getElem?_cons_succ, List.getElem?_cons_zero]; rfl) (yields_run (by rfl) ?_) ?_; rotate_left; (focus (intro w' hw'; have q := HF2.out _ hw'.2; go_simp <;> with_reducible rfl)); (simp only [Act.put, List.setIfInBounds_toArray, List.set_cons_zero, List.set_cons_succ]))
                refine plan3_both (o1 := ?_) (o2 := ?_) (by simp only [List.getElem?_toArray, List.getElem?_cons_succ, List.getElem?_cons_zero]; rfl) (by simp only [List.getElem?_toArray, List.getElem?_cons_succ, List.getElem?_cons_zero]; rfl) ?_ ?_
                · intro R HR
                  have HE2 := hide (HE1.out.alloc (.cells #[.int .u8 (ac.byte.toNat : Nat)] 5))
                  have HB2 := hide (show Blk (wD.alloc (.cells #[.int .u8 (ac.byte.toNat : Nat)] 5)) wD.heap.size 5 (bs [ac.byte]) from Blk.new wD 5 (bs [ac.byte]))
                  try simp only [World.size_alloc] at HB2
                  go_wp2_with fail
                  refine HR.out _ _ ⟨⟨(HE2.out.box (a, x) (by simp)).1, (HE2.out.box (w.heap.size, d) (by simp)).1⟩, HE2.out.bel⟩ ?_
                  clear HR
                  refine plan3_both (o1 := ?_) (o2 := ?_) (by simp only [List.getElem?_toArray, List.getElem?_cons_succ, List.getElem?_cons_zero]; rfl) (by simp only [List.getElem?_toArray, List.getElem?_cons_succ, List.getElem?_cons_zero]; rfl) ?_ ?_
                  · intro R HR
                    go_wp2_with fail
                    (with_reducible refine (HW.out _ _ (HE2.out.box (a, x) (by simp)).2.2.2 HB2.out).mono ?_)
                    rintro e v3 ⟨z3, rfl, hd, hi, hb⟩
                    have HE3 := hide (HE2.out.below hb)
                    have HZ3 := hide hd
                    have HI3 := hide hi
                    clear hd hi hb
                    go_wp2_with fail
                    refine HR.out _ _ ⟨⟨(HE3.out.box (a, x) (by simp)).1, (HE3.out.box (w.heap.size, d) (by simp)).1⟩, HE3.out.bel⟩ ?_
                    clear HR
                    (refine plan3_take (o := ?_) (v := ?_) (by simp only [List.getElem?_toArray, List.getElem?_cons_succ, List.getElem?_cons_zero]; rfl) (yields_run (by rfl) ?_) ?_; rotate_left; (focus (intro w' _; go_simp <;> with_reducible rfl)); (simp only [Act.put, List.setIfInBounds_toArray, List.set_cons_zero, List.set_cons_succ]))
                    (refine plan3_take (o := ?_) (v := ?_) (by simp only [List.getElem?_toArray, List.getElem?_cons_succ, List.getElem?_cons_zero]; rfl) (yields_run (by rfl) ?_) ?_; rotate_left; (focus (intro w' _; go_simp <;> with_reducible rfl)); (simp only [Act.put, List.setIfInBounds_toArray, List.set_cons_zero, List.set_cons_succ]))
                    (refine plan3_take (o := ?_) (v := ?_) (by simp only [List.getElem?_toArray, List.getElem?_cons_succ, List.getElem?_cons_zero]; rfl) (yields_run (by rfl) ?_) ?_; rotate_left; (focus (intro w' _; go_simp <;> with_reducible rfl)); (simp only [Act.put, List.setIfInBounds_toArray, List.set_cons_zero, List.set_cons_succ]))
                    refine plan3_run (o := ?_) (by simp only [List.getElem?_toArray, List.getElem?_cons_succ, List.getElem?_cons_zero]; rfl) ?_
                    intro R HR
                    have HE4 := hide (HE3.out.fresh (Nat.le_refl _))
                    try simp only [World.size_alloc] at HE4
                    have HL4 := hide HE3.out.lt
                    try simp only [World.size_alloc] at HL4
                    have HB4 := hide (HB2.out.alloc (.cells #[.slice none 0 0, .slice none 0 0, .int .i64 0, .bool false] 25))
                    have HI4 := hide (HI3.out.below (below_new _ (.cells #[.slice none 0 0, .slice none 0 0, .int .i64 0, .bool false] 25)))
                    go_wp2_with fail
                    refine HR.out _ _ ⟨⟨(HE4.out.box (a, x) (by simp)).1, (HE4.out.box (w.heap.size, d) (by simp)).1⟩, HE4.out.bel⟩ ?_
                    clear HR
                    refine plan3_run (o := ?_) (by simp only [List.getElem?_toArray, List.getElem?_cons_succ, List.getElem?_cons_zero]; rfl) ?_
                    intro R HR
                    have HX5 := hide (show Blk _ v3.heap.size 25 _ from (HE4.out.box (v3.heap.size, Dsk.zero) (by simp)).1)
                    have HE5 := hide (HE4.out.put1 (y := z3) HI4.out (fun p hp => Nat.ne_of_lt (HL4.out p hp)))
                    refine wpList_store_row rfl 25 (.tmp 10) (.tmp 79) rfl _ #[.slice z3.sa z3.ss.length z3.sc, .slice z3.pa z3.ps.length z3.pc, .int .i64 z3.left, .bool z3.stp] rfl rfl 25 _ HX5.out Try.size25 rfl (one25 _ _ _ _ _ _ _ _) ?_
                    refine HR.out _ _ ⟨⟨(HE5.out.box (a, x) (by simp)).1, (HE5.out.box (w.heap.size, d) (by simp)).1⟩, HE5.out.bel⟩ ?_
                    clear HR
                    refine plan3_run (o := ?_) (by simp only [List.getElem?_toArray, List.getElem?_cons_succ, List.getElem?_cons_zero]; rfl) ?_
                    intro R HR
                    go_wp2_with fail
                    refine HR.out _ _ ⟨⟨(HE5.out.box (a, x) (by simp)).1, (HE5.out.box (w.heap.size, d) (by simp)).1⟩, HE5.out.bel⟩ ?_
                    clear HR
                    refine plan3_done ?_
                    go_wp2_with fail
                    go_meet
                    case rel => exact ⟨_, _, rfl, rfl, HZ3, HE5⟩
                  · intro R HR
                    have HE3 := hide (HE2.out.fresh (Nat.le_refl _))
                    try simp only [World.size_alloc] at HE3
                    have HL3 := hide HE2.out.lt
                    try simp only [World.size_alloc] at HL3
                    have HB3 := hide (HB2.out.alloc (.cells #[.slice none 0 0, .slice none 0 0, .int .i64 0, .bool false] 25))
                    go_wp2_with fail
                    refine HR.out _ _ ⟨⟨(HE3.out.box (a, x) (by simp)).1, (HE3.out.box (w.heap.size, d) (by simp)).1⟩, HE3.out.bel⟩ ?_
                    clear HR
                    refine plan3_run (o := ?_) (by simp only [List.getElem?_toArray, List.getElem?_cons_succ, List.getElem?_cons_zero]; rfl) ?_
                    intro R HR
                    go_wp2_with fail
                    (with_reducible refine (HW.out _ _ (HE3.out.box (a, x) (by simp)).2.2.2 HB3.out).mono ?_)
                    rintro e v4 ⟨z4, rfl, hd, hi, hb⟩
                    have HE4 := hide (HE3.out.below hb)
                    have HZ4 := hide hd
                    have HI4 := hide hi
                    clear hd hi hb
                    go_wp2_with fail
                    refine HR.out _ _ ⟨⟨(HE4.out.box (a, x) (by simp)).1, (HE4.out.box (w.heap.size, d) (by simp)).1⟩, HE4.out.bel⟩ ?_
                    clear HR
                    (refine plan3_take (o := ?_) (v := ?_) (by simp only [List.getElem?_toArray, List.getElem?_cons_succ, List.getElem?_cons_zero]; rfl) (yields_run (by rfl) ?_) ?_; rotate_left; (focus (intro w' _; go_simp <;> with_reducible rfl)); (simp only [Act.put, List.setIfInBounds_toArray, List.set_cons_zero, List.set_cons_succ]))
                    (refine plan3_take (o := ?_) (v := ?_) (by simp only [List.getElem?_toArray, List.getElem?_cons_succ, List.getElem?_cons_zero]; rfl) (yields_run (by rfl) ?_) ?_; rotate_left; (focus (intro w' _; go_simp <;> with_reducible rfl)); (simp only [Act.put, List.setIfInBounds_toArray, List.set_cons_zero, List.set_cons_succ]))
                    (refine plan3_take (o := ?_) (v := ?_) (by simp only [List.getElem?_toArray, List.getElem?_cons_succ, List.getElem?_cons_zero]; rfl) (yields_run (by rfl) ?_) ?_; rotate_left; (focus (intro w' _; go_simp <;> with_reducible rfl)); (simp only [Act.put, List.setIfInBounds_toArray, List.set_cons_zero, List.set_cons_succ]))
                    refine plan3_run (o := ?_) (by simp only [List.getElem?_toArray, List.getElem?_cons_succ, List.getElem?_cons_zero]; rfl) ?_
                    intro R HR
                    have HX5 := hide (show Blk _ (wD.heap.size + 1) 25 _ from (HE4.out.box ((wD.heap.size + 1), Dsk.zero) (by simp)).1)
                    have HE5 := hide (HE4.out.put1 (y := z4) HI4.out (fun p hp => Nat.ne_of_lt (HL3.out p hp)))
                    refine wpList_store_row rfl 25 (.tmp 10) (.tmp 79) rfl _ #[.slice z4.sa z4.ss.length z4.sc, .slice z4.pa z4.ps.length z4.pc, .int .i64 z4.left, .bool z4.stp] rfl rfl 25 _ HX5.out Try.size25 rfl (one25 _ _ _ _ _ _ _ _) ?_
                    refine HR.out _ _ ⟨⟨(HE5.out.box (a, x) (by simp)).1, (HE5.out.box (w.heap.size, d) (by simp)).1⟩, HE5.out.bel⟩ ?_
                    clear HR
                    refine plan3_run (o := ?_) (by simp only [List.getElem?_toArray, List.getElem?_cons_succ, List.getElem?_cons_zero]; rfl) ?_
                    intro R HR
                    go_wp2_with fail
                    refine HR.out _ _ ⟨⟨(HE5.out.box (a, x) (by simp)).1, (HE5.out.box (w.heap.size, d) (by simp)).1⟩, HE5.out.bel⟩ ?_
                    clear HR
                    refine plan3_done ?_
                    go_wp2_with fail
                    go_meet
                    case rel => exact ⟨_, _, rfl, rfl, HZ4, HE5⟩
                · intro R HR
                  have HE2 := hide (HE1.out.fresh (Nat.le_refl _))
                  try simp only [World.size_alloc] at HE2
                  have HL2 := hide HE1.out.lt
                  try simp only [World.size_alloc] at HL2
                  go_wp2_with fail
                  refine HR.out _ _ ⟨⟨(HE2.out.box (a, x) (by simp)).1, (HE2.out.box (w.heap.size, d) (by simp)).1⟩, HE2.out.bel⟩ ?_
                  clear HR
                  refine plan3_run (o := ?_) (by simp only [List.getElem?_toArray, List.getElem?_cons_succ, List.getElem?_cons_zero]; rfl) ?_
                  intro R HR
                  have HE3 := hide (HE2.out.alloc (.cells #[.int .u8 (ac.byte.toNat : Nat)] 5))
                  have HB3 := hide (show Blk ((wD.alloc (.cells #[.slice none 0 0, .slice none 0 0, .int .i64 0, .bool false] 25)).alloc (.cells #[.int .u8 (ac.byte.toNat : Nat)] 5)) (wD.alloc (.cells #[.slice none 0 0, .slice none 0 0, .int .i64 0, .bool false] 25)).heap.size 5 (bs [ac.byte]) from Blk.new (wD.alloc (.cells #[.slice none 0 0, .slice none 0 0, .int .i64 0, .bool false] 25)) 5 (bs [ac.byte]))
                  try simp only [World.size_alloc] at HB3
                  go_wp2_with fail
                  refine HR.out _ _ ⟨⟨(HE3.out.box (a, x) (by simp)).1, (HE3.out.box (w.heap.size, d) (by simp)).1⟩, HE3.out.bel⟩ ?_
                  clear HR
                  refine plan3_run (o := ?_) (by simp only [List.getElem?_toArray, List.getElem?_cons_succ, List.getElem?_cons_zero]; rfl) ?_
                  intro R HR
                  go_wp2_with fail
                  (with_reducible refine (HW.out _ _ (HE3.out.box (a, x) (by simp)).2.2.2 HB3.out).mono ?_)
                  rintro e v4 ⟨z4, rfl, hd, hi, hb⟩
                  have HE4 := hide (HE3.out.below hb)
                  have HZ4 := hide hd
                  have HI4 := hide hi
                  clear hd hi hb
                  go_wp2_with fail
                  refine HR.out _ _ ⟨⟨(HE4.out.box (a, x) (by simp)).1, (HE4.out.box (w.heap.size, d) (by simp)).1⟩, HE4.out.bel⟩ ?_
                  clear HR
                  (refine plan3_take (o := ?_) (v := ?_) (by simp only [List.getElem?_toArray, List.getElem?_cons_succ, List.getElem?_cons_zero]; rfl) (yields_run (by rfl) ?_) ?_; rotate_left; (focus (intro w' _; go_simp <;> with_reducible rfl)); (simp only [Act.put, List.setIfInBounds_toArray, List.set_cons_zero, List.set_cons_succ]))
                  (refine plan3_take (o := ?_) (v := ?_) (by simp only [List.getElem?_toArray, List.getElem?_cons_succ, List.getElem?_cons_zero]; rfl) (yields_run (by rfl) ?_) ?_; rotate_left; (focus (intro w' _; go_simp <;> with_reducible rfl)); (simp only [Act.put, List.setIfInBounds_toArray, List.set_cons_zero, List.set_cons_succ]))
                  (refine plan3_take (o := ?_) (v := ?_) (by simp only [List.getElem?_toArray, List.getElem?_cons_succ, List.getElem?_cons_zero]; rfl) (yields_run (by rfl) ?_) ?_; rotate_left; (focus (intro w' _; go_simp <;> with_reducible rfl)); (simp only [Act.put, List.setIfInBounds_toArray, List.set_cons_zero, List.set_cons_succ]))
                  refine plan3_run (o := ?_) (by simp only [List.getElem?_toArray, List.getElem?_cons_succ, List.getElem?_cons_zero]; rfl) ?_
                  intro R HR
                  have HX5 := hide (show Blk _ wD.heap.size 25 _ from (HE4.out.box (wD.heap.size, Dsk.zero) (by simp)).1)
                  have HE5 := hide (HE4.out.put1 (y := z4) HI4.out (fun p hp => Nat.ne_of_lt (HL2.out p hp)))
                  refine wpList_store_row rfl 25 (.tmp 10) (.tmp 79) rfl _ #[.slice z4.sa z4.ss.length z4.sc, .slice z4.pa z4.ps.length z4.pc, .int .i64 z4.left, .bool z4.stp] rfl rfl 25 _ HX5.out Try.size25 rfl (one25 _ _ _ _ _ _ _ _) ?_
                  refine HR.out _ _ ⟨⟨(HE5.out.box (a, x) (by simp)).1, (HE5.out.box (w.heap.size, d) (by simp)).1⟩, HE5.out.bel⟩ ?_
                  clear HR
                  refine plan3_run (o := ?_) (by simp only [List.getElem?_toArray, List.getElem?_cons_succ, List.getElem?_cons_zero]; rfl) ?_
                  intro R HR
                  go_wp2_with fail
                  refine HR.out _ _ ⟨⟨(HE5.out.box (a, x) (by simp)).1, (HE5.out.box (w.heap.size, d) (by simp)).1⟩, HE5.out.bel⟩ ?_
                  clear HR
                  refine plan3_done ?_
                  go_wp2_with fail
                  go_meet
                  case rel => exact ⟨_, _, rfl, rfl, HZ4, HE5⟩
              case rest =>
                obtain ⟨g, z, rfl, rfl, HZ, H5⟩ := hcut
                clear HE0 HW HF2
                generalize wc = w5 at *
                obtain ⟨hbz, -, -, hiz⟩ := H5.out.box (g, z) (by simp)
                obtain ⟨c0, c1, c2, c3⟩ := hbz.c4
                have HSY := hide (sync_is w5 HZ.out HX.out hiz)
                clear hbz hiz
                go_wp2_with fail
                refine HSY.out.mono ?_
                rintro e w6 ⟨x', rfl, hx', hi6, hb⟩
                have HXB := hide (show Blk w6 a 25 x.cs from ((H5.out.below hb).box (a, x) (by simp)).1)
                have H6 := hide (((H5.out.below hb).sub (l' := [(a, x), (b, d), (w.heap.size, d)]) (fun p hp => List.mem_cons_of_mem _ hp)).put1 (y := x') hi6 (fun p hp => by
                  simp only [List.mem_cons, List.not_mem_nil, or_false] at hp
                  rcases hp with rfl | rfl <;> simp only <;> omega))
                have HX' := hide hx'
                clear hx' hi6 hb HSY c0 c1 c2 c3
                go_wp2_with (refine wpList_store_row rfl 25 (.tmp 5) (.tmp 86) rfl a #[.slice x'.sa x'.ss.length x'.sc, .slice x'.pa x'.ps.length x'.pc, .int .i64 x'.left, .bool x'.stp] rfl rfl 25 _ HXB.out Try.size25 rfl (one25 _ _ _ _ _ _ _ _) ?_)
                go_roundw
                case rel => exact ⟨k + 1, n', x', by omega, by go_num, rfl, hide (by rw [HX'.out]; exact HS.out), H6⟩
                case measure => simp [intOf]; omega
            · have HF : Hid ((d.d.put (wl d.ss.length l)).sync = (x.d, n)) := hide (by
                have := st_end (n := n) (X := x.d) HR.out HL1.out (by
                  by_cases hn : n = 0
                  · obtain rfl : k = l.length := by omega
                    exact .inl HST.out
                  · exact .inr ⟨hn, k, HST.out⟩)
                rwa [HN.out] at this)
              have hc : k = l.length ∨ (decide (k < l.length) = true ∧ (n == 0) = false) := by
                by_cases he : k = l.length
                · exact .inl he
                · exact .inr ⟨decide_eq_true (by omega), by simp only [beq_eq_false_iff_ne, ne_eq]; omega⟩
              clear hlt HST
              rcases hc with rfl | ⟨hd1, hn0⟩
              all_goals
                go_wp2_with fail
                go_loopw [12] (fun i wr => ∃ (k : Nat) (y : Dsk), k ≤ l.length ∧ i = .int .i64 k ∧ Hid (y.d = d.d.put ((wl d.ss.length l).take k)) ∧ Hid (Env w.heap.size w [(a, x), (b, y), (w.heap.size, d)] [] wr)) (fun i _ => l.length - (intOf i).toNat)
                case atStart => exact ⟨0, d, Nat.zero_le _, rfl, hide (put_start HP.out), HE⟩
                case round =>
                  clear HE
                  obtain ⟨k2, y, hk2, rfl, HYD, HE⟩ := hrel
                  by_cases hlt2 : k2 < l.length
                  · have hY := step_y HR.out hlt2 HL1.out
                    rw [HN.out, ← HYD.out] at hY
                    obtain ⟨bb, o, hA, hbb, -, e1, e2⟩ := HAC.out.at hlt2
                    have hat : 0 ≤ ((l[k2].pos.toNat % d.ss.length : Nat) : Int) ∧ ((l[k2].pos.toNat % d.ss.length : Nat) : Int) < d.ss.length := by have := at_has HR.out l[k2]; rwa [HN.out] at this
                    generalize l[k2] = ac at hY e1 e2 hat
                    have HY := hide hY
                    have HF1 := hide (fun W (hW : Below w.heap.size w W) => (hW.cell (p := ⟨bb, o + k2 * 3 + 1, none⟩) hbb).trans e1)
                    have HF2 := hide (fun W (hW : Below w.heap.size w W) => (hW.cell (p := ⟨bb, o + k2 * 3 + 2, none⟩) hbb).trans e2)
                    clear hY e1 e2 hbb
                    have hp1 : ac.pos.toNat < 256 := ac.pos.toNat_lt
                    have hd2 : decide (k2 < l.length) = true := decide_eq_true hlt2
                    subst hA
                    rw [Int.natCast_emod] at hat
                    have HW := hide (show ∀ W X, y.In w.heap.size W → Blk W X 5 (bs [ac.byte]) → Calls Try.prog 19 #[y.v, .int .i64 ((ac.pos.toNat : Int) % (d.ss.length : Int)), .slice (some ⟨X, 0, none⟩) 1 1] W fun e w' => ∃ d' : Dsk, e = .returned (.tuple #[d'.v, .int .i64 0]) ∧ d'.d = d.d.put ((wl d.ss.length l).take (k2 + 1)) ∧ d'.In w.heap.size w' ∧ Below W.heap.size W w' from fun W X hi hX => write_is (b := ⟨some ⟨X, 0, none⟩, [ac.byte], 1⟩) W rfl (by have := HY.out; rwa [Int.natCast_emod] at this) hi (blk_in (n0 := w.heap.size) hX (by simp) (by decide)) ⟨by omega, by omega⟩)
                    have hss : d.ss ≠ [] := by intro h; rw [h] at hat; simp at hat; omega
                    have hwr : IntKind.i64.wrap (ac.pos.toNat : Int) = (ac.pos.toNat : Int) := wrap_small _ hp1
                    have htm : (ac.pos.toNat : Int).tmod (d.ss.length : Int) = (ac.pos.toNat : Int) % (d.ss.length : Int) := Int.tmod_eq_emod_of_nonneg (by omega)
                    go_upto_region 18 with (fail)
                    have HE0 := hide HE.out.drew
                    go_cut [13, 14] from 94 to 114 (fun p q W => ∃ (g : Nat) (z : Dsk), p = .pointer (some ⟨g, 0, none⟩) ∧ q = .int .i64 0 ∧ Hid (z.d = d.d.put ((wl d.ss.length l).take (k2 + 1))) ∧ Hid (Env w.heap.size w [(g, z), (a, x), (b, y), (w.heap.size, d)] [] W))
                    case first =>
                      have HE1 := hide (HE.out.drew)
                      refine wp_region_plan3 (fun w' => (Blk w' b 25 y.cs ∧ Blk w' w.heap.size 25 d.cs) ∧ Below w.heap.size w w') (.take 0 (.take 1 (.take 2 (.take 3 (.take 4 (.take 5 (.take 6 (.take 7 (.take 8 (.take 9 (.take 10 (.take 11 (.take 12 (.take 13 (.take 14 (.take 15 (.both 16 (.both 17 (.take 18 (.take 19 (.take 20 (.run 21 (.run 22 (.run 23 .done)))))) 21 (.run 17 (.take 18 (.take 19 (.take 20 (.run 22 (.run 23 .done))))))) 21 (.run 16 (.run 17 (.take 18 (.take 19 (.take 20 (.run 22 (.run 23 .done)))))))))))))))))))))))) (by kernel_rfl) (by kernel_rfl) ⟨⟨(HE1.out.box (b, y) (by simp)).1, (HE1.out.box (w.heap.size, d) (by simp)).1⟩, HE1.out.bel⟩ ?_
                      generalize wr.drew = wD at HE1 ⊢
                      (refine plan3_take (o := ?_) (v := ?_) (by simp only [List.getElem?_toArray, List.getElem?_cons_zero]; rfl) (yields_run (by rfl) ?_) ?_; rotate_left; (focus (intro w' hw'; obtain ⟨q0, q1, q2, q3⟩ := hw'.1.1.c4; go_simp <;> with_reducible rfl)); (simp only [Act.put, List.setIfInBounds_toArray, List.set_cons_zero, List.set_cons_succ]))
                      (refine plan3_take (o := ?_) (v := ?_) (by simp only [List.getElem?_toArray, List.getElem?_cons_succ, List.getElem?_cons_zero]; rfl) (yields_run (by rfl) ?_) ?_; rotate_left; (focus (intro w' hw'; skip; go_simp <;> with_reducible rfl)); (simp only [Act.put, List.setIfInBounds_toArray, List.set_cons_zero, List.set_cons_succ]))
                      (refine plan3_take (o := ?_) (v := ?_) (by simp only [List.getElem?_toArray, List.getElem?_cons_succ, List.getElem?_cons_zero]; rfl) (yields_run (by rfl) ?_) ?_; rotate_left; (focus (intro w' hw'; skip; go_simp <;> with_reducible rfl)); (simp only [Act.put, List.setIfInBounds_toArray, List.set_cons_zero, List.set_cons_succ]))
                      (refine plan3_take (o := ?_) (v := ?_) (by simp only [List.getElem?_toArray, List.getElem?_cons_succ, List.getElem?_cons_zero]; rfl) (yields_run (by rfl) ?_) ?_; rotate_left; (focus (intro w' hw'; skip; go_simp <;> with_reducible rfl)); (simp only [Act.put, List.setIfInBounds_toArray, List.set_cons_zero, List.set_cons_succ]))
                      (refine plan3_take (o := ?_) (v := ?_) (by simp only [List.getElem?_toArray, List.getElem?_cons_succ, List.getElem?_cons_zero]; rfl) (yields_run (by rfl) ?_) ?_; rotate_left; (focus (intro w' hw'; skip; go_simp <;> with_reducible rfl)); (simp only [Act.put, List.setIfInBounds_toArray, List.set_cons_zero, List.set_cons_succ]))
                      (refine plan3_take (o := ?_) (v := ?_) (by simp only [List.getElem?_toArray, List.getElem?_cons_succ, List.getElem?_cons_zero]; rfl) (yields_run (by rfl) ?_) ?_; rotate_left; (focus (intro w' hw'; have q := HF1.out _ hw'.2; go_simp <;> with_reducible rfl)); (simp only [Act.put, List.setIfInBounds_toArray, List.set_cons_zero, List.set_cons_succ]))
                      (refine plan3_take (o := ?_) (v := ?_) (by simp only [List.getElem?_toArray, List.getElem?_cons_succ, List.getElem?_cons_zero]; rfl) (yields_run (by rfl) ?_) ?_; rotate_left; (focus (intro w' hw'; skip; go_simp <;> with_reducible rfl)); (simp only [Act.put, List.setIfInBounds_toArray, List.set_cons_zero, List.set_cons_succ]))
                      (refine plan3_take (o := ?_) (v := ?_) (by simp only [List.getElem?_toArray, List.getElem?_cons_succ, List.getElem?_cons_zero]; rfl) (yields_run (by rfl) ?_) ?_; rotate_left; (focus (intro w' hw'; skip; go_simp <;> with_reducible rfl)); (simp only [Act.put, List.setIfInBounds_toArray, List.set_cons_zero, List.set_cons_succ]))
                      (refine plan3_take (o := ?_) (v := ?_) (by simp only [List.getElem?_toArray, List.getElem?_cons_succ, List.getElem?_cons_zero]; rfl) (yields_run (by rfl) ?_) ?_; rotate_left; (focus (intro w' hw'; obtain ⟨q0, q1, q2, q3⟩ := hw'.1.2.c4; go_simp <;> with_reducible rfl)); (simp only [Act.put, List.setIfInBounds_toArray, List.set_cons_zero, List.set_cons_succ]))
                      (refine plan3_take (o := ?_) (v := ?_) (by simp only [List.getElem?_toArray, List.getElem?_cons_succ, List.getElem?_cons_zero]; rfl) (yields_run (by rfl) ?_) ?_; rotate_left; (focus (intro w' hw'; skip; go_simp <;> with_reducible rfl)); (simp only [Act.put, List.setIfInBounds_toArray, List.set_cons_zero, List.set_cons_succ]))
                      (refine plan3_take (o := ?_) (v := ?_) (by simp only [List.getElem?_toArray, List.getElem?_cons_succ, List.getElem?_cons_zero]; rfl) (yields_run (by rfl) ?_) ?_; rotate_left; (focus (intro w' hw'; skip; go_simp <;> with_reducible rfl)); (simp only [Act.put, List.setIfInBounds_toArray, List.set_cons_zero, List.set_cons_succ]))
                      (refine plan3_take (o := ?_) (v := ?_) (by simp only [List.getElem?_toArray, List.getElem?_cons_succ, List.getElem?_cons_zero]; rfl) (yields_run (by rfl) ?_) ?_; rotate_left; (focus (intro w' hw'; skip; go_simp <;> with_reducible rfl)); (simp only [Act.put, List.setIfInBounds_toArray, List.set_cons_zero, List.set_cons_succ]))
                      (refine plan3_take (o := ?_) (v := ?_) (by simp only [List.getElem?_toArray, List.getElem?_cons_succ, List.getElem?_cons_zero]; rfl) (yields_run (by rfl) ?_) ?_; rotate_left; (focus (intro w' hw'; skip; go_simp <;> with_reducible rfl)); (simp only [Act.put, List.setIfInBounds_toArray, List.set_cons_zero, List.set_cons_succ]))
                      (refine plan3_take (o := ?_) (v := ?_) (by simp only [List.getElem?_toArray, List.getElem?_cons_succ, List.getElem?_cons_zero]; rfl) (yields_run (by rfl) ?_) ?_; rotate_left; (focus (intro w' hw'; skip; go_simp <;> with_reducible rfl)); (simp only [Act.put, List.setIfInBounds_toArray, List.set_cons_zero, List.set_cons_succ]))
                      (refine plan3_take (o := ?_) (v := ?_) (by simp only [List.getElem?_toArray, List.getElem?_cons_succ, List.getElem?_cons_zero]; rfl) (yields_run (by rfl) ?_) ?_; rotate_left; (focus (intro w' hw'; skip; go_simp <;> with_reducible rfl)); (simp only [Act.put, List.setIfInBounds_toArray, List.set_cons_zero, List.set_cons_succ]))
                      (refine plan3_take (o := ?_) (v := ?_) (by simp only [List.getElem?_toArray, List.getElem?_cons_succ, List.getElem?_cons_zero]; rfl) (yields_run (by rfl) ?_) ?_; rotate_left; (focus (intro w' hw'; have q := HF2.out _ hw'.2; go_simp <;> with_reducible rfl)); (simp only [Act.put, List.setIfInBounds_toArray, List.set_cons_zero, List.set_cons_succ]))
                      refine plan3_both (o1 := ?_) (o2 := ?_) (by simp only [List.getElem?_toArray, List.getElem?_cons_succ, List.getElem?_cons_zero]; rfl) (by simp only [List.getElem?_toArray, List.getElem?_cons_succ, List.getElem?_cons_zero]; rfl) ?_ ?_
                      · intro R HR
                        have HE2 := hide (HE1.out.alloc (.cells #[.int .u8 (ac.byte.toNat : Nat)] 5))
                        have HB2 := hide (show Blk (wD.alloc (.cells #[.int .u8 (ac.byte.toNat : Nat)] 5)) wD.heap.size 5 (bs [ac.byte]) from Blk.new wD 5 (bs [ac.byte]))
                        try simp only [World.size_alloc] at HB2
                        go_wp2_with fail
                        refine HR.out _ _ ⟨⟨(HE2.out.box (b, y) (by simp)).1, (HE2.out.box (w.heap.size, d) (by simp)).1⟩, HE2.out.bel⟩ ?_
                        clear HR
                        refine plan3_both (o1 := ?_) (o2 := ?_) (by simp only [List.getElem?_toArray, List.getElem?_cons_succ, List.getElem?_cons_zero]; rfl) (by simp only [List.getElem?_toArray, List.getElem?_cons_succ, List.getElem?_cons_zero]; rfl) ?_ ?_
                        · intro R HR
                          go_wp2_with fail
                          (with_reducible refine (HW.out _ _ (HE2.out.box (b, y) (by simp)).2.2.2 HB2.out).mono ?_)
                          rintro e v3 ⟨z3, rfl, hd, hi, hb⟩
                          have HE3 := hide (HE2.out.below hb)
                          have HZ3 := hide hd
                          have HI3 := hide hi
                          clear hd hi hb
                          go_wp2_with fail
                          refine HR.out _ _ ⟨⟨(HE3.out.box (b, y) (by simp)).1, (HE3.out.box (w.heap.size, d) (by simp)).1⟩, HE3.out.bel⟩ ?_
                          clear HR
                          (refine plan3_take (o := ?_) (v := ?_) (by simp only [List.getElem?_toArray, List.getElem?_cons_succ, List.getElem?_cons_zero]; rfl) (yields_run (by rfl) ?_) ?_; rotate_left; (focus (intro w' _; go_simp <;> with_reducible rfl)); (simp only [Act.put, List.setIfInBounds_toArray, List.set_cons_zero, List.set_cons_succ]))
                          (refine plan3_take (o := ?_) (v := ?_) (by simp only [List.getElem?_toArray, List.getElem?_cons_succ, List.getElem?_cons_zero]; rfl) (yields_run (by rfl) ?_) ?_; rotate_left; (focus (intro w' _; go_simp <;> with_reducible rfl)); (simp only [Act.put, List.setIfInBounds_toArray, List.set_cons_zero, List.set_cons_succ]))
                          (refine plan3_take (o := ?_) (v := ?_) (by simp only [List.getElem?_toArray, List.getElem?_cons_succ, List.getElem?_cons_zero]; rfl) (yields_run (by rfl) ?_) ?_; rotate_left; (focus (intro w' _; go_simp <;> with_reducible rfl)); (simp only [Act.put, List.setIfInBounds_toArray, List.set_cons_zero, List.set_cons_succ]))
                          refine plan3_run (o := ?_) (by simp only [List.getElem?_toArray, List.getElem?_cons_succ, List.getElem?_cons_zero]; rfl) ?_
                          intro R HR
                          have HE4 := hide (HE3.out.fresh (Nat.le_refl _))
                          try simp only [World.size_alloc] at HE4
                          have HL4 := hide HE3.out.lt
                          try simp only [World.size_alloc] at HL4
                          have HB4 := hide (HB2.out.alloc (.cells #[.slice none 0 0, .slice none 0 0, .int .i64 0, .bool false] 25))
                          have HI4 := hide (HI3.out.below (below_new _ (.cells #[.slice none 0 0, .slice none 0 0, .int .i64 0, .bool false] 25)))
                          go_wp2_with fail
                          refine HR.out _ _ ⟨⟨(HE4.out.box (b, y) (by simp)).1, (HE4.out.box (w.heap.size, d) (by simp)).1⟩, HE4.out.bel⟩ ?_
                          clear HR
                          refine plan3_run (o := ?_) (by simp only [List.getElem?_toArray, List.getElem?_cons_succ, List.getElem?_cons_zero]; rfl) ?_
                          intro R HR
                          have HX5 := hide (show Blk _ v3.heap.size 25 _ from (HE4.out.box (v3.heap.size, Dsk.zero) (by simp)).1)
                          have HE5 := hide (HE4.out.put1 (y := z3) HI4.out (fun p hp => Nat.ne_of_lt (HL4.out p hp)))
                          refine wpList_store_row rfl 25 (.tmp 13) (.tmp 113) rfl _ #[.slice z3.sa z3.ss.length z3.sc, .slice z3.pa z3.ps.length z3.pc, .int .i64 z3.left, .bool z3.stp] rfl rfl 25 _ HX5.out Try.size25 rfl (one25 _ _ _ _ _ _ _ _) ?_
                          refine HR.out _ _ ⟨⟨(HE5.out.box (b, y) (by simp)).1, (HE5.out.box (w.heap.size, d) (by simp)).1⟩, HE5.out.bel⟩ ?_
                          clear HR
                          refine plan3_run (o := ?_) (by simp only [List.getElem?_toArray, List.getElem?_cons_succ, List.getElem?_cons_zero]; rfl) ?_
                          intro R HR
                          go_wp2_with fail
                          refine HR.out _ _ ⟨⟨(HE5.out.box (b, y) (by simp)).1, (HE5.out.box (w.heap.size, d) (by simp)).1⟩, HE5.out.bel⟩ ?_
                          clear HR
                          refine plan3_done ?_
                          go_wp2_with fail
                          go_meet
                          case rel => exact ⟨_, _, rfl, rfl, HZ3, HE5⟩
                        · intro R HR
                          have HE3 := hide (HE2.out.fresh (Nat.le_refl _))
                          try simp only [World.size_alloc] at HE3
                          have HL3 := hide HE2.out.lt
                          try simp only [World.size_alloc] at HL3
                          have HB3 := hide (HB2.out.alloc (.cells #[.slice none 0 0, .slice none 0 0, .int .i64 0, .bool false] 25))
                          go_wp2_with fail
                          refine HR.out _ _ ⟨⟨(HE3.out.box (b, y) (by simp)).1, (HE3.out.box (w.heap.size, d) (by simp)).1⟩, HE3.out.bel⟩ ?_
                          clear HR
                          refine plan3_run (o := ?_) (by simp only [List.getElem?_toArray, List.getElem?_cons_succ, List.getElem?_cons_zero]; rfl) ?_
                          intro R HR
                          go_wp2_with fail
                          (with_reducible refine (HW.out _ _ (HE3.out.box (b, y) (by simp)).2.2.2 HB3.out).mono ?_)
                          rintro e v4 ⟨z4, rfl, hd, hi, hb⟩
                          have HE4 := hide (HE3.out.below hb)
                          have HZ4 := hide hd
                          have HI4 := hide hi
                          clear hd hi hb
                          go_wp2_with fail
                          refine HR.out _ _ ⟨⟨(HE4.out.box (b, y) (by simp)).1, (HE4.out.box (w.heap.size, d) (by simp)).1⟩, HE4.out.bel⟩ ?_
                          clear HR
                          (refine plan3_take (o := ?_) (v := ?_) (by simp only [List.getElem?_toArray, List.getElem?_cons_succ, List.getElem?_cons_zero]; rfl) (yields_run (by rfl) ?_) ?_; rotate_left; (focus (intro w' _; go_simp <;> with_reducible rfl)); (simp only [Act.put, List.setIfInBounds_toArray, List.set_cons_zero, List.set_cons_succ]))
                          (refine plan3_take (o := ?_) (v := ?_) (by simp only [List.getElem?_toArray, List.getElem?_cons_succ, List.getElem?_cons_zero]; rfl) (yields_run (by rfl) ?_) ?_; rotate_left; (focus (intro w' _; go_simp <;> with_reducible rfl)); (simp only [Act.put, List.setIfInBounds_toArray, List.set_cons_zero, List.set_cons_succ]))
                          (refine plan3_take (o := ?_) (v := ?_) (by simp only [List.getElem?_toArray, List.getElem?_cons_succ, List.getElem?_cons_zero]; rfl) (yields_run (by rfl) ?_) ?_; rotate_left; (focus (intro w' _; go_simp <;> with_reducible rfl)); (simp only [Act.put, List.setIfInBounds_toArray, List.set_cons_zero, List.set_cons_succ]))
                          refine plan3_run (o := ?_) (by simp only [List.getElem?_toArray, List.getElem?_cons_succ, List.getElem?_cons_zero]; rfl) ?_
                          intro R HR
                          have HX5 := hide (show Blk _ (wD.heap.size + 1) 25 _ from (HE4.out.box ((wD.heap.size + 1), Dsk.zero) (by simp)).1)
                          have HE5 := hide (HE4.out.put1 (y := z4) HI4.out (fun p hp => Nat.ne_of_lt (HL3.out p hp)))
                          refine wpList_store_row rfl 25 (.tmp 13) (.tmp 113) rfl _ #[.slice z4.sa z4.ss.length z4.sc, .slice z4.pa z4.ps.length z4.pc, .int .i64 z4.left, .bool z4.stp] rfl rfl 25 _ HX5.out Try.size25 rfl (one25 _ _ _ _ _ _ _ _) ?_
                          refine HR.out _ _ ⟨⟨(HE5.out.box (b, y) (by simp)).1, (HE5.out.box (w.heap.size, d) (by simp)).1⟩, HE5.out.bel⟩ ?_
                          clear HR
                          refine plan3_run (o := ?_) (by simp only [List.getElem?_toArray, List.getElem?_cons_succ, List.getElem?_cons_zero]; rfl) ?_
                          intro R HR
                          go_wp2_with fail
                          refine HR.out _ _ ⟨⟨(HE5.out.box (b, y) (by simp)).1, (HE5.out.box (w.heap.size, d) (by simp)).1⟩, HE5.out.bel⟩ ?_
                          clear HR
                          refine plan3_done ?_
                          go_wp2_with fail
                          go_meet
                          case rel => exact ⟨_, _, rfl, rfl, HZ4, HE5⟩
                      · intro R HR
                        have HE2 := hide (HE1.out.fresh (Nat.le_refl _))
                        try simp only [World.size_alloc] at HE2
                        have HL2 := hide HE1.out.lt
                        try simp only [World.size_alloc] at HL2
                        go_wp2_with fail
                        refine HR.out _ _ ⟨⟨(HE2.out.box (b, y) (by simp)).1, (HE2.out.box (w.heap.size, d) (by simp)).1⟩, HE2.out.bel⟩ ?_
                        clear HR
                        refine plan3_run (o := ?_) (by simp only [List.getElem?_toArray, List.getElem?_cons_succ, List.getElem?_cons_zero]; rfl) ?_
                        intro R HR
                        have HE3 := hide (HE2.out.alloc (.cells #[.int .u8 (ac.byte.toNat : Nat)] 5))
                        have HB3 := hide (show Blk ((wD.alloc (.cells #[.slice none 0 0, .slice none 0 0, .int .i64 0, .bool false] 25)).alloc (.cells #[.int .u8 (ac.byte.toNat : Nat)] 5)) (wD.alloc (.cells #[.slice none 0 0, .slice none 0 0, .int .i64 0, .bool false] 25)).heap.size 5 (bs [ac.byte]) from Blk.new (wD.alloc (.cells #[.slice none 0 0, .slice none 0 0, .int .i64 0, .bool false] 25)) 5 (bs [ac.byte]))
                        try simp only [World.size_alloc] at HB3
                        go_wp2_with fail
                        refine HR.out _ _ ⟨⟨(HE3.out.box (b, y) (by simp)).1, (HE3.out.box (w.heap.size, d) (by simp)).1⟩, HE3.out.bel⟩ ?_
                        clear HR
                        refine plan3_run (o := ?_) (by simp only [List.getElem?_toArray, List.getElem?_cons_succ, List.getElem?_cons_zero]; rfl) ?_
                        intro R HR
                        go_wp2_with fail
                        (with_reducible refine (HW.out _ _ (HE3.out.box (b, y) (by simp)).2.2.2 HB3.out).mono ?_)
                        rintro e v4 ⟨z4, rfl, hd, hi, hb⟩
                        have HE4 := hide (HE3.out.below hb)
                        have HZ4 := hide hd
                        have HI4 := hide hi
                        clear hd hi hb
                        go_wp2_with fail
                        refine HR.out _ _ ⟨⟨(HE4.out.box (b, y) (by simp)).1, (HE4.out.box (w.heap.size, d) (by simp)).1⟩, HE4.out.bel⟩ ?_
                        clear HR
                        (refine plan3_take (o := ?_) (v := ?_) (by simp only [List.getElem?_toArray, List.getElem?_cons_succ, List.getElem?_cons_zero]; rfl) (yields_run (by rfl) ?_) ?_; rotate_left; (focus (intro w' _; go_simp <;> with_reducible rfl)); (simp only [Act.put, List.setIfInBounds_toArray, List.set_cons_zero, List.set_cons_succ]))
                        (refine plan3_take (o := ?_) (v := ?_) (by simp only [List.getElem?_toArray, List.getElem?_cons_succ, List.getElem?_cons_zero]; rfl) (yields_run (by rfl) ?_) ?_; rotate_left; (focus (intro w' _; go_simp <;> with_reducible rfl)); (simp only [Act.put, List.setIfInBounds_toArray, List.set_cons_zero, List.set_cons_succ]))
                        (refine plan3_take (o := ?_) (v := ?_) (by simp only [List.getElem?_toArray, List.getElem?_cons_succ, List.getElem?_cons_zero]; rfl) (yields_run (by rfl) ?_) ?_; rotate_left; (focus (intro w' _; go_simp <;> with_reducible rfl)); (simp only [Act.put, List.setIfInBounds_toArray, List.set_cons_zero, List.set_cons_succ]))
                        refine plan3_run (o := ?_) (by simp only [List.getElem?_toArray, List.getElem?_cons_succ, List.getElem?_cons_zero]; rfl) ?_
                        intro R HR
                        have HX5 := hide (show Blk _ wD.heap.size 25 _ from (HE4.out.box (wD.heap.size, Dsk.zero) (by simp)).1)
                        have HE5 := hide (HE4.out.put1 (y := z4) HI4.out (fun p hp => Nat.ne_of_lt (HL2.out p hp)))
                        refine wpList_store_row rfl 25 (.tmp 13) (.tmp 113) rfl _ #[.slice z4.sa z4.ss.length z4.sc, .slice z4.pa z4.ps.length z4.pc, .int .i64 z4.left, .bool z4.stp] rfl rfl 25 _ HX5.out Try.size25 rfl (one25 _ _ _ _ _ _ _ _) ?_
                        refine HR.out _ _ ⟨⟨(HE5.out.box (b, y) (by simp)).1, (HE5.out.box (w.heap.size, d) (by simp)).1⟩, HE5.out.bel⟩ ?_
                        clear HR
                        refine plan3_run (o := ?_) (by simp only [List.getElem?_toArray, List.getElem?_cons_succ, List.getElem?_cons_zero]; rfl) ?_
                        intro R HR
                        go_wp2_with fail
                        refine HR.out _ _ ⟨⟨(HE5.out.box (b, y) (by simp)).1, (HE5.out.box (w.heap.size, d) (by simp)).1⟩, HE5.out.bel⟩ ?_
                        clear HR
                        refine plan3_done ?_
                        go_wp2_with fail
                        go_meet
                        case rel => exact ⟨_, _, rfl, rfl, HZ4, HE5⟩
                    case rest =>
                      obtain ⟨g, z, rfl, rfl, HZ, H5⟩ := hcut
                      clear HE0 HW HF2 HF1 HE
                      generalize wc = w5 at *
                      obtain ⟨hbz, -, -, hiz⟩ := H5.out.box (g, z) (by simp)
                      obtain ⟨c0, c1, c2, c3⟩ := hbz.c4
                      have HXB := hide (show Blk w5 b 25 y.cs from (H5.out.box (b, y) (by simp)).1)
                      have H6 := hide ((H5.out.sub (l' := [(a, x), (b, y), (w.heap.size, d)]) (fun p hp => List.mem_cons_of_mem _ hp)).put2 (y := z) hiz hab (fun p hp => by
                        simp only [List.mem_cons, List.not_mem_nil, or_false] at hp
                        subst hp
                        simp only
                        omega))
                      clear hbz hiz
                      go_wp2_with (refine wpList_store_row rfl 25 (.tmp 6) (.tmp 117) rfl b #[.slice z.sa z.ss.length z.sc, .slice z.pa z.ps.length z.pc, .int .i64 z.left, .bool z.stp] rfl rfl 25 _ HXB.out Try.size25 rfl (one25 _ _ _ _ _ _ _ _) ?_)
                      go_roundw
                      case rel => exact ⟨k2 + 1, z, by omega, by go_num, HZ, H6⟩
                      case measure => simp [intOf]; omega
                  · obtain rfl : k2 = l.length := by omega
                    have HYS : Hid (y.d.sync = (x.d, n)) := hide (by
                      rw [HYD.out, List.take_of_length_le (by rw [wl_len]; exact Nat.le_refl _)]
                      exact HF.out)
                    obtain ⟨hby, -, -, hiy⟩ := HE.out.box (b, y) (by simp)
                    obtain ⟨c0, c1, c2, c3⟩ := hby.c4
                    have HSY := hide (sync_is _ rfl HYS.out hiy)
                    clear hby hiy hlt2
                    go_wp2_with fail
                    refine HSY.out.mono ?_
                    rintro e w7 ⟨y', rfl, hy', hi7, hb⟩
                    have HYB := hide (show Blk w7 b 25 y.cs from ((HE.out.below hb).box (b, y) (by simp)).1)
                    have H7 := hide ((HE.out.below hb).put2 (y := y') hi7 hab (fun p hp => by
                      simp only [List.mem_cons, List.not_mem_nil, or_false] at hp
                      subst hp
                      simp only
                      omega))
                    have HY' := hide hy'
                    clear hy' hi7 hb HSY c0 c1 c2 c3 HE
                    obtain ⟨hbx, -, -, hix⟩ := H7.out.box (a, x) (by simp)
                    obtain ⟨hby, -, -, hiy⟩ := H7.out.box (b, y') (by simp)
                    obtain ⟨c0, c1, c2, c3⟩ := hbx.c4
                    obtain ⟨e0, e1, e2, e3⟩ := hby.c4
                    have HSA := hide (same_any x y' _ hix hiy HY'.out.symm)
                    clear hbx hby hix hiy
                    go_wp2_with (refine wpList_store_row rfl 25 (.tmp 6) (.tmp 121) rfl b #[.slice y'.sa y'.ss.length y'.sc, .slice y'.pa y'.ps.length y'.pc, .int .i64 y'.left, .bool y'.stp] rfl rfl 25 _ HYB.out Try.size25 rfl (one25 _ _ _ _ _ _ _ _) ?_)
                    refine HSA.out.mono ?_
                    rintro e w8 ⟨rfl, hb8⟩
                    have HB8 := hide (below_one H7.out.bel hb8)
                    clear hb8
                    go_wp2_with fail
                    go_ret
                    exact ⟨rfl, HB8.out⟩
    · rw [show chk d.d = 40 by simp [chk, hv]] at HCK
      go_wp2_with fail
      refine HCK.out.mono ?_
      rintro e w3 ⟨rfl, hb⟩
      have H3 := hide (H2.out.below hb)
      clear hb HCK H2 c0 c1 c2 c3
      go_wp2_with fail
      go_ret
      exact ⟨rfl, H3.out.bel⟩
  · have hc : f = false ∨ (f = true ∧ decide ((20 : Int) < (l.length : Int)) = true) ∨ (f = true ∧ decide ((20 : Int) < (l.length : Int)) = false ∧ decide (0 < d.ps.length) = true) ∨ (f = true ∧ decide ((20 : Int) < (l.length : Int)) = false ∧ decide (0 < d.ps.length) = false ∧ ((d.ss.length : Int) == 0) = true) := by
      simp only [decide_eq_true_eq, decide_eq_false_iff_not, beq_iff_eq]
      cases f
      · exact .inl rfl
      · simp only [true_and] at hg ⊢; right; omega
    clear hg
    rcases hc with rfl | ⟨rfl, h1⟩ | ⟨rfl, h1, h2⟩ | ⟨rfl, h1, h2, h3⟩
    all_goals
      go_wp2_with fail
      go_ret
      exact ⟨rfl, H2.out.bel⟩
end Go.Proofs.Ytfhfmnlkpcmgfaa
