/- LexNames: its walk. -/
import Derived.Test.YtemapfhiiefieaaDoorPur
namespace Go.Proofs.YtemapfhiiefieaaDoor
open Go.RowKit

theorem takeWhile_full {p : UInt8 → Bool} {l : List UInt8} (h : (l.takeWhile p).length = l.length) : l.takeWhile p = l :=
  (List.takeWhile_prefix p).eq_of_length h
/-- A name is one token. -/
theorem lex_name {s : List UInt8} (h : nameB s = true) : lexS s = .ok [⟨1, s, 0, 0⟩] := by
  match s, h with
  | x :: r, h =>
    have h' := h
    simp only [nameB, List.length_cons, Nat.zero_lt_succ, dif_pos, Bool.and_eq_true, beq_iff_eq, List.getElem_cons_zero] at h'
    have hw : (x :: r).takeWhile isNm = x :: r := takeWhile_full (by rw [h'.2]; rfl)
    have hc : cls x = 4 := by have := h'.1.2; simpa [isLt] using this
    have hst : stp (x :: r) = some ((x :: r).length, some (1, x :: r, 0)) := by
      simp only [stp, hw, h, if_pos]
      simp [hc]
    rw [lexS_R, lexR_tok hst, List.drop_length, lexR_nil]
    rfl
/-- One token that is a name and stands for the whole: it is one. -/
theorem name_lex {s : List UInt8} {a : Nat} (h : lexS s = .ok [⟨1, s, 0, a⟩]) : nameB s = true := by
  rw [lexS_R] at h
  have := (lexR_ok _ _ _ h).1 _ (List.mem_singleton.2 rfl)
  unfold Tk.ok at this
  rw [validT_tk] at this
  simpa using this

set_option maxRecDepth 10000 in
set_option maxHeartbeats 1600000 in
theorem names_walk (l : List UInt8) (w : World) (hT : Tab w) (hP : Pow w) (hl : l.length ≤ 140737488351232) :
    Calls Tryd.prog 10 #[.string (str l)] w fun e w' => e = .returned (.bool true) ∧ Below w.heap.size w w' := by
  have H0 := hide (Ks.new hT hP)
  have hs := str_size l
  clear hT hP
  by_cases h6 : 1000 < l.length
  · have h6d : decide ((1000 : Int) < (l.length : Int)) = true := by simp; omega
    go_enter Tryd.func10, Tryd.ntmps10
    go_wp2_with fail
    with_reducible refine (sane_any w H0.out.tab H0.out.pow).mono ?_
    rintro e w1 ⟨rfl, hb⟩
    have HB := hide hb
    clear hb
    go_wp2_with fail
    go_ret
    exact ⟨rfl, HB.out⟩
  · have h6d : decide ((1000 : Int) < (l.length : Int)) = false := by simp; omega
    go_enter Tryd.func10, Tryd.ntmps10
    go_wp2_with fail
    with_reducible refine (sane_any w H0.out.tab H0.out.pow).mono ?_
    rintro e w1 ⟨rfl, hb⟩
    have H1 := hide (H0.out.later hb)
    clear hb H0
    go_wp2_with fail
    refine (lex_ans l w1 H1.out.tab (by omega)).mono ?_
    rintro e w2 ⟨ha, hb⟩
    have H2 := hide (H1.out.later hb)
    clear hb H1
    have HV := hide (show validT (Tk.tok ⟨1, l, 0, 0⟩) = nameB l by rw [validT_tk]; simp)
    have tail : ∀ (b : Bool), nameB l = b → ∀ W : World, Ks w W [] → Hid (∀ (W' : World), W' = W.alloc (.cells #[.int .i64 1, .string (str l), .int .i64 0, .int .i64 0] 35) → Calls Tryd.prog 16 #[.slice (some ⟨W.heap.size, 0, none⟩) 1 1] W' fun e w' => (∃ s, e = .returned (.tuple #[.string s, .int .i64 (if b = true then 0 else 30)])) ∧ Ks w w' []) := by
      intro b hb W hW
      refine hide fun W' hW' => ?_
      subst hb
      have hk := hW.news _ [⟨1, l, 0, 0⟩] _ hW' rfl
      refine (text16_any _ (toks [⟨1, l, 0, 0⟩]) 1 W' (by simp) (hk.at (by simp)) hk.tab hk.pow (by simp [toks]; omega) (by simp [joinT, textT, toks, Lib.join_one]; omega)).mono ?_
      rintro e w' ⟨he, hb⟩
      have hall : (toks [⟨1, l, 0, 0⟩]).all validT = nameB l := by
        simp only [toks, List.map_cons, List.map_nil, List.all_cons, List.all_nil, HV.out, Bool.and_true]
      rw [hall] at he
      refine ⟨?_, ⟨⟨below_one hk.1.1 hb, hk.1.2⟩, by simp⟩⟩
      cases hn : nameB l with
      | true => rw [hn, if_pos rfl] at he; exact ⟨_, he⟩
      | false => rw [hn, if_neg (by simp)] at he; exact ⟨_, he⟩
    have HN := hide (fun (W : World) (hW : Ks w W []) => name_any l W hW.tab (by omega))
    have HT := hide tail
    clear tail
    cases hx : lexS l with
    | error p =>
      rw [hx] at ha
      obtain rfl := ha
      have hnb : nameB l = false := by
        cases hn : nameB l with
        | false => rfl
        | true => rw [lex_name hn] at hx; cases hx
      go_wp2_with fail
      refine name_world ?_
      intro W3 HW3
      refine ((HT.out false hnb w2 H2.out).out W3 HW3.out).mono ?_
      rintro e w4 ⟨⟨s, rfl⟩, hk⟩
      have H4 := hide hk
      clear hk
      go_wp2_with fail
      refine (HN.out w4 H4.out).mono ?_
      rintro e w5 ⟨rfl, rfl⟩
      go_wp2_with fail
      go_ret
      exact ⟨rfl, H4.out.1.1⟩
    | ok ts =>
      rw [hx] at ha
      obtain ⟨A, c, rfl, ht, _⟩ := ha
      by_cases hlen : ts.length = 1
      · obtain ⟨t, rfl⟩ := List.length_eq_one_iff.1 hlen
        obtain ⟨b0, o0, rfl, _, x0, x1, x2, x3⟩ := ht 0 (by simp)
        simp only [toks, List.map_cons, List.getElem_cons_zero, Nat.zero_mul, Nat.add_zero] at x0 x1 x2 x3
        have hnb : nameB l = (t.kind == 1 && (decide (t.text = l) && (t.pos == 0 && t.n == 0))) := by
          rw [Bool.eq_iff_iff]
          constructor
          · intro h
            rw [lex_name h] at hx
            cases hx
            simp
          · intro h
            simp only [Bool.and_eq_true, beq_iff_eq, decide_eq_true_eq] at h
            obtain ⟨q1, q2, q3, q4⟩ := h
            obtain ⟨k, tx, n, p⟩ := t
            simp only at q1 q2 q3 q4
            subst q1 q2 q4
            exact name_lex hx
        have HNB := hide hnb
        clear hnb ht
        by_cases n0 : t.n = 0
        · have e4 : ((t.n : Int) == 0) = true := by simp [n0]
          go_wp2_with fail
          all_goals
            first
            | (have hv : nameB l = true := by
                rw [HNB.out]; simp; (repeat' apply And.intro) <;> (first | assumption | omega))
            | (have hv : nameB l = false := by
                rw [HNB.out]; simp; intros; first | contradiction | omega)
            clear HNB x0 x1 x2 x3
            refine name_world ?_
            intro W3 HW3
            refine ((HT.out _ hv w2 H2.out).out W3 HW3.out).mono ?_
            rintro e w4 ⟨⟨s, rfl⟩, hk⟩
            have H4 := hide hk
            clear hk
            go_wp2_with fail
            refine (HN.out w4 H4.out).mono ?_
            rintro e w5 ⟨rfl, rfl⟩
            go_wp2_with fail
            go_ret
            exact ⟨rfl, H4.out.1.1⟩
        · have e4 : ((t.n : Int) == 0) = false := by simp [n0]
          go_wp2_with fail
          all_goals
            first
            | (have hv : nameB l = true := by
                rw [HNB.out]; simp; (repeat' apply And.intro) <;> (first | assumption | omega))
            | (have hv : nameB l = false := by
                rw [HNB.out]; simp; intros; first | contradiction | omega)
            clear HNB x0 x1 x2 x3
            refine name_world ?_
            intro W3 HW3
            refine ((HT.out _ hv w2 H2.out).out W3 HW3.out).mono ?_
            rintro e w4 ⟨⟨s, rfl⟩, hk⟩
            have H4 := hide hk
            clear hk
            go_wp2_with fail
            refine (HN.out w4 H4.out).mono ?_
            rintro e w5 ⟨rfl, rfl⟩
            go_wp2_with fail
            go_ret
            exact ⟨rfl, H4.out.1.1⟩
      · have hnb : nameB l = false := by
          cases hn : nameB l with
          | false => rfl
          | true => rw [lex_name hn] at hx; cases hx; exact absurd rfl hlen
        have hv := hnb
        have hlen1 : ((ts.length : Int) == 1) = false := by simp; omega
        clear ht
        go_wp2_with fail
        refine name_world ?_
        intro W3 HW3
        refine ((HT.out _ hv w2 H2.out).out W3 HW3.out).mono ?_
        rintro e w4 ⟨⟨s, rfl⟩, hk⟩
        have H4 := hide hk
        clear hk
        go_wp2_with fail
        refine (HN.out w4 H4.out).mono ?_
        rintro e w5 ⟨rfl, rfl⟩
        go_wp2_with fail
        go_ret
        exact ⟨rfl, H4.out.1.1⟩
theorem names_any (s : ByteArray) (w : World) (h : Tab w ∧ Pow w) (hs : s.size ≤ 140737488351232) :
    Calls Tryd.prog 10 #[.string s] w fun e w' => e = .returned (.bool true) ∧ Below w.heap.size w w' := by
  have := names_walk s.data.toList w h.1 h.2 (by simpa using hs)
  rwa [str_data] at this
end Go.Proofs.YtemapfhiiefieaaDoor
