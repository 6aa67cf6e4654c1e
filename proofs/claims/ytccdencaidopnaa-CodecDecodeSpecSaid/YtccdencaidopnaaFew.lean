/- count, Few and few of the statements: what is few is small, and its encoding is short. -/
import Derived.Test.YtccdencaidopnaaSane2
namespace Go.Proofs.Ytccdencaidopnaa
open Go.RowKit

theorem szs_take {l : List VT} {k : Nat} (h : k < l.length) : VT.sz.szs (l.take (k + 1)) = VT.sz.szs (l.take k) + (l[k]).sz := by
  have snoc : ∀ (l : List VT) (t : VT), VT.sz.szs (l ++ [t]) = VT.sz.szs l + t.sz := by
    intro l t
    induction l with
    | nil => simp [VT.sz.szs]
    | cons a r ih => simp only [List.cons_append, VT.sz.szs, ih]; omega
  rw [List.take_succ_eq_append_getElem h, snoc]

/-- Few parts: few elements, and a short encoding. -/
def Small (r : Nat) (t : VT) : Prop := t.sz ≤ r ∧ t.enc.length ≤ 210 * r

theorem small_of {t : VT} {n : Nat} (hs : t.str.size < 18446744073709551616) (hl : t.els.length < 18446744073709551616) (h1 : VT.sz.szs t.els + (1 + t.str.size / 200) ≤ n) (h2 : (VT.enc.encs t.els).length + 210 * (1 + t.str.size / 200) ≤ 210 * n) (hu : uns t.num < 18446744073709551616) : Small n t := by
  refine ⟨by rw [VT.sz_eq]; omega, ?_⟩
  have a := (numeral_len hs).2.1
  have b := (numeral_len hl).2.1
  have c := (numeral_len hu).2.1
  have hd : t.str.data.toList.length = t.str.size := by rw [Array.length_toList]; rfl
  rw [VT.enc_eq]
  split
  · simp only [List.length_cons]; omega
  · split
    · simp only [List.length_cons, List.length_append, hd]; omega
    · simp only [List.length_cons, List.length_append]; omega

def CountPost (d : Nat) (t : VT) (w : World) (e : Ending) (w' : World) : Prop := (∃ r : Nat, e = .returned (.int .i64 r) ∧ r ≤ 1000000000000 + 1000 * d ∧ Hid (r ≤ 200 → Small r t)) ∧ Below w.heap.size w w'
def CountAt (d : Nat) : Prop := ∀ (t : VT) (n : Int) (w : World), n = (d : Int) - 1 → t.In w → Calls Try.prog 39 #[t.val, .int .i64 n] w (CountPost d t w)

set_option maxRecDepth 10000 in
set_option maxHeartbeats 1600000 in
theorem count_big (d : Nat) (t : VT) (n : Int) (w : World) (hin : t.In w) (h : n < 0 ∨ 150 < t.els.length) : Calls Try.prog 39 #[t.val, .int .i64 n] w (CountPost d t w) := by
  obtain ⟨_, _, hs, hl⟩ := hin.facts
  have fin := hide (show CountPost d t w (.returned (.int .i64 1000)) (w.alloc (.cells #[.int .i64 t.kind, .int .i64 t.num, .string t.str, t.sl] 24)) from ⟨⟨1000, rfl, by omega, fun h => by omega⟩, below_new _ _⟩)
  go_enter Try.func39, Try.ntmps39
  go_wp2_with fail
  all_goals go_ret
  all_goals exact fin.out

set_option maxRecDepth 10000 in
set_option maxHeartbeats 1600000 in
theorem count_step (d : Nat) (hd : d ≤ 100) (ih : CountAt d) : CountAt (d + 1) := by
  intro t n w hn hin
  by_cases hbig : n < 0 ∨ 150 < t.els.length
  · exact count_big (d + 1) t n w hin hbig
  · obtain ⟨_, hnum, hs, hl⟩ := hin.facts
    have hn0 : 0 ≤ n := by omega
    have hn1 : n ≤ 100 := by omega
    have hlen : t.els.length ≤ 150 := by omega
    have HN := hide (show n - 1 = (d : Int) - 1 by omega)
    have HU := hide (uns_lt hnum.1 hnum.2)
    have IH := hide ih
    obtain ⟨A, hv, hsl, hA⟩ := hin.open
    have HSL := hide hsl
    have bx := hide (Box.new w t)
    clear hbig hn ih hv hsl hnum
    go_enter Try.func39, Try.ntmps39
    go_wp2_with fail
    have hin1 := hin.alloc (.cells #[.int .i64 t.kind, .int .i64 t.num, .string t.str, t.sl] 24)
    have hb0 := hide (below_new w (.cells #[.int .i64 t.kind, .int .i64 t.num, .string t.str, t.sl] 24))
    generalize w.alloc (.cells #[.int .i64 t.kind, .int .i64 t.num, .string t.str, t.sl] 24) = W1 at *
    go_loopw [5, 6] (fun x i wr => ∃ m k : Nat, x = .int .i64 m ∧ i = .int .i64 k ∧ k ≤ t.els.length ∧ m ≤ 1000000000000 + 1000 * d + 1000 ∧ Hid (m ≤ 200 → VT.sz.szs (t.els.take k) + (1 + t.str.size / 200) ≤ m ∧ (VT.enc.encs (t.els.take k)).length + 210 * (1 + t.str.size / 200) ≤ 210 * m) ∧ Below W1.heap.size W1 wr) (fun _ i _ => t.els.length - (intOf i).toNat)
    case atStart =>
      refine ⟨1 + t.str.size / 200, 0, by simp, rfl, Nat.zero_le _, by omega, fun _ => ?_, Below.refl _ _⟩
      simp [VT.sz.szs, VT.enc.encs]
    case round =>
      obtain ⟨m, k, rfl, rfl, hk, hm, HM, hb⟩ := hrel
      obtain ⟨_, _, _, y3⟩ := (bx.out.later hb).cells
      rw [HSL.out] at y3
      by_cases hlt : k < t.els.length
      · by_cases hm2 : m ≤ 1000
        · obtain ⟨b, o, rfl, ha⟩ := hA k hlt
          obtain ⟨⟨c0, c1, c2, c3⟩, hink⟩ := (hin1.later hb).el ha hlt
          have HC := hide (IH.out t.els[k] (n - 1) wr HN.out hink)
          have HT1 := hide (szs_take hlt)
          have HT2 := hide (congrArg List.length (VT.encs_take hlt))
          clear ha
          go_wp2_with (go_at_call 39; refine HC.out.mono ?_; rintro e w' ⟨⟨r, rfl, hr1, hr2⟩, hb'⟩)
          refine ⟨⟨m + r, k + 1, by simp, by go_num, by omega, by omega, fun h => ?_, below_one hb hb'⟩, by simp [intOf]; omega⟩
          have h1 := HM.out (by omega)
          have h2 := hr2.out (by omega)
          have e1 := HT1.out
          have e2 := HT2.out
          rw [List.length_append] at e2
          have h3 := h2.1
          have h4 := h2.2
          omega
        · have hfin := hide (show CountPost (d + 1) t w (.returned (.int .i64 (m : Nat))) wr from ⟨⟨m, rfl, by omega, fun h => by omega⟩, below_one hb0.out hb⟩)
          go_wp2_with fail
          go_ret
          exact hfin.out
      · obtain rfl : k = t.els.length := by omega
        have hfin := hide (show CountPost (d + 1) t w (.returned (.int .i64 (m : Nat))) wr from ⟨⟨m, rfl, by omega, fun h => by
          have h1 := HM.out h
          rw [List.take_length] at h1
          exact small_of (by omega) (by omega) h1.1 h1.2 HU.out⟩, below_one hb0.out hb⟩)
        go_wp2_with fail
        go_ret
        exact hfin.out

theorem count_all (d : Nat) : d ≤ 100 → CountAt d := by
  induction d with
  | zero => exact fun _ t n w hn hin => count_big 0 t n w hin (.inl (by omega))
  | succ d ih => exact fun h => count_step d (by omega) (ih (by omega))

def FewPost (P : Prop) (w : World) (e : Ending) (w' : World) : Prop := ∃ f : Bool, e = .returned (.bool f) ∧ Hid (f = true → P) ∧ Below w.heap.size w w'

set_option maxHeartbeats 800000 in
theorem few1_any (t : VT) (w : World) (hin : t.In w) : Calls Try.prog 25 #[t.val, .int .i64 20] w (FewPost (Small 200 t) w) := by
  have HC := hide (count_all 21 (by omega) t 20 _ (by omega) (hin.alloc (.cells #[.int .i64 t.kind, .int .i64 t.num, .string t.str, t.sl] 24)))
  go_enter Try.func25, Try.ntmps25
  go_wp2_with (go_at_call 39; refine HC.out.mono ?_; rintro e w' ⟨⟨r, rfl, hr1, hr2⟩, hb'⟩)
  have hfin := hide (show FewPost (Small 200 t) w (.returned (.bool (decide ((r : Int) ≤ 200)))) w' from ⟨_, rfl, fun h => by
    have h1 : r ≤ 200 := by simp at h; omega
    have h2 := hr2.out h1
    exact ⟨Nat.le_trans h2.1 h1, Nat.le_trans h2.2 (by omega)⟩, below_two (Below.refl _ _) hb'⟩)
  go_ret
  exact hfin.out

set_option maxRecDepth 10000 in
set_option maxHeartbeats 800000 in
theorem few_any (b o cap : Nat) (l : List VT) (w : World) (hlen : l.length * 48 ≤ 140737488351232)
    (hat : ∀ i (h : i < l.length), VT.At w b (o + i * 4) l[i] ∧ (l[i]).In w) :
    Calls Try.prog 11 #[.slice (some ⟨b, o, none⟩) l.length cap] w (FewPost (∀ i (h : i < l.length), Small 200 l[i]) w) := by
  go_enter Try.func11, Try.ntmps11
  go_wp2_with fail
  go_loopw [7] (fun i wr => ∃ k : Nat, k ≤ l.length ∧ i = .int .i64 k ∧ Hid (∀ j (h : j < l.length), j < k → Small 200 l[j]) ∧ Below w.heap.size w wr) (fun i _ => l.length - (intOf i).toNat)
  case atStart => exact ⟨0, Nat.zero_le _, rfl, fun j h hj => by omega, Below.refl _ _⟩
  case round =>
    obtain ⟨k, hk, rfl, HW, hb⟩ := hrel
    by_cases hlt : k < l.length
    · obtain ⟨hc, hin⟩ := hat k hlt
      obtain ⟨c0, c1, c2, c3⟩ := hc.below hb (Nat.le_refl _)
      have HC := fun W (hW : Below wr.heap.size wr W) => hide (few1_any l[k] W ((hin.later hb).later hW))
      clear hin hc
      go_wp2_with fail
      refine (HC _ (below_new _ _)).out.mono ?_
      rintro e w1 ⟨f, rfl, hf, hb1⟩
      cases f with
      | true =>
        go_wp2_with fail
        refine ⟨⟨k + 1, by omega, by go_num, fun j h hj => ?_, below_two hb hb1⟩, by simp [intOf]; omega⟩
        by_cases e : j = k
        · subst e; exact hf.out (by simp)
        · exact HW.out j h (by omega)
      | false =>
        have hfin := hide (show FewPost (∀ i (h : i < l.length), Small 200 l[i]) w (.returned (.bool false)) w1 from ⟨false, rfl, (fun h => by cases h), below_two hb hb1⟩)
        go_wp2_with fail
        go_ret
        exact hfin.out
    · obtain rfl : k = l.length := by omega
      have hfin := hide (show FewPost (∀ i (h : i < l.length), Small 200 l[i]) w (.returned (.bool true)) wr from ⟨true, rfl, fun _ i h => HW.out i h h, hb⟩)
      go_wp2_with fail
      go_ret
      exact hfin.out
end Go.Proofs.Ytccdencaidopnaa
