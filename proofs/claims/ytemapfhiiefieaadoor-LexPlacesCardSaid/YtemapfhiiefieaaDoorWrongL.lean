/- LexWrong: its walk. -/
import Derived.Test.YtemapfhiiefieaaDoorPur
namespace Go.Proofs.YtemapfhiiefieaaDoor
open Go.RowKit

theorem str_app (a b : List UInt8) : str a ++ str b = str (a ++ b) := by
  apply ByteArray.ext
  simp
theorem wide (w : World) {w1 w2 : World} (h : Below w.heap.size w w1) (k : Below w1.heap.size w1 w2) : Below w.heap.size w w2 := below_one h k

set_option maxRecDepth 10000 in
set_option maxHeartbeats 1600000 in
theorem wrong_walk (l m : List UInt8) (w : World) (hT : Tab w) (hP : Pow w) (hl : l.length ≤ 140737488351232) (hm : m.length ≤ 140737488351232) :
    Calls Tryd.prog 9 #[.string (str l), .string (str m)] w fun e w' => e = .returned (.bool true) ∧ Below w.heap.size w w' := by
  have H0 := hide (Ks.new hT hP)
  have hs := str_size l
  have hs2 := str_size m
  clear hT hP
  by_cases h6 : 3000 < l.length + m.length
  · have h6d : decide ((3000 : Int) < (l.length : Int) + (m.length : Int)) = true := by simp; omega
    go_enter Tryd.func9, Tryd.ntmps9
    go_wp2_with fail
    with_reducible refine (sane_any w H0.out.tab H0.out.pow).mono ?_
    rintro e w1 ⟨rfl, hb⟩
    have HB := hide hb
    clear hb
    go_wp2_with fail
    go_ret
    exact ⟨rfl, HB.out⟩
  · have h6d : decide ((3000 : Int) < (l.length : Int) + (m.length : Int)) = false := by simp; omega
    go_enter Tryd.func9, Tryd.ntmps9
    go_wp2_with fail
    with_reducible refine (sane_any w H0.out.tab H0.out.pow).mono ?_
    rintro e w1 ⟨rfl, hb⟩
    have H1 := hide (H0.out.later hb)
    clear hb H0
    go_wp2_with fail
    refine (lex_ans l w1 H1.out.tab (by omega)).mono ?_
    rintro e w2 ⟨ha, hb⟩
    have H2 := hide (H1.out.later hb)
    clear hb H1
    rw [lexS_R] at ha
    cases hx : lexR l 0 with
    | ok ts =>
      rw [hx] at ha
      obtain ⟨A, c, rfl, _, _⟩ := ha
      go_wp2_with fail
      go_ret
      exact ⟨rfl, H2.out.1.1⟩
    | error p =>
      rw [hx] at ha
      obtain rfl := ha
      have HX := hide (fun m => lexR_bad m l 0 p hx)
      have hp := (HX.out []).2.1
      simp only [Nat.zero_add] at hp
      have hp2 : decide ((l.length : Int) ≤ (p : Int)) = false := by simp; omega
      have hp3 : decide ((p : Int) < 0) = false := by simp
      clear hx
      go_wp2_with fail
      rw [str_slice]
      obtain ⟨ts, hts⟩ := (HX.out []).2.2.2.1
      rw [Nat.sub_zero, ← lexS_R] at hts
      with_reducible refine (lex_ok (l.take p) ts w2 H2.out.tab (by rw [List.length_take]; omega) hts).mono ?_
      rintro e w3 ⟨A, c, rfl, _, hb⟩
      have H3 := hide (H2.out.later hb)
      clear hb H2 hts
      go_wp2_with fail
      rw [show (str l ++ (⟨#[32]⟩ : ByteArray) ++ str m) = str (l ++ 32 :: m) by rw [show (⟨#[32]⟩ : ByteArray) = str [32] from rfl, str_app, str_app, List.append_assoc]; rfl]
      have hbad := (HX.out m).2.2.2.2
      rw [← lexS_R] at hbad
      with_reducible refine (lex_wrong (l ++ 32 :: m) p w3 H3.out.tab (by simp; omega) hbad).mono ?_
      rintro e w4 ⟨rfl, hb⟩
      have H4 := hide (H3.out.later hb)
      clear hb H3 hbad
      go_wp2_with fail
      have hdr := (HX.out []).2.2.1
      rw [Nat.sub_zero, ← lexS_R] at hdr
      rw [show (str l).extract p l.length = str (l.drop p) by rw [← str_drop, hs]]
      with_reducible refine (lex_wrongn (l.drop p) 0 w4 H4.out.tab (by rw [List.length_drop]; omega) hdr 0 rfl).mono ?_
      rintro e w5 ⟨rfl, hb⟩
      have H5 := hide (H4.out.later hb)
      clear hb H4 hdr
      go_wp2_with fail
      go_ret
      exact ⟨rfl, H5.out.1.1⟩
theorem wrong_any (s t : ByteArray) (w : World) (h : Tab w ∧ Pow w) (hs : s.size ≤ 140737488351232) (ht : t.size ≤ 140737488351232) :
    Calls Tryd.prog 9 #[.string s, .string t] w fun e w' => e = .returned (.bool true) ∧ Below w.heap.size w w' := by
  have := wrong_walk s.data.toList t.data.toList w h.1 h.2 (by simpa using hs) (by simpa using ht)
  rwa [str_data, str_data] at this
end Go.Proofs.YtemapfhiiefieaaDoor
