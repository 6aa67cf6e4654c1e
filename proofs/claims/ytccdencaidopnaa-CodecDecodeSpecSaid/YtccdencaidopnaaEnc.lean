/- Check, Size and Encode of the program: the error, and the length and the bytes of the encoding. -/
import Derived.Test.YtccdencaidopnaaWrL
namespace Go.Proofs.Ytccdencaidopnaa
open Go.RowKit

/-- The error of Check. -/
def chk (t : VT) : Nat := if t.wf = true then (if 16 < t.dep then 2 else 0) else 1

set_option maxHeartbeats 400000 in
theorem check_any (t : VT) (w : World) (hin : t.In w) (hsz : t.sz ≤ 1000000) : Calls Try.prog 16 #[t.val] w fun e w' => e = .returned (.int .i64 (chk t : Nat)) ∧ Below w.heap.size w w' := by
  have hd := VT.dep_le t
  have H1 := fun W hW => hide (wellFormed_any t.sz t (Nat.le_refl _) W hW)
  have H2 := fun W hW => hide (depth_any t.sz t (Nat.le_refl _) W hW hsz)
  by_cases hwf : t.wf = true
  · by_cases hdp : 16 < t.dep
    · have HC := hide (show chk t = 2 by simp [chk, hwf, hdp])
      have hgt : decide ((t.dep : Int) > 16) = true := by simp; omega
      rw [hwf] at H1
      clear hwf
      go_enter Try.func16, Try.ntmps16
      go_wp2_with (first | (go_at_call 30; refine (H1 _ (hin.alloc _)).out.mono ?_; rintro e w1 ⟨rfl, hb1⟩; have c0 := hb1.cell (p := ⟨w.heap.size, 0, none⟩) (by simp); have c1 := hb1.cell (p := ⟨w.heap.size, 1, none⟩) (by simp); have c2 := hb1.cell (p := ⟨w.heap.size, 2, none⟩) (by simp); have c3 := hb1.cell (p := ⟨w.heap.size, 3, none⟩) (by simp)) | (go_at_call 31; refine (H2 _ ((hin.alloc _).later ‹_›)).out.mono ?_; rintro e w2 ⟨rfl, hb2⟩))
      go_ret
      exact ⟨by rw [HC.out]; rfl, below_one (below_two (Below.refl _ _) hb1) hb2⟩
    · have HC := hide (show chk t = 0 by simp [chk, hwf, hdp])
      have hgt : decide ((t.dep : Int) > 16) = false := by simp; omega
      rw [hwf] at H1
      clear hwf
      go_enter Try.func16, Try.ntmps16
      go_wp2_with (first | (go_at_call 30; refine (H1 _ (hin.alloc _)).out.mono ?_; rintro e w1 ⟨rfl, hb1⟩; have c0 := hb1.cell (p := ⟨w.heap.size, 0, none⟩) (by simp); have c1 := hb1.cell (p := ⟨w.heap.size, 1, none⟩) (by simp); have c2 := hb1.cell (p := ⟨w.heap.size, 2, none⟩) (by simp); have c3 := hb1.cell (p := ⟨w.heap.size, 3, none⟩) (by simp)) | (go_at_call 31; refine (H2 _ ((hin.alloc _).later ‹_›)).out.mono ?_; rintro e w2 ⟨rfl, hb2⟩))
      go_ret
      exact ⟨by rw [HC.out]; rfl, below_one (below_two (Below.refl _ _) hb1) hb2⟩
  · have HC := hide (show chk t = 1 by simp [chk, hwf])
    rw [Bool.eq_false_iff.2 hwf] at H1
    clear hwf
    go_enter Try.func16, Try.ntmps16
    go_wp2_with (first | (go_at_call 30; refine (H1 _ (hin.alloc _)).out.mono ?_; rintro e w1 ⟨rfl, hb1⟩; have c0 := hb1.cell (p := ⟨w.heap.size, 0, none⟩) (by simp); have c1 := hb1.cell (p := ⟨w.heap.size, 1, none⟩) (by simp); have c2 := hb1.cell (p := ⟨w.heap.size, 2, none⟩) (by simp); have c3 := hb1.cell (p := ⟨w.heap.size, 3, none⟩) (by simp)) | (go_at_call 31; refine (H2 _ ((hin.alloc _).later ‹_›)).out.mono ?_; rintro e w2 ⟨rfl, hb2⟩))
    go_ret
    exact ⟨by rw [HC.out]; rfl, below_two (Below.refl _ _) hb1⟩

set_option maxHeartbeats 400000 in
theorem size_of (t : VT) (w : World) (hin : t.In w) (hsz : t.sz ≤ 1000000) (hlen : t.enc.length ≤ 4294967296) :
    Calls Try.prog 14 #[t.val] w fun e w' => e = .returned (.tuple #[.int .i64 (if chk t = 0 then (t.enc.length : Nat) else 0 : Nat), .int .i64 (chk t : Nat)]) ∧ Below w.heap.size w w' := by
  have H1 := fun W hW => hide (check_any t W hW hsz)
  have H2 := fun W hW => hide (size_any t.sz t (Nat.le_refl _) W hW hlen)
  by_cases hc : chk t = 0
  · have HC := hide hc
    rw [hc] at H1 ⊢
    clear hc
    go_enter Try.func14, Try.ntmps14
    go_wp2_with (first | (go_at_call 16; refine (H1 _ (hin.alloc _)).out.mono ?_; rintro e w1 ⟨rfl, hb1⟩; have c0 := hb1.cell (p := ⟨w.heap.size, 0, none⟩) (by simp); have c1 := hb1.cell (p := ⟨w.heap.size, 1, none⟩) (by simp); have c2 := hb1.cell (p := ⟨w.heap.size, 2, none⟩) (by simp); have c3 := hb1.cell (p := ⟨w.heap.size, 3, none⟩) (by simp)) | (go_at_call 27; refine (H2 _ ((hin.alloc _).later ‹_›)).out.mono ?_; rintro e w2 ⟨rfl, hb2⟩))
    go_ret2
    exact ⟨rfl, below_one (below_two (Below.refl _ _) hb1) hb2⟩
  · have hne : ((chk t : Int) != 0) = true := by simp; omega
    rw [if_neg hc]
    clear hc
    generalize chk t = c at *
    go_enter Try.func14, Try.ntmps14
    go_wp2_with (first | (go_at_call 16; refine (H1 _ (hin.alloc _)).out.mono ?_; rintro e w1 ⟨rfl, hb1⟩; have c0 := hb1.cell (p := ⟨w.heap.size, 0, none⟩) (by simp); have c1 := hb1.cell (p := ⟨w.heap.size, 1, none⟩) (by simp); have c2 := hb1.cell (p := ⟨w.heap.size, 2, none⟩) (by simp); have c3 := hb1.cell (p := ⟨w.heap.size, 3, none⟩) (by simp)))
    go_ret2
    exact ⟨rfl, below_two (Below.refl _ _) hb1⟩

theorem Box.later {w w' : World} {X : Nat} {t : VT} (h : Box w X t) (hb : Below w.heap.size w w') : Box w' X t := (hb.block X (Array.getElem?_eq_some_iff.1 h).1).trans h
theorem Box.new (w : World) (t : VT) : Box (w.alloc (.cells #[.int .i64 t.kind, .int .i64 t.num, .string t.str, t.sl] 24)) w.heap.size t := heap_alloc_new w _
theorem own_weak {w : World} {base base' : Nat} {e : TypeId} {size : Nat} {v : Value} {n : Nat} {xs : List Value} (h : w.ownsRow base e size v n xs) (hb : base' ≤ base) : w.ownsRow base' e size v n xs := by
  refine ⟨h.1, ?_⟩
  rcases h.2 with h | ⟨g, cap, cur, a, b, c⟩
  · exact .inl h
  · exact .inr ⟨g, cap, cur, a, Nat.le_trans hb b, c⟩

/-- What Encode returns: the error, or a slice of its own that holds the encoding. -/
def EncPost (t : VT) (w : World) (e : Ending) (w' : World) : Prop :=
  ∃ v, e = .returned (.tuple #[v, .int .i64 (chk t : Nat)]) ∧ Below w.heap.size w w' ∧ (if chk t = 0 then w'.ownsRow w.heap.size 5 1 v t.enc.length (bs t.enc) else v = .slice none 0 0)

set_option maxRecDepth 10000 in
set_option maxHeartbeats 800000 in
theorem encode_any (t : VT) (w : World) (hin : t.In w) (hsz : t.sz ≤ 1000000) (hlen : t.enc.length ≤ 4294967296) : Calls Try.prog 12 #[t.val] w (EncPost t w) := by
  have H1 := fun W hW => hide (check_any t W hW hsz)
  by_cases hc : chk t = 0
  · have HP := hide hc
    rw [hc] at H1
    have hwf : t.wf = true := by
      cases h : t.wf with
      | true => rfl
      | false => simp [chk, h] at hc
    clear hc
    have H2 := fun W hW => hide (size_any t.sz t (Nat.le_refl _) W hW hlen)
    have H3 := hide (value_any t.sz t (Nat.le_refl _))
    have H4 := fun W => hide (newWriter_any t.enc.length W hlen)
    go_enter Try.func12, Try.ntmps12
    go_wp2_with (first | (go_at_call 16; refine (H1 _ (hin.alloc _)).out.mono ?_; rintro e w1 ⟨rfl, hb1⟩; have bx1 := hide ((Box.new w t).later hb1); obtain ⟨c0, c1, c2, c3⟩ := bx1.out.cells) | (go_at_call 27; refine (H2 _ ((hin.alloc _).later hb1)).out.mono ?_; rintro e w2 ⟨rfl, hb2⟩; have bx2 := hide (bx1.out.later hb2)) | (go_at_call 26; refine (H4 _).out.mono ?_; rintro e w3 ⟨B, v, rfl, hB, hblk, hown, hb3⟩; have bx3 := hide (bx2.out.later hb3); clear c0 c1 c2 c3; obtain ⟨d0, d1, d2, d3⟩ := bx3.out.cells) | (go_at_call 28; refine (H3.out w2.heap.size B v [] w3 hb3.size ((((hin.alloc _).later hb1).later hb2).later hb3) (fun W hW => (((hin.alloc _).later hb1).later hb2).later (hb3.trans hW)) hwf (by simpa using hlen) ⟨hB, hblk, hown⟩).mono ?_; rintro e w4 ⟨rfl, hb4, v', hws⟩; clear hblk; obtain ⟨e0, _, _, _, _⟩ := hws.cell))
    go_ret2
    have hb12 := below_one (below_two (Below.refl _ _) hb1) hb2
    refine ⟨v', by rw [HP.out]; rfl, hb12.trans ((hb3.trans hb4).mono hb12.size), ?_⟩
    rw [if_pos HP.out]
    exact own_weak hws.own hb12.size
  · have hne : ((chk t : Int) != 0) = true := by simp; omega
    have HP := hide hc
    clear hc
    have HG := hide (show ∀ w', Below w.heap.size w w' → EncPost t w (.returned (.tuple #[.slice none 0 0, .int .i64 (chk t : Nat)])) w' from fun w' hb => ⟨_, rfl, hb, by rw [if_neg HP.out]⟩)
    generalize hcc : chk t = c at *
    clear hcc
    go_enter Try.func12, Try.ntmps12
    go_wp2_with (first | (go_at_call 16; refine (H1 _ (hin.alloc _)).out.mono ?_; rintro e w1 ⟨rfl, hb1⟩; have c0 := hb1.cell (p := ⟨w.heap.size, 0, none⟩) (by simp); have c1 := hb1.cell (p := ⟨w.heap.size, 1, none⟩) (by simp); have c2 := hb1.cell (p := ⟨w.heap.size, 2, none⟩) (by simp); have c3 := hb1.cell (p := ⟨w.heap.size, 3, none⟩) (by simp)))
    go_ret2
    exact HG.out _ (below_two (Below.refl _ _) hb1)
end Go.Proofs.Ytccdencaidopnaa
