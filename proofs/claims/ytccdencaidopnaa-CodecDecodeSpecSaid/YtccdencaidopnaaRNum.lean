/- unsigned and numeral of the reference: the number's form, and its digits in a slice of the call's own. -/
import Derived.Test.YtccdencaidopnaaSane
namespace Go.Proofs.Ytccdencaidopnaa
open Go.RowKit

theorem digs_more (f : Nat) : ∀ x, x < 128 ^ (f + 1) → digs (f + 1) x = digs f x := by
  induction f with
  | zero => intro x h; simp at h; simp [digs, h]
  | succ f ih =>
    intro x h
    by_cases hx : x < 128
    · simp [digs, hx]
    · have h2 : x / 128 < 128 ^ (f + 1) := by rw [Nat.div_lt_iff_lt_mul (by omega)]; rw [Nat.pow_succ] at h; exact h
      have h3 := ih _ h2
      rw [digs, if_neg hx, h3]
      conv => rhs; rw [digs, if_neg hx]

theorem numeral_small {u : Nat} (h : u < 128) : numeral u = [UInt8.ofNat u] := by simp [numeral, digs, h]
theorem numeral_big {u : Nat} (h : ¬ u < 128) (hu : u < 18446744073709551616) : numeral u = UInt8.ofNat (u % 128 + 128) :: numeral (u / 128) := by
  have h1 := digs_more 8 (u / 128) (by omega)
  unfold numeral
  rw [h1]
  conv => lhs; rw [digs, if_neg h]

set_option maxHeartbeats 400000 in
theorem runsigned_any (n : Int) (w : World) (h0 : -9223372036854775808 ≤ n) (h1 : n ≤ 9223372036854775807) :
    Calls Try.prog 46 #[.int .i64 n] w fun e w' => e = .returned (.int .u64 (uns n : Nat)) ∧ w = w' := by
  by_cases hn : n < 0
  · have HU := hide (show (uns n : Int) = 2 * (-(n + 1)) + 1 by unfold uns; rw [if_pos hn]; omega)
    go_enter Try.func46, Try.ntmps46
    go_wp2_with fail
    go_ret
    exact ⟨by rw [HU.out]; rfl, rfl⟩
  · have HU := hide (uns_pos (by omega : 0 ≤ n))
    go_enter Try.func46, Try.ntmps46
    go_wp2_with fail
    go_ret
    exact ⟨by rw [HU.out]; rfl, rfl⟩

/-- One byte in a block of its own. -/
theorem own_one (w : World) (c : UInt8) (base : Nat) (hb : base ≤ w.heap.size) : Own base (.slice (some ⟨w.heap.size, 0, none⟩) 1 1) [c] (w.alloc (.cells #[.int .u8 (c.toNat : Nat)] 5)) :=
  ⟨rfl, .inr ⟨w.heap.size, 1, #[.int .u8 (c.toNat : Nat)], rfl, hb, heap_alloc_new w _, Nat.le_refl _, by unfold maxLen; omega, rfl, rfl⟩⟩

/-- What a slice of its own looks like. -/
theorem Own.form {base : Nat} {v : Value} {l : List UInt8} {w : World} (h : Own base v l w) (hl : 0 < l.length) :
    ∃ g cap, v = .slice (some ⟨g, 0, none⟩) l.length cap ∧ ∀ j u, (bs l)[j]? = some u → w.cell? ((⟨g, 0, none⟩ : Addr).add j) = some u := by
  have h' : w.ownsRow base 5 1 v l.length (bs l) := h
  obtain ⟨g, cap, rfl, _, _⟩ := h'.form hl
  exact ⟨g, cap, rfl, h'.cells rfl⟩

theorem bs_one (l : List UInt8) : ∀ u ∈ bs l, u.oneCell' = true := by
  intro u hu
  simp only [bs, List.mem_map] at hu
  obtain ⟨c, _, rfl⟩ := hu
  rfl

def BytesPost (l : List UInt8) (w : World) (e : Ending) (w' : World) : Prop := ∃ v, e = .returned v ∧ Below w.heap.size w w' ∧ Own w.heap.size v l w'

set_option maxRecDepth 10000 in
set_option maxHeartbeats 1600000 in
theorem rnumeral_any : ∀ (u : Nat), u < 18446744073709551616 → ∀ (w : World), Calls Try.prog 45 #[.int .u64 u] w (BytesPost (numeral u) w) := by
  intro u
  induction u using Nat.strongRecOn with
  | _ u ih =>
    intro hu w
    by_cases hs : u < 128
    · have HN := hide (numeral_small hs)
      have HB := hide (byte_of u (by omega))
      have hs' : (u : Int) < 128 := by omega
      go_enter Try.func45, Try.ntmps45
      go_wp2_with fail
      go_ret
      refine ⟨_, rfl, below_new _ _, ?_⟩
      rw [HN.out, HB.out]
      exact own_one w _ _ (Nat.le_refl _)
    · obtain ⟨i0, hi0, hz0, hz1, hz2⟩ := info_parts Try.info5
      have HI := hide (And.intro hi0 (And.intro hz0 (And.intro hz1 hz2)))
      have HN := hide (numeral_big hs hu)
      have HB := hide (show Value.int .u8 ((u : Int) % 128 + 128) = .int .u8 ((UInt8.ofNat (u % 128 + 128)).toNat : Nat) by rw [← byte_of _ (by omega)]; congr 1)
      have IH := fun W => hide (ih (u / 128) (by omega) (by omega) W)
      rw [show ((u / 128 : Nat) : Int) = (u : Int) / 128 by omega] at IH
      obtain ⟨-, hl10, hl1⟩ := numeral_len (u := u / 128) (by omega)
      have hu2 : 128 ≤ u := by omega
      clear hi0 hz0 hz1 hz2 ih hs
      go_enter Try.func45, Try.ntmps45
      go_wp2_with fail
      have hw1 := hide (below_new w (.cells #[.int .u8 ((u : Int) % 128 + 128)] 5))
      have ho1 := hide (own_one w (UInt8.ofNat (u % 128 + 128)) w.heap.size (Nat.le_refl _))
      rw [← HB.out] at ho1
      generalize w.alloc (.cells #[.int .u8 ((u : Int) % 128 + 128)] 5) = w1 at *
      refine (IH w1).out.mono ?_
      rintro e w2 ⟨v2, rfl, hb2, ho2⟩
      obtain ⟨g, cap, rfl, hc⟩ := ho2.form (by omega)
      have hwn := hide (ho1.out.later hb2)
      have hB2 := hide (below_one hw1.out hb2)
      have hs2 := hB2.out.size
      have hlen := bs_length (numeral (u / 128))
      have hone := bs_one (numeral (u / 128))
      generalize hL : (numeral (u / 128)).length = L at *
      generalize hBS : bs (numeral (u / 128)) = B at *
      clear ho1 ho2 hw1 hb2
      go_wp2_with (at_builtin; refine wpList_append_own _ rfl _ _ 27 rfl w.heap.size 5 i0 (.int .u8 0) 1 1 Try.underlying27 HI.out.1 HI.out.2.1 HI.out.2.2.1 HI.out.2.2.2 rfl (by decide) _ 1 (bs [UInt8.ofNat (u % 128 + 128)]) rfl hwn.out ⟨g, 0, none⟩ L cap B rfl (by omega) hc hone (by unfold maxLen; omega) (by omega) hs2 ?_; intro v3 w3 hown3 hg3 _)
      go_ret
      refine ⟨v3, rfl, hB2.out.grown hg3 hs2 (fun k hk => (World.ownsRow.lt hwn.out k hk).1), ?_⟩
      rw [HN.out]
      unfold Own
      rw [List.length_cons, hL, Nat.add_comm]
      have : bs (UInt8.ofNat (u % 128 + 128) :: numeral (u / 128)) = bs [UInt8.ofNat (u % 128 + 128)] ++ B := by rw [← hBS, ← bs_append]; rfl
      rw [this]
      exact hown3
end Go.Proofs.Ytccdencaidopnaa
