/- Concat of one part; the texts that are hashed. -/
import Derived.Test.YthjfeodclphgaaaDoorAppF
import Derived.ArgAppend
namespace Go.Proofs.YthjfeodclphgaaaDoor
open Go.RowKit
/-- Bytes that a call hands back. -/
def ByP (l : List UInt8) (w : World) (e : Ending) (w' : World) : Prop :=
  ∃ (A : Option Addr) (cap : Nat), e = .returned (.slice A l.length cap) ∧ Sb w' A l ∧ l.length ≤ cap ∧ cap ≤ 9223372036854775807 ∧ (A = none → cap = 0) ∧ Below w.heap.size w w'
theorem ConPost.by {l : List UInt8} {w : World} {e : Ending} {w' : World} (h : ConPost l w e w') : ByP l w e w' := by
  obtain ⟨g, cap, h1, h2, h3, h4, h5⟩ := h
  exact ⟨some ⟨g, 0, none⟩, cap, h1, Sb.of h2, h3, h4, (fun h => by cases h), h5⟩

set_option maxRecDepth 20000 in
set_option maxHeartbeats 800000 in
theorem concat_one (X T c1 : Nat) (a1 : Option Addr) (l1 : List UInt8) (w : World) (hX : Blk w X T [.slice a1 l1.length c1]) (h1 : Sb w a1 l1) (hp : 1 ≤ l1.length) (hn : l1.length ≤ 1000000000) :
    Calls Tryd.prog 52 #[.slice (some ⟨X, 0, none⟩) 1 1] w (ConPost l1 w) := by
  obtain ⟨b1, o1, rfl, hB⟩ := h1 (by intro e; rw [e] at hp; simp at hp)
  obtain ⟨i0, hi, hz0, hz1, hz2⟩ := info_parts Tryd.info5
  have HI := hide (And.intro hi (And.intro hz0 (And.intro hz1 hz2)))
  have HG := hide (grow_is l1.length (l1.length : Int) w rfl hp hn)
  have HX := hide hX
  have H1 := hide hB
  have x0 : w.cell? ⟨X, 0, none⟩ = some (.slice (some ⟨b1, o1, none⟩) l1.length c1) := (hX.cell 0).trans rfl
  clear hi hz0 hz1 hz2 hX h1 hB
  go_enter Tryd.func52, Tryd.ntmps52
  go_wp2_with fail
  refine wp_loop_rounds 3 ?_
  rw [rounds_succ]
  go_wp2_with fail
  rw [rounds_succ]
  go_wp2_with fail
  refine HG.out.mono ?_
  rintro e w1 ⟨g, cap, rfl, hcap, hmax, hown, hb1⟩
  unfold maxLen at hmax
  have HX1 := hide (HX.out.below hb1 HX.out.lt)
  have H11 := hide (H1.out.below hb1 (H1.out.lt (by omega)))
  have hlt1 := (hown.lt g (by simp [Value.ownBlock])).1
  clear x0
  have x0 : w1.cell? ⟨X, 0, none⟩ = some (.slice (some ⟨b1, o1, none⟩) l1.length c1) := (HX1.out.cell 0).trans rfl
  have hcs1 : ∀ ad : Addr, (some ⟨b1, o1, none⟩ : Option Addr) = some ad → ∀ j u, (bc l1)[j]? = some u → w1.cell? (ad.add j) = some u := by
    intro ad ea j u hu
    cases ea
    have hj : j < l1.length := by rw [← bc_len l1]; exact (List.getElem?_eq_some_iff.1 hu).1
    rw [Addr.add_mid, H11.out j hj, ← hu, bc_get hj]
  have HC1 := hide hcs1
  have HOWN := hide hown
  clear hcs1 hown
  go_wp2_with fail
  refine wp_loop_rounds 3 ?_
  rw [rounds_succ]
  go_wp2_with (at_builtin; refine wpList_append_fits_any w1 rfl _ _ 22 rfl w.heap.size 5 i0 1 Tryd.underlying22 HI.out.1 HI.out.2.2.1 g 0 cap [] rfl HOWN.out (some ⟨b1, o1, none⟩) l1.length c1 (bc l1) rfl (by rw [bc_len, Nat.mul_one]) (fun h => by cases h) HC1.out (bc_one l1) (by omega) ?_; intro w2 hown2 hg2)
  have HOWN2 : Hid (w2.ownsRow w.heap.size 5 1 (.slice (some ⟨g, 0, none⟩) l1.length cap) l1.length (bc l1)) := hide (by simpa only [Nat.zero_add, List.nil_append] using hown2)
  have HG2 := hide hg2
  clear hown2 hg2 x0
  rw [rounds_succ]
  go_wp2_with fail
  go_ret
  refine ⟨g, cap, ?_, row_bytes HOWN2.out, by omega, hmax, below_of_only hb1 HG2.out (by omega)⟩
  rfl
theorem own_form0 {w : World} {base e size n : Nat} {v : Value} {xs : List Value} (h : w.ownsRow base e size v n xs) : ∃ A cap, v = .slice A n cap := by
  rcases h.2 with ⟨rfl, rfl⟩ | ⟨g, cap, cur, rfl, _⟩
  · exact ⟨none, 0, rfl⟩
  · exact ⟨_, _, rfl⟩
set_option maxRecDepth 20000 in
theorem grow_zero (w : World) : Calls Tryd.prog 81 #[.slice none 0 0, .int .i64 0] w fun e w' => e = .returned (.slice none 0 0) ∧ w = w' := by
  go_enter Tryd.func81, Tryd.ntmps81
  go_wp2_with fail
  go_ret
  exact ⟨rfl, rfl⟩
set_option maxRecDepth 20000 in
set_option maxHeartbeats 800000 in
theorem concat_nil (X T c1 : Nat) (a1 : Option Addr) (w : World) (hX : Blk w X T [.slice a1 0 c1]) (hnil : a1 = none → c1 = 0) :
    Calls Tryd.prog 52 #[.slice (some ⟨X, 0, none⟩) 1 1] w (ByP [] w) := by
  obtain ⟨i0, hi, hz0, hz1, hz2⟩ := info_parts Tryd.info5
  have HI := hide (And.intro hi (And.intro hz0 (And.intro hz1 hz2)))
  have HG := hide (grow_zero w)
  have HNIL := hide hnil
  have x0 : w.cell? ⟨X, 0, none⟩ = some (.slice a1 0 c1) := (hX.cell 0).trans rfl
  have HOW := hide (show w.ownsRow w.heap.size 5 1 (.slice none 0 0) 0 [] from ⟨rfl, .inl ⟨rfl, rfl⟩⟩)
  clear hi hz0 hz1 hz2 hX hnil
  go_enter Tryd.func52, Tryd.ntmps52
  go_wp2_with fail
  refine wp_loop_rounds 3 ?_
  rw [rounds_succ]
  go_wp2_with fail
  rw [rounds_succ]
  go_wp2_with fail
  refine HG.out.mono ?_
  rintro e w1 ⟨rfl, rfl⟩
  go_wp2_with fail
  refine wp_loop_rounds 3 ?_
  rw [rounds_succ]
  go_wp2_with (at_builtin; (refine wpList_plain rfl ?_; intro K' hK'; refine wp_app (.tmp 31) (.tmp 32) 22 rfl w.heap.size 5 i0 _ 1 1 Tryd.underlying22 HI.out rfl (by decide) _ 0 [] rfl HOW.out a1 0 c1 [] rfl (fun h => ⟨rfl, HNIL.out h⟩) rfl (fun ad e j u hu => by simp at hu) (fun u hu => by cases hu) (by unfold maxLen; omega) (by omega) (Nat.le_refl _) ?_; intro v' w2 hown hg; refine hK' _ _ ?_; have HOWN := hide hown; have HGR := hide hg; clear hown hg))
  obtain ⟨A', cap, rfl⟩ := own_form0 HOWN.out
  rw [rounds_succ]
  go_wp2_with fail
  go_ret
  have hb := only_none HGR.out
  rcases HOWN.out.2 with ⟨h0, _⟩ | ⟨g, cap', cur, hv, h1, h2, h3, h4, _⟩
  · injection h0 with e1 _ e3
    exact ⟨A', cap, rfl, fun h => absurd rfl h, Nat.zero_le _, by omega, fun _ => e3, hb⟩
  · injection hv with e1 _ e3
    exact ⟨A', cap, rfl, fun h => absurd rfl h, Nat.zero_le _, by unfold maxLen at h4; omega, (fun h => by rw [e1] at h; cases h), hb⟩
end Go.Proofs.YthjfeodclphgaaaDoor
