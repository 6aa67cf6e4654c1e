/- slices.Concat of two pieces of bytes. -/
import Derived.Test.YtalgceplcahgbaaDoorPad
import Derived.Lib.AppendZeros
import Derived.OwnWalk
import Derived.LoopN
namespace Go.Proofs.YtalgceplcahgbaaDoor
open Go.RowKit

set_option maxRecDepth 20000 in
theorem Tryd.info5 : (Tryd.prog.info? 5).map (fun i => (i.zero, i.size, i.bytes)) = some (some (.int .u8 0), 1, 1) := by kernel_rfl

def GrowPost (n : Nat) (w : World) (e : Ending) (w' : World) : Prop :=
  ∃ g cap : Nat, e = .returned (.slice (some ⟨g, 0, none⟩) 0 cap) ∧ n ≤ cap ∧ cap ≤ maxLen ∧ w'.ownsRow w.heap.size 5 1 (.slice (some ⟨g, 0, none⟩) 0 cap) 0 [] ∧ Below w.heap.size w w'

set_option maxRecDepth 20000 in
set_option maxHeartbeats 400000 in
theorem grow_any (n : Nat) (w : World) (h : 1 ≤ n) (h' : n ≤ 1000000000) : Calls Tryd.prog 79 #[.slice none 0 0, .int .i64 (n : Nat)] w (GrowPost n w) := by
  obtain ⟨i0, hi, hz0, hz1, hz2⟩ := info_parts Tryd.info5
  have hrun := Lib.run_append_nil_zeros (P := Tryd.prog) w 22 3 22 5 i0 (.int .u8 0) .i64 .i64 Tryd.underlying22 Tryd.underlying3 hi hz0 n (by omega) (by rw [hz1]; omega) (by omega) (by rw [hz2]; omega)
  have hge := grownCap_ge w n 0 5
  have hle := grownCap_le_maxLen w n 0 5 (by unfold maxLen; omega)
  have hsz : ∀ c : Nat, n ≤ c → (Builtin.zeroCells (Value.int IntKind.u8 0).cells n ++ Builtin.zeroCells (Value.int IntKind.u8 0).cells (c - n)).size = c := by
    intro c hc
    rw [Array.size_append, size_zeroCells, size_zeroCells]
    simp [Value.cells]; omega
  have HS := hide hsz
  clear hsz hz0 hz1 hz2 hi
  generalize grownCap w n 0 5 = c at *
  have HR := hide hrun
  have hle' : c ≤ 9223372036854775807 := hle
  have HB : Hid (Below w.heap.size w (w.drew.alloc (.cells (Builtin.zeroCells (Value.int IntKind.u8 0).cells n ++ Builtin.zeroCells (Value.int IntKind.u8 0).cells (c - n)) 5)) ∧
      (w.drew.alloc (.cells (Builtin.zeroCells (Value.int IntKind.u8 0).cells n ++ Builtin.zeroCells (Value.int IntKind.u8 0).cells (c - n)) 5)).heap[w.heap.size]? = some (.cells (Builtin.zeroCells (Value.int IntKind.u8 0).cells n ++ Builtin.zeroCells (Value.int IntKind.u8 0).cells (c - n)) 5 (0, 0))) :=
    hide ⟨((Below.refl _ _).drew).alloc (Nat.le_refl _) _, heap_alloc_new w.drew _⟩
  have hz := HS.out c hge
  have HZ := hide hz
  clear hrun hz
  generalize (Builtin.zeroCells (Value.int IntKind.u8 0).cells n ++ Builtin.zeroCells (Value.int IntKind.u8 0).cells (c - n)) = Z at *
  go_enter Tryd.func79, Tryd.ntmps79
  go_wp2_with (at_builtin; refine Lib.wpList_append_run _ rfl _ _ _ _ rfl _ _ rfl rfl _ _ HR.out ?_)
  go_ret
  exact ⟨w.heap.size, c, rfl, hge, hle, ⟨rfl, .inr ⟨_, _, _, rfl, Nat.le_refl _, HB.out.2, by omega, hle, by rw [HZ.out]; omega, by simp⟩⟩, HB.out.1⟩

set_option maxRecDepth 20000 in
theorem grow_is (n : Nat) (m : Int) (w : World) (hm : m = n) (h : 1 ≤ n) (h' : n ≤ 1000000000) : Calls Tryd.prog 79 #[.slice none 0 0, .int .i64 m] w (GrowPost n w) := by
  subst hm
  exact grow_any n w h h'

/-- What Concat hands back. -/
def ConPost (l : List UInt8) (w : World) (e : Ending) (w' : World) : Prop :=
  ∃ g cap : Nat, e = .returned (.slice (some ⟨g, 0, none⟩) l.length cap) ∧ Bs w' g 0 l ∧ l.length ≤ cap ∧ cap ≤ 9223372036854775807 ∧ Below w.heap.size w w'

set_option maxRecDepth 20000 in
theorem row_bytes {w : World} {base g n cap : Nat} {l : List UInt8} (h : w.ownsRow base 5 1 (.slice (some ⟨g, 0, none⟩) n cap) n (bc l)) : Bs w g 0 l := by
  intro i hi
  have hl := h.1
  rw [bc_len, Nat.mul_one] at hl
  rw [Nat.zero_add, World.ownsRow.cellAt h i (by omega), bc_get hi]

set_option maxRecDepth 20000 in
set_option maxHeartbeats 800000 in
theorem concat_any (X T b1 o1 c1 c2 n1 n2 : Nat) (a2 : Option Addr) (l1 l2 : List UInt8) (w : World) (hX : Blk w X T [.slice (some ⟨b1, o1, none⟩) n1 c1, .slice a2 n2 c2]) (h1 : Bs w b1 o1 l1) (h2 : Sb w a2 l2)
    (e1 : n1 = l1.length) (e2 : n2 = l2.length) (hp : 1 ≤ n1) (hn : n1 + n2 ≤ 1000000000) (hnil : a2 = none → c2 = 0) :
    Calls Tryd.prog 53 #[.slice (some ⟨X, 0, none⟩) 2 2] w (ConPost (l1 ++ l2) w) := by
  obtain ⟨i0, hi, hz0, hz1, hz2⟩ := info_parts Tryd.info5
  have HI := hide (And.intro hi (And.intro hz0 (And.intro hz1 hz2)))
  have HG := hide (grow_is (n1 + n2) ((n1 : Int) + n2) w (by omega) (by omega) hn)
  have HX := hide hX
  have H1 := hide h1
  have H2 := hide h2
  have HE := hide (And.intro e1 (And.intro e2 hnil))
  have x0 : w.cell? ⟨X, 0, none⟩ = some (.slice (some ⟨b1, o1, none⟩) n1 c1) := (hX.cell 0).trans rfl
  have x1 : w.cell? ⟨X, 1, none⟩ = some (.slice a2 n2 c2) := (hX.cell 1).trans rfl
  clear hi hz0 hz1 hz2 hX h1 h2 e1 e2 hnil
  go_enter Tryd.func53, Tryd.ntmps53
  go_wp2_with fail
  refine wp_loop_rounds 3 ?_
  rw [rounds_succ]
  go_wp2_with fail
  rw [rounds_succ]
  go_wp2_with fail
  rw [rounds_succ]
  go_wp2_with fail
  refine HG.out.mono ?_
  rintro e w1 ⟨g, cap, rfl, hcap, hmax, hown, hb1⟩
  unfold maxLen at hmax
  have HX1 := hide (HX.out.below hb1 HX.out.lt)
  have H11 := hide (H1.out.below hb1 (H1.out.lt (by have := HE.out.1; omega)))
  have H21 := hide (H2.out.below hb1)
  have hlt1 := (hown.lt g (by simp [Value.ownBlock])).1
  clear x0 x1
  have x0 : w1.cell? ⟨X, 0, none⟩ = some (.slice (some ⟨b1, o1, none⟩) n1 c1) := (HX1.out.cell 0).trans rfl
  have hcs1 : ∀ ad : Addr, (some ⟨b1, o1, none⟩ : Option Addr) = some ad → ∀ j u, (bc l1)[j]? = some u → w1.cell? (ad.add j) = some u := by
    intro ad ea j u hu
    cases ea
    have hj : j < l1.length := by rw [← bc_len l1]; exact (List.getElem?_eq_some_iff.1 hu).1
    rw [Addr.add_mid, H11.out j hj, ← hu, bc_get hj]
  have HC1 := hide hcs1
  have HOWN := hide hown
  clear hcs1 hown
  go_wp2_with fail
  refine wp_loop_rounds 3 ?_
  rw [rounds_succ]
  go_wp2_with (at_builtin; refine wpList_append_fits_any w1 rfl _ _ 22 rfl w.heap.size 5 i0 1 Tryd.underlying22 HI.out.1 HI.out.2.2.1 g 0 cap [] rfl HOWN.out (some ⟨b1, o1, none⟩) n1 c1 (bc l1) rfl (by rw [bc_len, ← HE.out.1, Nat.mul_one]) (fun h => by cases h) HC1.out (bc_one l1) (by omega) ?_; intro w2 hown2 hg2)
  have hne : X ≠ g := by have := HX.out.lt; omega
  have x1 : w2.cell? ⟨X, 1, none⟩ = some (.slice a2 n2 c2) := ((HX1.out.only hg2 hne).cell 1).trans rfl
  have hcs2 : ∀ ad : Addr, a2 = some ad → ∀ j u, (bc l2)[j]? = some u → w2.cell? (ad.add j) = some u := by
    intro ad ea j u hu
    have hj : j < l2.length := by rw [← bc_len l2]; exact (List.getElem?_eq_some_iff.1 hu).1
    obtain ⟨b, o, e', hB⟩ := H2.out (by intro e; rw [e] at hj; simp at hj)
    rw [ea] at e'
    cases e'
    have hlt := hB.lt (by omega)
    have hB2 := (hB.below hb1 hlt).only hg2 (by omega) (Nat.lt_of_lt_of_le hlt hb1.size)
    rw [Addr.add_mid, hB2 j hj, ← hu, bc_get hj]
  have HC2 := hide hcs2
  have HOWN2 : Hid (w2.ownsRow w.heap.size 5 1 (.slice (some ⟨g, 0, none⟩) n1 cap) n1 (bc l1)) := hide (by simpa only [Nat.zero_add, List.nil_append] using hown2)
  have HNIL : Hid (a2 = none → n2 = 0 ∧ c2 = 0) := hide (by
    intro h
    refine ⟨?_, HE.out.2.2 h⟩
    rw [HE.out.2.1]
    by_cases hl : l2 = []
    · rw [hl]; rfl
    · obtain ⟨b, o, e', _⟩ := H2.out hl
      rw [h] at e'
      cases e')
  have HG2 := hide hg2
  clear hcs2 hown2 hg2 x0 hne
  rw [rounds_succ]
  go_wp2_with (at_builtin; refine wpList_append_fits_any w2 rfl _ _ 22 rfl w.heap.size 5 i0 1 Tryd.underlying22 HI.out.1 HI.out.2.2.1 g n1 cap (bc l1) rfl HOWN2.out a2 n2 c2 (bc l2) rfl (by rw [bc_len, ← HE.out.2.1, Nat.mul_one]) HNIL.out HC2.out (bc_one l2) (by omega) ?_; intro w3 hown3 hg3)
  rw [rounds_succ]
  go_wp2_with fail
  go_ret
  rw [← bc_append] at hown3
  have hn12 : n1 + n2 = (l1 ++ l2).length := by rw [List.length_append, ← HE.out.1, ← HE.out.2.1]
  refine ⟨g, cap, ?_, row_bytes hown3, by omega, hmax, below_of_only (below_of_only hb1 HG2.out (by omega)) hg3 (by omega)⟩
  rw [← hn12]
  rfl
end Go.Proofs.YtalgceplcahgbaaDoor
