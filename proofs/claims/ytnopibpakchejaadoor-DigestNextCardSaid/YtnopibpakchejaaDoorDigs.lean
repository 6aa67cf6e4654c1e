/- digestsOf. -/
import Derived.Test.YtnopibpakchejaaDoorSane
import Derived.OwnWalk
namespace Go.Proofs.YtnopibpakchejaaDoor
open Go.RowKit

def dig1 (c : UInt8) (i : Nat) : List UInt8 := c % 4 :: UInt8.ofNat (i / 8) :: List.replicate 30 0
theorem dig1_len (c : UInt8) (i : Nat) : (dig1 c i).length = 32 := by simp [dig1]
def digs (l : List UInt8) (k : Nat) : List (List UInt8) := (List.range k).map fun i => dig1 (l.getD i 0) i
theorem digs_len (l : List UInt8) (k : Nat) : (digs l k).length = k := by simp [digs]
theorem digs_d32 (l : List UInt8) (k : Nat) : D32 (digs l k) := by
  intro d hd
  obtain ⟨i, _, rfl⟩ := List.mem_map.1 hd
  exact dig1_len _ _
theorem digs_succ (l : List UInt8) (k : Nat) (h : k < l.length) : digs l (k + 1) = digs l k ++ [dig1 l[k] k] := by
  simp [digs, List.range_succ, List.getD_eq_getElem?_getD, h]
theorem dig1_cells (c : UInt8) (k : Nat) (h : k < 24) : bc (dig1 c k) = [Value.int IntKind.u8 ((c.toNat : Int) % 4), Value.int IntKind.u8 ((k : Int) / 8), Value.int IntKind.u8 0, Value.int IntKind.u8 0, Value.int IntKind.u8 0, Value.int IntKind.u8 0, Value.int IntKind.u8 0, Value.int IntKind.u8 0, Value.int IntKind.u8 0, Value.int IntKind.u8 0, Value.int IntKind.u8 0, Value.int IntKind.u8 0, Value.int IntKind.u8 0, Value.int IntKind.u8 0, Value.int IntKind.u8 0, Value.int IntKind.u8 0, Value.int IntKind.u8 0, Value.int IntKind.u8 0, Value.int IntKind.u8 0, Value.int IntKind.u8 0, Value.int IntKind.u8 0, Value.int IntKind.u8 0, Value.int IntKind.u8 0, Value.int IntKind.u8 0, Value.int IntKind.u8 0, Value.int IntKind.u8 0, Value.int IntKind.u8 0, Value.int IntKind.u8 0, Value.int IntKind.u8 0, Value.int IntKind.u8 0, Value.int IntKind.u8 0, Value.int IntKind.u8 0] := by
  have e1 : (((c % 4).toNat : Nat) : Int) = (c.toNat : Int) % 4 := by rw [UInt8.toNat_mod]; rfl
  have e2 : (((UInt8.ofNat (k / 8)).toNat : Nat) : Int) = (k : Int) / 8 := by rw [UInt8.toNat_ofNat', Nat.mod_eq_of_lt (by omega)]; simp
  have : bc (dig1 c k) = Value.int IntKind.u8 ((c % 4).toNat : Nat) :: Value.int IntKind.u8 ((UInt8.ofNat (k / 8)).toNat : Nat) :: bc (List.replicate 30 0) := rfl
  rw [this, e1, e2]
  rfl
/-- The list that bytes determine. -/
def digsOf (l : List UInt8) : List (List UInt8) := digs l (min l.length 24)
attribute [irreducible] digs

set_option maxRecDepth 10000 in
set_option maxHeartbeats 800000 in
theorem digestsOf_any (a : Option Addr) (n cap : Nat) (l : List UInt8) (w : World) (hl : Sb w a l) (he : n = l.length) (hn : n ≤ 9223372036854775807) :
    Calls Tryd.prog 16 #[.slice a n cap] w (PathPost (digsOf l) w) := by
  have HL := hide hl
  have HE := hide he
  obtain ⟨i0, hi, hz0, hz1, hz2⟩ := info_parts Tryd.info26
  have HI := hide (And.intro hi (And.intro hz0 (And.intro hz1 hz2)))
  clear hl he hi hz0 hz1 hz2
  go_enter Tryd.func16, Tryd.ntmps16
  go_wp2_with fail
  go_loopw [3, 4] (fun v i wr => ∃ k : Nat, k ≤ n ∧ k ≤ 24 ∧ i = .int .i64 k ∧ Hid (wr.ownsRow w.heap.size 26 32 v k (bc (digs l k).flatten) ∧ Below w.heap.size w wr)) (fun _ i _ => 24 - (intOf i).toNat)
  case atStart =>
    refine ⟨0, by omega, by omega, rfl, hide ⟨⟨by unfold digs; rfl, .inr ⟨w.heap.size, 0, #[], rfl, Nat.le_refl _, heap_alloc_new w _, Nat.le_refl _, by decide, rfl, by unfold digs; rfl⟩⟩, below_new w _⟩⟩
  case round =>
    obtain ⟨k, hkn, hk24, rfl, HO⟩ := hrel
    by_cases hlt : k < n ∧ k < 24
    · obtain ⟨h1, h2⟩ := hlt
      have hkl : k < l.length := by rw [← HE.out]; exact h1
      obtain ⟨b, o, rfl, hB⟩ := HL.out (by intro e; rw [e] at hkl; simp at hkl)
      have hc := (hB.below HO.out.2 (hB.lt (by omega))) k hkl
      have HD := hide (digs_succ l k hkl)
      generalize l[k] = c at *
      have hc256 := c.toNat_lt
      clear hB
      have g1 : (k : Int) < 24 := by omega
      have d1 : decide (k < n) = true := by simpa using h1
      have d2 : decide ((k : Int) < 24) = true := by simpa using g1
      have HOW := hide (HO.out.1)
      have HDC := hide (dig1_cells c k h2)
      have HDL := hide (dig1_len c k)
      have HDO := hide (bc_one (dig1 c k))
      have HBS := hide (HO.out.2.size)
      go_wp2_with (at_builtin; refine wpList_append_own _ rfl (.tmp 16) (.tmp 26) 30 rfl w.heap.size 26 i0 _ 32 32 Tryd.underlying30 HI.out.1 HI.out.2.1 HI.out.2.2.1 HI.out.2.2.2 rfl (by decide) _ k (bc (digs l k).flatten) rfl (HOW.out.alloc _) ⟨wr.heap.size, 0, none⟩ 1 1 (bc (dig1 c k)) rfl (by rw [bc_len, HDL.out]) (by rw [HDC.out]; exact World.news_of_block (heap_alloc_new wr _)) HDO.out (by unfold maxLen; omega) (by omega) (by have := HBS.out; simp; omega) ?_; intro v' w1 hown1 hg1 _)
      have HN : Hid (w1.ownsRow w.heap.size 26 32 v' (k + 1) (bc (digs l (k + 1)).flatten) ∧ Below w.heap.size w w1) := hide ⟨by rw [HD.out]; have := hown1; rw [← bc_append] at this; simpa using this, (keep_g hg1 (HOW.out.alloc _) (hide (HO.out.2.alloc HBS.out _))).out⟩
      clear hown1 hg1
      go_wp2_with fail
      go_roundw
      case rel => exact ⟨k + 1, by omega, by omega, by go_num, HN⟩
      case measure => simp [intOf]; omega
    · have HK := hide (show k = min l.length 24 by rw [← HE.out]; omega)
      by_cases h1 : k < n
      · have h2 : 24 ≤ k := by omega
        have d1 : decide (k < n) = true := by simpa using h1
        have d2 : decide ((k : Int) < 24) = false := by simp; omega
        go_wp2_with fail
        go_ret
        exact ⟨_, rfl, by unfold digsOf; rw [digs_len, ← HK.out]; exact HO.out.1, HO.out.2⟩
      · have d1 : decide (k < n) = false := by simpa using h1
        go_wp2_with fail
        go_ret
        exact ⟨_, rfl, by unfold digsOf; rw [digs_len, ← HK.out]; exact HO.out.1, HO.out.2⟩
end Go.Proofs.YtnopibpakchejaaDoor
