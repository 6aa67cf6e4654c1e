/- The words of a block. -/
import Derived.Test.YtalgceplcahgbaaDoorBv
namespace Go.Proofs.YtalgceplcahgbaaDoor
open Go.RowKit

/-- Bytes lie in memory. -/
def Bs (w : World) (b o : Nat) (l : List UInt8) : Prop := ∀ i (h : i < l.length), w.cell? ⟨b, o + i, none⟩ = some (.int .u8 (l[i].toNat : Nat))

def pushs (l : List UInt8) : U32 := l.foldl push 0
theorem pushs_take {l : List UInt8} {k : Nat} (h : k < l.length) : pushs (l.take (k + 1)) = push (pushs (l.take k)) l[k] := by
  unfold pushs; rw [List.take_succ_eq_append_getElem h, List.foldl_append]; rfl
theorem pushs_wd {l : List UInt8} (h : 4 ≤ l.length) : pushs (l.take 4) = wd l 0 := by
  match l, h with
  | a :: b :: c :: d :: r, _ => simp [pushs, wd]
theorem wd_drop (l : List UInt8) (i : Nat) : wd (l.drop i) 0 = wd l i := by
  simp [wd, List.getD_eq_getElem?_getD, List.getElem?_drop]

theorem bv_push (v : U32) (c : UInt8) : bits .or .u32 (((v.toNat : Nat) : Int) * 2 ^ 8 % 4294967296) ((c.toNat : Nat) : Int) = ((push v c).toNat : Nat) := by
  rw [bv_shl', bv_byte, bv_or]; unfold push; rfl
theorem bv_push' (v : U32) (c : UInt8) : bits .or .u32 (((v.toNat : Nat) : Int) * 256 % 4294967296) ((c.toNat : Nat) : Int) = ((push v c).toNat : Nat) := bv_push v c

set_option maxHeartbeats 400000 in
theorem word_any (b o n cap : Nat) (l : List UInt8) (w : World) (hl : Bs w b o l) (h : 4 ≤ l.length) (hn : n = l.length) (hcap : n ≤ 9223372036854775807) :
    Calls Tryd.prog 89 #[.slice (some ⟨b, o, none⟩) n cap] w fun e w' => e = .returned (uv (wd l 0)) ∧ w = w' := by
  have HL := hide hl
  have hn4 : 4 ≤ n := by omega
  have HN := hide hn
  clear hl hn
  go_enter Tryd.func89, Tryd.ntmps89
  go_wp2_with fail
  go_loop [2, 4] (fun v i => ∃ k : Nat, k ≤ 4 ∧ i = .int .i64 k ∧ v = uv (pushs (l.take k))) (fun _ i => 4 - (intOf i).toNat)
  case atStart => exact ⟨0, by omega, rfl, rfl⟩
  case round =>
    obtain ⟨k, hk, rfl, rfl⟩ := hrel
    by_cases hlt : k < 4
    · have hkl : k < l.length := by omega
      have hkn : k < n := by omega
      have hc := HL.out k hkl
      have HP := hide (pushs_take hkl)
      have hb := (pushs (l.take k)).isLt
      generalize pushs (l.take k) = v at *
      generalize l[k] = c at *
      have hc256 := c.toNat_lt
      go_wp2_with fail
      go_round
      case rel => exact ⟨k + 1, by omega, by go_num, by rw [HP.out]; exact val_num (bv_push v c)⟩
      case measure => simp [intOf]; omega
    · obtain rfl : k = 4 := by omega
      have HP := hide (pushs_wd h)
      go_wp2_with fail
      go_ret
      exact ⟨by rw [← HP.out]; rfl, rfl⟩

attribute [irreducible] pushs
end Go.Proofs.YtalgceplcahgbaaDoor
