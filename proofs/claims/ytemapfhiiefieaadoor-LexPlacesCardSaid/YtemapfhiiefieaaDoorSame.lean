/- Same. -/
import Derived.Test.YtemapfhiiefieaaDoorLex
namespace Go.Proofs.YtemapfhiiefieaaDoor
open Go.RowKit

/-- A token, valid or not. -/
structure Tok where
  kind : Int
  text : ByteArray
  n : Int
  pos : Int
abbrev Tok.cs (t : Tok) : List Value := [.int .i64 t.kind, .string t.text, .int .i64 t.n, .int .i64 t.pos]
abbrev Tok.val (t : Tok) : Value := .agg #[.int .i64 t.kind, .string t.text, .int .i64 t.n, .int .i64 t.pos]
/-- Tokens that a slice names. -/
def Toks (w : World) (A : Option Addr) (l : List Tok) : Prop := ∀ i (h : i < l.length), ∃ b o, A = some ⟨b, o, none⟩ ∧ b < w.heap.size ∧ w.cell? ⟨b, o + i * 4, none⟩ = some (.int .i64 l[i].kind) ∧ w.cell? ⟨b, o + i * 4 + 1, none⟩ = some (.string l[i].text) ∧ w.cell? ⟨b, o + i * 4 + 2, none⟩ = some (.int .i64 l[i].n) ∧ w.cell? ⟨b, o + i * 4 + 3, none⟩ = some (.int .i64 l[i].pos)
theorem Toks.below {w w' : World} {A : Option Addr} {l : List Tok} (h : Toks w A l) (hb : Below w.heap.size w w') : Toks w' A l := fun i hi => by
  obtain ⟨b, o, e, hlt, h0, h1, h2, h3⟩ := h i hi
  have hm : ∀ j v, w.cell? ⟨b, j, none⟩ = some v → w'.cell? ⟨b, j, none⟩ = some v := fun j v hv => by
    rw [World.cell?_of_block (a := ⟨b, j, none⟩) (hb.block b hlt)]; exact hv
  exact ⟨b, o, e, Nat.lt_of_lt_of_le hlt hb.size, hm _ _ h0, hm _ _ h1, hm _ _ h2, hm _ _ h3⟩
/-- Are they the same, but for the places? -/
def sameT (t u : Tok) : Bool := t.kind == u.kind && decide (t.text.toList = u.text.toList) && t.n == u.n

set_option maxRecDepth 10000 in
set_option maxHeartbeats 800000 in
theorem sameToken_any (t u : Tok) (w : World) : Calls Tryd.prog 38 #[t.val, u.val] w fun e w' => e = .returned (.bool (sameT t u)) ∧ Below w.heap.size w w' := by
  obtain ⟨k, s, n, p⟩ := t
  obtain ⟨k', s', n', p'⟩ := u
  have HB := hide (((below_new w (.cells #[.int .i64 k, .string s, .int .i64 n, .int .i64 p] 35)).alloc (by simp) (.cells #[.int .i64 k', .string s', .int .i64 n', .int .i64 p'] 35)))
  have HD := hide (show sameT ⟨k, s, n, p⟩ ⟨k', s', n', p'⟩ = (k == k' && decide (s.toList = s'.toList) && n == n') from rfl)
  cases h1 : k == k' with
  | false =>
    go_enter Tryd.func38, Tryd.ntmps38
    go_wp2_with fail
    go_ret
    exact ⟨by rw [HD.out, h1]; rfl, HB.out⟩
  | true =>
    by_cases h2 : s.toList = s'.toList
    · have hd : decide (s.toList = s'.toList) = true := by simp [h2]
      cases h3 : n == n' with
      | false =>
        go_enter Tryd.func38, Tryd.ntmps38
        go_wp2_with fail
        go_ret
        exact ⟨by rw [HD.out, h1, hd, h3]; rfl, HB.out⟩
      | true =>
        go_enter Tryd.func38, Tryd.ntmps38
        go_wp2_with fail
        go_ret
        exact ⟨by rw [HD.out, h1, hd, h3]; rfl, HB.out⟩
    · have h3 : decide (s.toList = s'.toList) = false := by simp [h2]
      go_enter Tryd.func38, Tryd.ntmps38
      go_wp2_with fail
      go_ret
      exact ⟨by rw [HD.out, h1, h3]; rfl, HB.out⟩

def samesT : List Tok → List Tok → Bool
  | [], [] => true
  | t :: l, u :: m => sameT t u && samesT l m
  | _, _ => false
theorem samesT_iff : ∀ {l m : List Tok}, samesT l m = true ↔ l.length = m.length ∧ ∀ i (h : i < l.length) (h' : i < m.length), sameT l[i] m[i] = true
  | [], [] => by simp [samesT]
  | [], u :: m => by simp [samesT]
  | t :: l, [] => by simp [samesT]
  | t :: l, u :: m => by
    simp only [samesT, Bool.and_eq_true, samesT_iff, List.length_cons]
    constructor
    · rintro ⟨h1, h2, h3⟩
      refine ⟨by omega, fun i h h' => ?_⟩
      cases i with
      | zero => exact h1
      | succ i => exact h3 i (by omega) (by omega)
    · rintro ⟨h1, h2⟩
      exact ⟨h2 0 (by omega) (by omega), by omega, fun i h h' => h2 (i + 1) (by omega) (by omega)⟩

set_option maxRecDepth 10000 in
set_option maxHeartbeats 1600000 in
theorem equal_any (A C : Option Addr) (l m : List Tok) (ca cb : Nat) (w : World) (hl : l.length ≤ 4611686018427387904) (hA : Toks w A l) (hC : Toks w C m) :
    Calls Tryd.prog 37 #[.slice A l.length ca, .slice C m.length cb, fn 38] w fun e w' => e = .returned (.bool (samesT l m)) ∧ Below w.heap.size w w' := by
  by_cases hlm : l.length = m.length
  · have hb0 : ((l.length : Int) != m.length) = false := by simp [hlm]
    have HLM := hide hlm
    have HA := hide hA
    have HC := hide hC
    clear hlm hA hC
    go_enter Tryd.func37, Tryd.ntmps37
    go_wp2_with fail
    go_loopw [17] (fun i wr => ∃ k : Nat, k ≤ l.length ∧ i = .int .i64 k ∧ Hid (∀ j (h : j < l.length) (h' : j < m.length), j < k → sameT l[j] m[j] = true) ∧ Hid (Below w.heap.size w wr)) (fun i _ => l.length - (intOf i).toNat)
    case atStart => exact ⟨0, Nat.zero_le _, rfl, hide (by intros; omega), hide (Below.refl _ _)⟩
    case round =>
      obtain ⟨k, hk, rfl, hw, hb⟩ := hrel
      by_cases hlt : k < l.length
      · have hlt' : k < m.length := by have := HLM.out; omega
        obtain ⟨b, o, rfl, _, c0, c1, c2, c3⟩ := (HA.out.below hb.out) k hlt
        have hbx : Below w.heap.size w (wr.alloc (.cells l[k].cs.toArray 35)) := hb.out.alloc hb.out.size _
        obtain ⟨b', o', rfl, _, d0, d1, d2, d3⟩ := (HC.out.below hbx) k hlt'
        have HCA := hide (fun W => sameToken_any l[k] m[k] W)
        have HB2 := hide (hbx.alloc (by have := hbx.size; omega) (.cells m[k].cs.toArray 35))
        cases hwf : sameT l[k] m[k] with
        | true =>
          rw [hwf] at HCA
          have HW := hide (show ∀ j (h : j < l.length) (h' : j < m.length), j < k + 1 → sameT l[j] m[j] = true from fun j h h' hj => by
            by_cases e : j = k
            · subst e; exact hwf
            · exact hw.out j h h' (by omega))
          clear hwf hbx
          generalize l[k] = t at *
          generalize m[k] = u at *
          go_wp2_with fail
          refine (HCA.out _).mono ?_
          rintro e w' ⟨rfl, hb'⟩
          have HBN := hide (below_one HB2.out hb')
          clear hb'
          go_wp2_with fail
          go_roundw
          case rel => exact ⟨k + 1, by omega, by go_num, HW, HBN⟩
          case measure => simp [intOf]; omega
        | false =>
          rw [hwf] at HCA
          have HF := hide (show samesT l m = false by
            cases e : samesT l m with
            | false => rfl
            | true => rw [(samesT_iff.1 e).2 k hlt hlt'] at hwf; cases hwf)
          clear hwf hbx
          generalize l[k] = t at *
          generalize m[k] = u at *
          go_wp2_with fail
          refine (HCA.out _).mono ?_
          rintro e w' ⟨rfl, hb'⟩
          have HBN := hide (below_one HB2.out hb')
          clear hb'
          go_wp2_with fail
          go_ret
          exact ⟨by rw [HF.out]; rfl, HBN.out⟩
      · obtain rfl : k = l.length := by omega
        have HT := hide (show samesT l m = true from samesT_iff.2 ⟨HLM.out, fun i h h' => hw.out i h h' h⟩)
        go_wp2_with fail
        go_ret
        exact ⟨by rw [HT.out]; rfl, hb.out⟩
  · have hb0 : ((l.length : Int) != m.length) = true := by simp; omega
    have HF := hide (show samesT l m = false by
      cases e : samesT l m with
      | false => rfl
      | true => exact absurd (samesT_iff.1 e).1 hlm)
    clear hlm
    go_enter Tryd.func37, Tryd.ntmps37
    go_wp2_with fail
    go_ret
    exact ⟨by rw [HF.out]; rfl, Below.refl _ _⟩

theorem same_any (A C : Option Addr) (l m : List Tok) (ca cb : Nat) (w : World) (hl : l.length ≤ 4611686018427387904) (hA : Toks w A l) (hC : Toks w C m) :
    Calls Tryd.prog 18 #[.slice A l.length ca, .slice C m.length cb] w fun e w' => e = .returned (.bool (samesT l m)) ∧ Below w.heap.size w w' := by
  have HCA := hide (equal_any A C l m ca cb w hl hA hC)
  clear hA hC
  go_enter Tryd.func18, Tryd.ntmps18
  go_wp2_with fail
  refine HCA.out.mono ?_
  rintro e w' ⟨rfl, hb⟩
  have HB := hide hb
  clear hb
  go_wp2_with fail
  go_ret
  exact ⟨rfl, HB.out⟩
end Go.Proofs.YtemapfhiiefieaaDoor
