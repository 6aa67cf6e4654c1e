/- Same of the program answers whether two values are equal in all fields. -/
import Derived.Test.YtccdencaidopnaaBase
namespace Go.Proofs.Ytccdencaidopnaa
open Go.RowKit

namespace VT
/-- Equal in all fields, and so are the elements. -/
def same : VT → VT → Bool
  | .mk k n s _ _ l, u => k == u.kind && n == u.num && s.toList == u.str.toList && sames l u.els
where sames : List VT → List VT → Bool
  | [], m => m.isEmpty
  | t :: r, m => match m with
    | [] => false
    | u :: q => same t u && sames r q

theorem same_eq (t u : VT) : t.same u = (t.kind == u.kind && t.num == u.num && t.str.toList == u.str.toList && same.sames t.els u.els) := by cases t; rfl

theorem sames_len {l m : List VT} (h : same.sames l m = true) : l.length = m.length := by
  induction l generalizing m with
  | nil => cases m with
    | nil => rfl
    | cons u q => simp [same.sames] at h
  | cons t r ih => cases m with
    | nil => simp [same.sames] at h
    | cons u q => simp [same.sames] at h; simp [ih h.2]

theorem sames_iff {l m : List VT} : same.sames l m = true ↔ l.length = m.length ∧ ∀ i (h : i < l.length) (h' : i < m.length), (l[i]).same m[i] = true := by
  induction l generalizing m with
  | nil => cases m with
    | nil => simp [same.sames]
    | cons u q => simp [same.sames]
  | cons t r ih => cases m with
    | nil => simp [same.sames]
    | cons u q =>
      simp only [same.sames, Bool.and_eq_true, ih, List.length_cons, Nat.add_right_cancel_iff]
      constructor
      · rintro ⟨h0, hl, h1⟩
        refine ⟨hl, fun i hi hi' => ?_⟩
        cases i with
        | zero => exact h0
        | succ i => exact h1 i (by simpa using hi) (by simpa using hi')
      · rintro ⟨hl, h⟩
        exact ⟨h 0 (by simp) (by simp), hl, fun i hi hi' => h (i + 1) (by simpa using hi) (by simpa using hi')⟩
end VT

/-- The contract of Same at one pair. -/
def SameAt (t u : VT) : Prop := ∀ w : World, t.In w → u.In w → Calls Try.prog 21 #[t.val, u.val] w fun e w' => e = .returned (.bool (t.same u)) ∧ Below w.heap.size w w'

set_option maxRecDepth 10000 in
set_option maxHeartbeats 800000 in
theorem equal_any (A C : Option Addr) (l m : List VT) (ca cb : Nat) (w : World) (hl : l.length * 48 ≤ 140737488351232) (_hm : m.length * 48 ≤ 140737488351232)
    (hA : ∀ i (h : i < l.length), ∃ b o, A = some ⟨b, o, none⟩ ∧ VT.At w b (o + i * 4) l[i]) (hC : ∀ i (h : i < m.length), ∃ b o, C = some ⟨b, o, none⟩ ∧ VT.At w b (o + i * 4) m[i])
    (hs : ∀ i (h : i < l.length) (h' : i < m.length) (w' : World), Below w.heap.size w w' → Calls Try.prog 21 #[l[i].val, m[i].val] w' fun e w'' => e = .returned (.bool (l[i].same m[i])) ∧ Below w'.heap.size w' w'') :
    Calls Try.prog 38 #[.slice A l.length ca, .slice C m.length cb, .func (.func 21) #[] #[]] w fun e w' => e = .returned (.bool (VT.same.sames l m)) ∧ Below w.heap.size w w' := by
  by_cases hlm : l.length = m.length
  · have hb0 : ((l.length : Int) != m.length) = false := by simp [hlm]
    have HLM := hide hlm
    clear hlm
    go_enter Try.func38, Try.ntmps38
    go_wp2_with fail
    go_loopw [17] (fun i wr => ∃ k : Nat, k ≤ l.length ∧ i = .int .i64 k ∧ (∀ j (h : j < l.length) (h' : j < m.length), j < k → (l[j]).same m[j] = true) ∧ Below w.heap.size w wr) (fun i _ => l.length - (intOf i).toNat)
    case atStart => exact ⟨0, Nat.zero_le _, rfl, by intros; omega, Below.refl _ _⟩
    case round =>
      obtain ⟨k, hk, rfl, hw, hb⟩ := hrel
      by_cases hlt : k < l.length
      · have hlt' : k < m.length := by have := HLM.out; omega
        obtain ⟨b, o, rfl, ha⟩ := hA k hlt
        obtain ⟨b', o', rfl, ha'⟩ := hC k hlt'
        obtain ⟨c0, c1, c2, c3⟩ := ha.below hb (Nat.le_refl _)
        have hd := fun x => ha'.below (hb.alloc hb.size x) (Nat.le_refl _)
        have d0 := fun x => (hd x).1
        have d1 := fun x => (hd x).2.1
        have d2 := fun x => (hd x).2.2.1
        have d3 := fun x => (hd x).2.2.2
        clear hd
        have HC := fun W hW => hide (hs k hlt hlt' W hW)
        clear ha ha' hA hC
        clear hs
        cases hwf : (l[k]).same m[k] with
        | true =>
          rw [hwf] at HC
          have HW := hide hwf
          clear hwf
          go_wp2_with (go_at_call 21; refine (HC _ ((hb.alloc hb.size _).alloc (by have := hb.size; simp; omega) _)).out.mono ?_; rintro e w' ⟨rfl, hb'⟩)
          refine ⟨⟨k + 1, by omega, by go_num, fun j h h' hj => ?_, ?_⟩, by simp [intOf]; omega⟩
          · by_cases e : j = k
            · subst e; exact HW.out
            · exact hw j h h' (by omega)
          · exact below_one ((hb.alloc hb.size _).alloc (by have := hb.size; simp; omega) _) hb'
        | false =>
          rw [hwf] at HC
          have HW := hide hwf
          clear hwf
          go_wp2_with (go_at_call 21; refine (HC _ ((hb.alloc hb.size _).alloc (by have := hb.size; simp; omega) _)).out.mono ?_; rintro e w' ⟨rfl, hb'⟩)
          go_ret
          refine ⟨?_, below_one ((hb.alloc hb.size _).alloc (by have := hb.size; simp; omega) _) hb'⟩
          have : VT.same.sames l m = false := by
            cases e : VT.same.sames l m with
            | false => rfl
            | true => rw [(VT.sames_iff.1 e).2 k hlt hlt'] at HW; cases HW.out
          rw [this]; rfl
      · obtain rfl : k = l.length := by omega
        go_wp2_with fail
        go_ret
        exact ⟨by rw [VT.sames_iff.2 ⟨HLM.out, fun i h h' => hw i h h' h⟩]; rfl, hb⟩
  · have hb0 : ((l.length : Int) != m.length) = true := by simp; omega
    have hf : VT.same.sames l m = false := by
      cases e : VT.same.sames l m with
      | false => rfl
      | true => exact absurd (VT.sames_len e) hlm
    have HF := hide hf
    clear hlm hf
    go_enter Try.func38, Try.ntmps38
    go_wp2_with fail
    go_ret
    exact ⟨by rw [HF.out]; rfl, Below.refl _ _⟩

set_option maxRecDepth 10000 in
set_option maxHeartbeats 800000 in
theorem same_step (t u : VT) (ih : ∀ i (h : i < t.els.length) (h' : i < u.els.length), SameAt t.els[i] u.els[i]) : SameAt t u := by
  intro w hin hin'
  obtain ⟨hk, hn, hs, hl⟩ := hin.facts
  obtain ⟨hk', hn', hs', hl'⟩ := hin'.facts
  obtain ⟨A, hv, hsl, hA⟩ := hin.open
  obtain ⟨C, hv', hsl', hC⟩ := hin'.open
  have HE := hide (VT.same_eq t u)
  have hcall : ∀ w1, Below w.heap.size w w1 → Calls Try.prog 38 #[.slice A t.els.length t.cap, .slice C u.els.length u.cap, .func (.func 21) #[] #[]] w1 fun e w' => e = .returned (.bool (VT.same.sames t.els u.els)) ∧ Below w1.heap.size w1 w' := by
    intro w1 hb
    refine equal_any A C t.els u.els t.cap u.cap w1 hl hl' (fun i h => ?_) (fun i h => ?_) (fun i h h' w2 hb2 => ?_)
    · obtain ⟨b, o, rfl, ha⟩ := hA i h
      exact ⟨b, o, rfl, ((hin.later hb).el ha h).1⟩
    · obtain ⟨b, o, rfl, ha⟩ := hC i h
      exact ⟨b, o, rfl, ((hin'.later hb).el ha h).1⟩
    · obtain ⟨b, o, _, ha⟩ := hA i h
      obtain ⟨b', o', _, ha'⟩ := hC i h'
      exact ih i h h' w2 (((hin.later hb).el ha h).2.later hb2) (((hin'.later hb).el ha' h').2.later hb2)
  have H := fun w1 h => hide (hcall w1 h)
  clear hcall ih hA hC
  rw [hv, hv']
  clear hv hv' hsl hsl'
  cases h1 : (t.kind == u.kind) with
  | false =>
    rw [h1] at HE
    go_enter Try.func21, Try.ntmps21
    go_wp2_with fail
    go_ret
    exact ⟨by rw [HE.out]; rfl, ((below_new _ _).alloc (by simp) _)⟩
  | true =>
    cases h2 : (t.num == u.num) with
    | false =>
      rw [h1, h2] at HE
      go_enter Try.func21, Try.ntmps21
      go_wp2_with fail
      go_ret
      exact ⟨by rw [HE.out]; rfl, ((below_new _ _).alloc (by simp) _)⟩
    | true =>
      cases h3 : (t.str.toList == u.str.toList) with
      | false =>
        rw [h1, h2, h3] at HE
        go_enter Try.func21, Try.ntmps21
        go_wp2_with fail
        go_ret
        exact ⟨by rw [HE.out]; rfl, ((below_new _ _).alloc (by simp) _)⟩
      | true =>
        rw [h1, h2, h3] at HE
        go_enter Try.func21, Try.ntmps21
        go_wp2_with (go_at_call 38; refine (H _ ((below_new _ _).alloc (by simp) _)).out.mono ?_; rintro e w' ⟨rfl, hb'⟩)
        go_ret
        exact ⟨by rw [HE.out]; rfl, below_one ((below_new _ _).alloc (by simp) _) hb'⟩

theorem same_any : ∀ (N : Nat) (t u : VT), t.sz ≤ N → SameAt t u := by
  intro N
  induction N with
  | zero => intro t u h; cases t; simp [VT.sz] at h
  | succ N ih => exact fun t u h => same_step t u fun i hi hi' => ih _ _ (by have := VT.sz_lt hi; omega)
end Go.Proofs.Ytccdencaidopnaa
