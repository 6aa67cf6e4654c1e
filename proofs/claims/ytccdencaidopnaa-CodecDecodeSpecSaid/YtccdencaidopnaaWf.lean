/- wellFormed, malformed, slices.ContainsFunc, slices.IndexFunc of the program answer whether a value is well-formed, for every value that lies in memory. -/
import Derived.Test.YtccdencaidopnaaBase
namespace Go.Proofs.Ytccdencaidopnaa
open Go.RowKit

theorem wfs_false {l : List VT} {k : Nat} (h : k < l.length) (hk : (l[k]).wf = false) : VT.wf.wfs l = false := by
  cases e : VT.wf.wfs l with
  | false => rfl
  | true => rw [VT.wfs_iff.1 e k h] at hk; cases hk


def Idx (l : List VT) (w : World) (e : Ending) (w' : World) : Prop := (∃ r : Int, e = .returned (.int .i64 r) ∧ -1 ≤ r ∧ r ≤ l.length ∧ (0 ≤ r ↔ VT.wf.wfs l = false)) ∧ Below w.heap.size w w'

set_option maxHeartbeats 400000 in
theorem index_any (b o : Nat) (l : List VT) (cap : Nat) (w : World) (hlen : l.length * 48 ≤ 140737488351232)
    (hat : ∀ i (h : i < l.length), VT.At w b (o + i * 4) l[i])
    (hmal : ∀ i (h : i < l.length) (w' : World), Below w.heap.size w w' → Calls Try.prog 48 #[l[i].val] w' fun e w'' => e = .returned (.bool (!l[i].wf)) ∧ Below w'.heap.size w' w'') :
    Calls Try.prog 57 #[.slice (some ⟨b, o, none⟩) l.length cap, .func (.func 48) #[] #[]] w (Idx l w) := by
  go_enter Try.func57, Try.ntmps57
  go_wp2_with fail
  go_loopw [8] (fun i wr => ∃ k : Nat, k ≤ l.length ∧ i = .int .i64 k ∧ (∀ j (h : j < l.length), j < k → (l[j]).wf = true) ∧ Below w.heap.size w wr) (fun i _ => l.length - (intOf i).toNat)
  case atStart => exact ⟨0, Nat.zero_le _, rfl, by intros; omega, Below.refl _ _⟩
  case round =>
    obtain ⟨k, hk, rfl, hw, hb⟩ := hrel
    by_cases hlt : k < l.length
    · have hc := (hat k hlt).below hb (Nat.le_refl _)
      obtain ⟨c0, c1, c2, c3⟩ := hc
      have hcall := hmal k hlt wr hb
      clear hmal
      have HC := hide hcall
      clear hcall
      cases hwf : (l[k]).wf with
      | true =>
        rw [hwf] at HC
        have HW := hide hwf
        clear hwf
        go_wp2_with (go_at_call 48; refine HC.out.mono ?_; rintro e w' ⟨rfl, hb'⟩)
        refine ⟨⟨k + 1, by omega, by go_num, fun j h hj => ?_, below_step hb hb' hb.size⟩, by simp [intOf]; omega⟩
        by_cases e : j = k
        · subst e; exact HW.out
        · exact hw j h (by omega)
      | false =>
        rw [hwf] at HC
        have HW := hide hwf
        clear hwf
        go_wp2_with (go_at_call 48; refine HC.out.mono ?_; rintro e w' ⟨rfl, hb'⟩)
        go_ret
        exact ⟨⟨_, rfl, by omega, by omega, by simp [wfs_false hlt HW.out]⟩, below_step hb hb' hb.size⟩
    · obtain rfl : k = l.length := by omega
      go_wp2_with fail
      go_ret
      exact ⟨⟨_, rfl, by omega, by omega, by simp [VT.wfs_iff.2 (fun i h => hw i h h)]⟩, hb⟩

set_option maxHeartbeats 400000 in
theorem index_nil (a : Option Addr) (cap : Nat) (w : World) : Calls Try.prog 57 #[.slice a 0 cap, .func (.func 48) #[] #[]] w (Idx [] w) := by
  go_enter Try.func57, Try.ntmps57
  go_wp2_with fail
  refine wp_loop_rounds 1 ?_
  rw [rounds_succ]
  go_wp2_with fail
  go_ret
  exact ⟨⟨_, rfl, by omega, by simp, by simp [VT.wf.wfs]⟩, Below.refl _ _⟩

set_option maxHeartbeats 400000 in
theorem contains_any (v : Value) (l : List VT) (w : World) (h : Calls Try.prog 57 #[v, .func (.func 48) #[] #[]] w (Idx l w)) :
    Calls Try.prog 47 #[v, .func (.func 48) #[] #[]] w fun e w' => e = .returned (.bool (!VT.wf.wfs l)) ∧ Below w.heap.size w w' := by
  have H := hide h
  clear h
  go_enter Try.func47, Try.ntmps47
  go_wp2_with (go_at_call 57; refine H.out.mono ?_; rintro e w' ⟨⟨r, rfl, hr1, hr2, hr3⟩, hb⟩)
  go_ret
  exact ⟨rfl, hb⟩

/-- The contract of wellFormed at one tree. -/
def WfAt (t : VT) : Prop := ∀ w : World, t.In w → Calls Try.prog 30 #[t.val] w fun e w' => e = .returned (.bool t.wf) ∧ Below w.heap.size w w'

set_option maxHeartbeats 400000 in
theorem malformed_any (t : VT) (h30 : WfAt t) (w : World) (hin : t.In w) : Calls Try.prog 48 #[t.val] w fun e w' => e = .returned (.bool (!t.wf)) ∧ Below w.heap.size w w' := by
  have H := fun W (hW : t.In W) => hide (h30 W hW)
  clear h30
  go_enter Try.func48, Try.ntmps48
  go_wp2_with (go_at_call 30; refine (H _ (hin.alloc _)).out.mono ?_; rintro e w' ⟨rfl, hb⟩)
  go_ret
  exact ⟨rfl, below_step ((Below.refl _ _).alloc (Nat.le_refl _) _) hb (by simp)⟩

set_option maxHeartbeats 800000 in
theorem wellFormed_step (t : VT) (ih : ∀ i (h : i < t.els.length), WfAt t.els[i]) : WfAt t := by
  intro w hin
  obtain ⟨hk, hn, hs, hl⟩ := hin.facts
  have hcon : ∀ w' : World, Below w.heap.size w w' → Calls Try.prog 47 #[t.sl, .func (.func 48) #[] #[]] w' fun e w'' => e = .returned (.bool (!VT.wf.wfs t.els)) ∧ Below w'.heap.size w' w'' := by
    intro w' hb
    refine contains_any _ _ _ ?_
    by_cases h0 : 0 < t.els.length
    · obtain ⟨b, o, ha⟩ := hin.adr h0
      have : t.sl = .slice (some ⟨b, o, none⟩) t.els.length t.cap := by unfold VT.sl; rw [ha]
      rw [this]
      refine index_any b o t.els t.cap w' hl (fun i h => ((hin.later hb).el ha h).1) (fun i h w2 hb2 => malformed_any _ (ih i h) w2 ((((hin.later hb).el ha h).2).later hb2))
    · have : t.els = [] := List.eq_nil_of_length_eq_zero (by omega)
      unfold VT.sl
      rw [this]
      exact index_nil _ _ _
  have HE := hide (VT.wf_eq t)
  have hnum := hn
  have H := fun w' hb => hide (hcon w' hb)
  clear hcon ih
  go_enter Try.func30, Try.ntmps30
  go_wp2_with (go_at_call 47; refine (H _ ((Below.refl _ _).alloc (Nat.le_refl _) _)).out.mono ?_; rintro e w' ⟨rfl, hb⟩)
  all_goals go_ret
  all_goals refine ⟨by clear H; rw [HE.out]; simp [*], ?_⟩
  all_goals first | exact below_step ((Below.refl _ _).alloc (Nat.le_refl _) _) ‹_› (by simp) | exact (Below.refl _ _).alloc (Nat.le_refl _) _

theorem wellFormed_any : ∀ (N : Nat) (t : VT), t.sz ≤ N → WfAt t := by
  intro N
  induction N with
  | zero => intro t h; cases t; simp [VT.sz] at h
  | succ N ih => exact fun t h => wellFormed_step t fun i hi => ih _ (by have := VT.sz_lt hi; omega)
end Go.Proofs.Ytccdencaidopnaa
