/- depth of the program answers the depth of a value, for every value that lies in memory. -/
import Derived.Test.YtccdencaidopnaaWf
namespace Go.Proofs.Ytccdencaidopnaa
open Go.RowKit

/-- The contract of depth at one tree. -/
def DepAt (t : VT) : Prop := ∀ w : World, t.In w → t.sz ≤ 1000000 → Calls Try.prog 31 #[t.val] w fun e w' => e = .returned (.int .i64 (t.dep : Nat)) ∧ Below w.heap.size w w'

set_option maxHeartbeats 800000 in
theorem depth_step (t : VT) (ih : ∀ i (h : i < t.els.length), DepAt t.els[i]) : DepAt t := by
  intro w hin hsz
  obtain ⟨hk, hn, hs, hl⟩ := hin.facts
  have HE := hide (VT.dep_eq t)
  obtain ⟨A, hv, _, hA⟩ := hin.open
  rw [hv]
  clear hv
  by_cases h3 : t.kind = 3
  · have hb3 : (t.kind != 3) = false := by simp [h3]
    have H3 := hide h3
    clear h3
    have hdl := VT.dep_le t
    have hdd : VT.dep.deps t.els ≤ 1000000 := by rw [HE.out, if_pos H3.out] at hdl; omega
    clear hdl
    go_enter Try.func31, Try.ntmps31
    go_wp2_with fail
    go_loopw [3, 12] (fun d i wr => ∃ k : Nat, k ≤ t.els.length ∧ i = .int .i64 k ∧ d = .int .i64 (VT.dep.deps (t.els.take k) : Nat) ∧ Below w.heap.size w wr) (fun _ i _ => t.els.length - (intOf i).toNat)
    case atStart => exact ⟨0, Nat.zero_le _, rfl, rfl, (Below.refl _ _).alloc (Nat.le_refl _) _⟩
    case round =>
      obtain ⟨k, hk', rfl, rfl, hb⟩ := hrel
      by_cases hlt : k < t.els.length
      · obtain ⟨b, o, rfl, ha⟩ := hA k hlt
        obtain ⟨⟨c0, c1, c2, c3⟩, hink⟩ := (hin.later hb).el ha hlt
        have HA := hide ha
        clear ha
        have hszk := VT.sz_lt hlt
        have hdk := VT.dep_le t.els[k]
        have hdt := VT.deps_take_le t.els k
        have HT := hide (VT.deps_take hlt)
        have HC := fun W (hW : Below wr.heap.size wr W) => hide (ih k hlt W (hink.later hW) (by omega))
        clear ih
        go_wp2_with (go_at_call 31; refine (HC _ (((Below.refl _ _).alloc (Nat.le_refl _) _))).out.mono ?_; rintro e w' ⟨rfl, hb'⟩)
        refine ⟨⟨k + 1, by omega, by go_num, ?_, ?_⟩, by simp [intOf]; omega⟩
        · rw [HT.out]; congr 1; omega
        · exact below_two hb hb'
      · obtain rfl : k = t.els.length := by omega
        have HF := hide (List.take_length (l := t.els))
        go_wp2_with fail
        go_ret
        exact ⟨by rw [HE.out, if_pos H3.out, HF.out]; rfl, hb⟩
  · have hb3 : (t.kind != 3) = true := by simp [h3]
    rw [if_neg h3] at HE
    clear h3
    go_enter Try.func31, Try.ntmps31
    go_wp2_with fail
    go_ret
    exact ⟨by rw [HE.out]; rfl, (Below.refl _ _).alloc (Nat.le_refl _) _⟩

theorem depth_any : ∀ (N : Nat) (t : VT), t.sz ≤ N → DepAt t := by
  intro N
  induction N with
  | zero => intro t h; cases t; simp [VT.sz] at h
  | succ N ih => exact fun t h => depth_step t fun i hi => ih _ (by have := VT.sz_lt hi; omega)
end Go.Proofs.Ytccdencaidopnaa
