/- CodecLists: the encoding of a list ends with the encodings of its elements, and its size is that of as many zeros with the elements' sizes. No condition. The walk. -/
import Derived.Test.YtccdencaidopnaaTrip
import Derived.Test.YtccdencaidopnaaRNum
namespace Go.Proofs.Ytccdencaidopnaa
open Go.RowKit

set_option maxRecDepth 10000 in
set_option maxHeartbeats 400000 in
theorem few_nil (a : Option Addr) (cap : Nat) (w : World) : Calls Try.prog 11 #[.slice a 0 cap] w fun e w' => e = .returned (.bool true) ∧ Below w.heap.size w w' := by
  go_enter Try.func11, Try.ntmps11
  go_wp2_with fail
  refine wp_loop_rounds 1 ?_
  rw [rounds_succ]
  go_wp2_with fail
  go_ret
  exact ⟨rfl, Below.refl _ _⟩

theorem few_sl (T : VT) (w : World) (hin : T.In w) : Calls Try.prog 11 #[T.sl] w (FewPost (∀ i (h : i < T.els.length), Small 200 T.els[i]) w) := by
  obtain ⟨_, _, _, hl⟩ := hin.facts
  unfold VT.sl
  by_cases h0 : 0 < T.els.length
  · obtain ⟨b, o, ha⟩ := hin.adr h0
    rw [ha]
    exact few_any b o T.cap T.els w hl fun i h => hin.el ha h
  · have : T.els = [] := List.eq_nil_of_length_eq_zero (by omega)
    rw [this]
    refine (few_nil _ _ w).mono fun e w' ⟨he, hb⟩ => ⟨true, he, hide (fun _ i h => by simp at h), hb⟩

/-- Two rows of different elements are two rows. -/
theorem own_apart {w : World} {b1 b2 n n' : Nat} {v v' : Value} {xs xs' : List Value} {e e' s s' : Nat} (h : w.ownsRow b1 e s v n xs) (h' : w.ownsRow b2 e' s' v' n' xs') (hne : e ≠ e') : v.ownBlock = none ∨ v.ownBlock ≠ v'.ownBlock := by
  rcases h.2 with ⟨rfl, _⟩ | ⟨g, cap, cur, rfl, _, hg, _⟩
  · exact .inl rfl
  · right
    intro he
    rcases h'.2 with ⟨rfl, _⟩ | ⟨g', cap', cur', rfl, _, hg', _⟩
    · simp [Value.ownBlock] at he
    · simp [Value.ownBlock] at he
      subst he
      rw [hg] at hg'
      simp at hg'
      exact hne hg'.2

/-- As many zeros. -/
def zeros (n : Nat) : List VT := List.replicate n (intT 0)
theorem zeros_wf (n : Nat) : VT.wf.wfs (zeros n) = true := by
  refine VT.wfs_iff.2 fun i h => ?_
  simp [zeros, intT, VT.wf, Lib.toList_data]
theorem zeros_enc (n : Nat) : (VT.enc.encs (zeros n)).length = 2 * n := by
  induction n with
  | zero => rfl
  | succ n ih =>
    have : zeros (n + 1) = intT 0 :: zeros n := rfl
    rw [this]
    simp only [VT.enc.encs, List.length_append, ih]
    have : (intT 0).enc = [1, 0] := by rfl
    rw [this]
    simp
    omega
theorem zeros_sz (n : Nat) : VT.sz.szs (zeros n) = n := by
  induction n with
  | zero => rfl
  | succ n ih =>
    have : zeros (n + 1) = intT 0 :: zeros n := rfl
    rw [this]
    simp only [VT.sz.szs, ih, intT_sz]
    omega
theorem zeros_snoc (n : Nat) : cellsOf (zeros n) ++ cells4 (intT 0) = cellsOf (zeros (n + 1)) := by
  rw [← cellsOf_snoc]
  congr 1
  simp [zeros, List.replicate_succ']

/-- A row of zeros is a list of zeros. -/
theorem zeros_list {base n : Nat} {x : Value} {w : World} (h : w.ownsRow base 24 4 x n (cellsOf (zeros n))) (hn : n ≤ 1000000) : ∃ Z : VT, x = Z.sl ∧ Z.kind = 3 ∧ Z.num = 0 ∧ Z.str = ⟨#[]⟩ ∧ Z.els = zeros n ∧ Z.In w ∧ chk Z = 0 ∧ Z.sz ≤ n + 1 ∧ Z.enc.length = 1 + (numeral n).length + 2 * n := by
  have hl : (zeros n).length = n := by simp [zeros]
  have hin : ∀ t ∈ zeros n, t = intT 0 := fun t ht => (List.mem_replicate.1 ht).2
  obtain ⟨Z, h1, h2, h3, h4, h5, h6, h7, h8, _⟩ := list_end (d := 0) h hl (fun t ht => by
    rw [hin t ht]
    exact ⟨intT_in 0 (by omega) w, fun b hb => by simp [intT, VT.blocks, VT.blocks.blockss] at hb⟩) (zeros_wf n) (fun i hi => by rw [hin _ (List.getElem_mem hi)]; simp [intT, VT.dep]) (by omega)
  refine ⟨Z, h1, h4, h5, h6, h2, h3, chk_of h7 (by omega), by rw [VT.sz_eq, h2, zeros_sz]; omega, ?_⟩
  rw [VT.enc_eq, if_neg (by omega), if_neg (by omega), h2, hl]
  simp only [List.length_cons, List.length_append, zeros_enc]
  omega

/-- A list of which an element cannot be encoded cannot. -/
theorem chk_list {T : VT} (hk : T.kind = 3) {i : Nat} (h : i < T.els.length) (hc : chk T.els[i] ≠ 0) : chk T ≠ 0 := by
  intro h0
  apply hc
  have hw := chk_wf h0
  have hd := chk_dep h0
  rcases VT.wf_kind hw with ⟨k, _⟩ | ⟨k, _⟩ | ⟨k, _, _, w0⟩
  · omega
  · omega
  · refine chk_of (VT.wfs_iff.1 w0 i h) ?_
    rw [VT.dep_eq, if_pos hk] at hd
    have := VT.deps_get h
    omega
end Go.Proofs.Ytccdencaidopnaa
