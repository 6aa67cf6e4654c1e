/- CodecLists answers true for every list of values, and its argument stays as it is. No condition. -/
import Derived.Test.YtccdencaidopnaaShut
import Derived.Test.YtccdencaidopnaaLists2
namespace Go.Proofs.Ytccdencaidopnaa.codecLists
open Go.ChangeShapes Go.WideShapes Go.ChangeAt Go.RowKit Go.Deep

/-- An argument of type []Value is a list's elements in memory. -/
theorem open_list {H : Type} {enc : TypeId × Value → H} {W : World} {base : Nat} {v : Value} {d : DataW H} {ps : List MemPlace} (hok : Value.okWide Try.prog W .any base 22 v)
    (h : DataW.Trod enc Try.prog W 0 (fun _ => true) true 22 v d ps) (hr : Reach 22 d) : ∃ t : VT, v = t.sl ∧ t.In W ∧ t.kind = 3 ∧ t.num = 0 ∧ t.str = ⟨#[]⟩ := by
  obtain ⟨a, len, cap, rfl⟩ := okWide_slice Try.underlying22 hok
  obtain ⟨n, hn⟩ := h
  cases n with
  | zero => simp [DataW.trod] at hn
  | succ n =>
    have hs : DataW.trod enc Try.prog W 0 (fun _ => true) true (n + 1 + 1) 24 [.int .i64 3, .int .i64 0, .string ⟨#[]⟩, .slice a len cap] = some (.agg [.lit (.int .i64 3), .lit (.int .i64 0), .lit (.string []), d], ps) := by
      have h0 : DataW.trod enc Try.prog W 0 (fun _ => true) true (n + 1) 3 [.int .i64 3] = some (.lit (.int .i64 3), []) := trod_int_mk n Try.underlying3 (by decide)
      have h1 : DataW.trod enc Try.prog W 0 (fun _ => true) true (n + 1) 3 [.int .i64 0] = some (.lit (.int .i64 0), []) := trod_int_mk n Try.underlying3 (by decide)
      have h2 : DataW.trod enc Try.prog W 0 (fun _ => true) true (n + 1) 9 [.string ⟨#[]⟩] = some (.lit (.string []), []) := by simp [DataW.trod, Try.underlying9, ByteArray.size]
      have h3 : DataW.trod enc Try.prog W 0 (fun _ => true) true (n + 1) 22 [.slice a len cap] = some (d, ps) := hn
      have := trod_struct_mk (enc := enc) (w := W) (base := 0) (spare := fun _ => true) (held := true) (n := n + 1) (cs := [.int .i64 3, .int .i64 0, .string ⟨#[]⟩, .slice a len cap]) (xs := [(.lit (.int .i64 3), []), (.lit (.int .i64 0), []), (.lit (.string []), []), (d, ps)]) Try.underlying24 (by rw [Try.cells24]; rfl) (by
        simp [Try.cells3, Try.cells9, Try.cells22, h0, h1, h2, h3])
      simpa using this
    obtain ⟨t, ht, hin⟩ := open_value _ _ _ hs (fun m hm => by
      simp only [DataW.weights, Try.underlying24, List.map_cons, List.map_nil, DataW.weightsEach] at hm
      simp at hm
      rcases hm with hm | hm
      · omega
      · exact hr m hm)
    simp only [List.cons.injEq, Value.int.injEq, Value.string.injEq, true_and, and_true] at ht
    exact ⟨t, ht.2.2.2, hin, ht.1.symm, ht.2.1.symm, ht.2.2.1.symm⟩

set_option maxRecDepth 100000 in
theorem lifted (os : Os) (started : os.Started) (H : Type) (enc : TypeId × Value → H) :
    ReturnsInHanded {} Try.checked os 8 .any (Rows.codecListsSpec.pre6 enc Try.prog Try.f8 Rows.codecListsRow.domain false) (Rows.codecListsSpec.post enc Try.prog Try.f8 false true false false) := by
  refine returnsInHanded_of_change_sized (C := Try.checked) ownKnobNone started (by kernel_rfl) Try.func8
    (ChangeSpec.witness6 (enc := enc) (C := Try.checked) false ⟨#[], #[.slice none 0 0], []⟩ 8 (by kernel_rfl) (by kernel_rfl) (by kernel_rfl) (by kernel_rfl)) ?_
  intro W base args ds gs before hval0 hW hcnd hsz0 _
  have hval : ∀ (j : Nat) t v, Try.f8.params[j]? = some t → args[j]? = some v → Value.okWide Try.prog W .any base t v := hval0
  have hW' := hW
  obtain ⟨p, q, hA0, hV, rfl, hfz, hnd⟩ := hW
  have hA : DataW.TrodAll enc Try.prog W 0 (fun _ => true) true Try.f8.params.toList args.toList ds p := hA0
  have hAk := hA
  have hsz : (DataW.weightsEach Try.prog (Try.f8.params.toList ++ []) (ds ++ gs)).all (· ≤ reachBytes) = true := hsz0
  obtain ⟨rfl, rfl⟩ := trodVars_none hV
  rw [Try.params8] at hA hval hsz
  obtain ⟨v0, vs0, d0, ds0, p0, q0, hargs, rfl, rfl, h0, r0⟩ := trodAll_cons hA
  obtain ⟨rfl, rfl, rfl⟩ := trodAll_nil r0
  obtain rfl : args = #[v0] := by cases args; simp_all
  have hreach : ∀ (j : Nat) t d, ([22] : List TypeId)[j]? = some t → ([d0] : List (DataW H))[j]? = some d → Reach t d := by
    intro j t d ht hd n hn
    have := List.all_eq_true.1 hsz _ (DataW.weights_mem_each (j := j) (t := t) (d := d) (by simpa using ht) (by simpa using hd) n hn)
    simpa using this
  obtain ⟨t, rfl, hin, hk3, hn0, hs0⟩ := open_list (hval 0 22 v0 rfl rfl) h0 (hreach 0 22 d0 rfl rfl)
  clear hA0 hval0
  simp only [List.append_nil] at hW' hAk
  refine (lists_walk t W hin hk3 hn0 hs0).mono fun e W' ⟨he, hg⟩ => ?_
  subst he
  exact ⟨_, rfl, post_true rfl hW' hAk (by rw [Try.params8]; decide +kernel) (by kernel_rfl) rfl rfl rfl hg⟩

theorem over : Rows.codecListsRow.holds Try.pinned (OpenSpec.ofChange Rows.codecListsSpec) :=
  OpenClaim.holds_of_wide 8 Try.f8 rfl rfl rfl rfl rfl rfl rfl ⟨rfl, rfl, rfl, rfl, rfl⟩ rfl rfl rfl rfl rfl (by kernel_rfl) Try.func8 (by kernel_rfl)
    (of_decide_eq_true (by kernel_rfl)) (by unfold Func.isWrapper; first | (rw [if_pos (by decide +kernel)]; kernel_rfl) | (rw [if_neg (by decide +kernel)]; exact ⟨rfl, rfl⟩))
    (fun os started H enc _ => lifted os started H enc)

/-- The statement. -/
theorem proved : Rows.CodecListsSaid :=
  over
#print axioms proved
end Go.Proofs.Ytccdencaidopnaa.codecLists
