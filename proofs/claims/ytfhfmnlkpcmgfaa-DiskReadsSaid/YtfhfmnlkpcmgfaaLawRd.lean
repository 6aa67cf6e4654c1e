/- DiskReads answers true for every disk, numbers and bytes, and its arguments stay as they are. No condition. -/
import Derived.Test.YtfhfmnlkpcmgfaaOpn
import Derived.Test.YtfhfmnlkpcmgfaaRdL
namespace Go.Proofs.Ytfhfmnlkpcmgfaa.diskReads
open Go.ChangeShapes Go.WideShapes Go.ChangeAt Go.RowKit Go.Deep

set_option maxRecDepth 100000 in
theorem lifted (os : Os) (started : os.Started) (H : Type) (enc : TypeId × Value → H) :
    ReturnsInHanded {} Try.checked os 7 .any (Rows.diskReadsSpec.pre6 enc Try.prog Try.f7 Rows.diskReadsRow.domain false) (Rows.diskReadsSpec.post enc Try.prog Try.f7 false true false false) := by
  refine returnsInHanded_of_change_sized (C := Try.checked) ownKnobNone started (by kernel_rfl) Try.func7
    (ChangeSpec.witness6 (enc := enc) (C := Try.checked) false ⟨#[], #[.agg #[.slice none 0 0, .slice none 0 0, .int .i64 0, .bool false], .int .i64 0, .int .i64 0, .slice none 0 0, .slice none 0 0], []⟩ 8 (by kernel_rfl) (by kernel_rfl) (by kernel_rfl) (by kernel_rfl)) ?_
  intro W base args ds gs before hval0 hW hcnd hsz0 _
  have hval : ∀ (j : Nat) t v, Try.f7.params[j]? = some t → args[j]? = some v → Value.okWide Try.prog W .any base t v := hval0
  have hW' := hW
  obtain ⟨p, q, hA0, hV, rfl, hfz, hnd⟩ := hW
  have hA : DataW.TrodAll enc Try.prog W 0 (fun _ => true) true Try.f7.params.toList args.toList ds p := hA0
  have hAk := hA
  have hsz : (DataW.weightsEach Try.prog (Try.f7.params.toList ++ []) (ds ++ gs)).all (· ≤ reachBytes) = true := hsz0
  obtain ⟨rfl, rfl⟩ := trodVars_none hV
  rw [Try.params7] at hA hval hsz
  obtain ⟨v0, vs0, d0, ds0, p0, q0, hargs, rfl, rfl, h0, w0⟩ := trodAll_cons hA
  obtain ⟨v1, vs1, d1, ds1, p1, q1, rfl, rfl, rfl, h1, w1⟩ := trodAll_cons w0
  obtain ⟨v2, vs2, d2, ds2, p2, q2, rfl, rfl, rfl, h2, w2⟩ := trodAll_cons w1
  obtain ⟨v3, vs3, d3, ds3, p3, q3, rfl, rfl, rfl, h3, w3⟩ := trodAll_cons w2
  obtain ⟨v4, vs4, d4, ds4, p4, q4, rfl, rfl, rfl, h4, w4⟩ := trodAll_cons w3
  obtain ⟨rfl, rfl, rfl⟩ := trodAll_nil w4
  obtain rfl : args = #[v0, v1, v2, v3, v4] := by cases args; simp_all
  have hreach : ∀ (j : Nat) t d, ([25, 3, 3, 35, 35] : List TypeId)[j]? = some t → ([d0, d1, d2, d3, d4] : List (DataW H))[j]? = some d → Reach t d := by
    intro j t d ht hd n hn
    have := List.all_eq_true.1 hsz _ (DataW.weights_mem_each (j := j) (t := t) (d := d) (by simpa using ht) (by simpa using hd) n hn)
    simpa using this
  obtain ⟨s0, rfl, n0, x0⟩ := open_disk (hval 0 25 v0 rfl rfl) h0 (hreach 0 25 d0 rfl rfl)
  obtain ⟨i1, rfl, r1⟩ := open_i64 (hval 1 3 v1 rfl rfl) h1
  obtain ⟨i2, rfl, r2⟩ := open_i64 (hval 2 3 v2 rfl rfl) h2
  obtain ⟨s3, rfl, n3⟩ := open_bytes (hval 3 35 v3 rfl rfl) h3 (hreach 3 35 d3 rfl rfl)
  obtain ⟨s4, rfl, n4⟩ := open_bytes (hval 4 35 v4 rfl rfl) h4 (hreach 4 35 d4 rfl rfl)
  clear hA0 hval0
  simp only [List.append_nil] at hW' hAk
  refine (reads_walk s0 i1 i2 s3 s4 W n0 n3 n4 r1 r2 x0).mono fun e W' ⟨he, hg⟩ => ?_
  subst he
  exact ⟨_, rfl, post_true rfl hW' hAk (by rw [Try.params7]; decide +kernel) (by kernel_rfl) rfl rfl rfl hg⟩

theorem over : Rows.diskReadsRow.holds Try.pinned (OpenSpec.ofChange Rows.diskReadsSpec) :=
  OpenClaim.holds_of_wide 7 Try.f7 rfl rfl rfl rfl rfl rfl rfl ⟨rfl, rfl, rfl, rfl, rfl⟩ rfl rfl rfl rfl rfl (by kernel_rfl) Try.func7 (by kernel_rfl)
    (of_decide_eq_true (by kernel_rfl)) (by unfold Func.isWrapper; first | (rw [if_pos (by decide +kernel)]; kernel_rfl) | (rw [if_neg (by decide +kernel)]; exact ⟨rfl, rfl⟩))
    (fun os started H enc _ => lifted os started H enc)

/-- The statement. -/
theorem proved : Rows.DiskReadsSaid :=
  over
#print axioms proved
end Go.Proofs.Ytfhfmnlkpcmgfaa.diskReads
