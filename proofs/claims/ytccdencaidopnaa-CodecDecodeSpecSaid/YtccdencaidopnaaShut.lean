/- The two ends of every statement over values: an argument as a tree in memory; a call that answers true and leaves what was there. -/
import Derived.Test.YtccdencaidopnaaOpen
namespace Go.Proofs.Ytccdencaidopnaa
open Go.RowKit Go.WideShapes Go.ChangeShapes Go.ChangeAt Go.Deep

theorem Try.kids : Kids Try.prog (· < Try.prog.types.size) := kids_rows (by kernel_rfl) (by kernel_rfl)
theorem Try.full : ∀ t e, t < Try.prog.types.size → Try.prog.underlying t = some (.slice e) → 0 < Try.prog.cellsOf e := slices_full_of Try.prog (by kernel_rfl)

section
variable {H : Type} {enc : TypeId × Value → H}

/-- A reading stays where only what is new has come. -/
theorem trodAll_up {P : Program} {W W' : World} {base : Nat} {sp : Nat → Bool} {hd : Bool} (hB : Below W.heap.size W W') : ∀ {ts : List TypeId} {vs : List Value} {ds : List (DataW H)} {ps : List MemPlace},
    DataW.TrodAll enc P W base sp hd ts vs ds ps → DataW.TrodAll enc P W' base sp hd ts vs ds ps
  | [], [], [], _, h => h
  | _ :: _, _ :: _, _ :: _, _, ⟨p, q, ⟨n, hn⟩, hs, e⟩ => ⟨p, q, ⟨n, DataW.trod_carry n _ _ _ hn (fun p hp => hB.same (DataW.trod_lt n _ _ _ hn p hp))⟩, trodAll_up hB hs, e⟩

/-- A call that answers true and leaves what was there, its arguments told as they were. -/
theorem post_true {f : Func} {s : ChangeSpec} {apart fresh handsOn again : Bool} {W W' : World} {args : Array Value} {ds : List (DataW H)} {before : List MemPlace}
    (hvars : s.vars = []) (hW : DataW.Whole enc Try.prog f.params.toList s.vars apart W args.toList ds [] before)
    (hAk : DataW.TrodAll enc Try.prog W 0 (fun _ => true) true f.params.toList args.toList ds before)
    (hT : ∀ t ∈ f.params.toList, t < Try.prog.types.size) (hr : f.resultTypes = #[4])
    (hres : (s.fn H ds).results = [.lit (.bool true)]) (harg : (s.fn H ds).args = ds) (hvar : (s.fn H ds).vars = []) (hb : Below W.heap.size W W') :
    s.post enc Try.prog f apart fresh handsOn again W args (.bool true) W' := by
  have hl : (f.resultTypes.size) = 1 := by rw [hr]; rfl
  refine post_of_below (ds := ds) (gs := []) (pa := before) (pv := []) hW (fun b sp hd => ?_) (fun sp hsp => ?_) (fun sp _ => ?_) (by simp) hb ?_
  · rw [hr, List.append_nil, hres]
    exact trodAll_cons_mk (shut_bool Try.underlying4 _) trodAll_mk0
  · rw [List.append_nil, harg]
    exact trodAll_up hb (DataW.TrodAll.respare Try.kids Try.full hT hAk hsp)
  · rw [hvars, List.append_nil, hvar]
    rfl
  · exact ok_one (t := 4) hr rfl (okWide_bool_mk Try.underlying4 _)

/-- An argument of type Value is a tree in memory. -/
theorem open_arg {W : World} {base : Nat} {v : Value} {d : DataW H} {ps : List MemPlace} (hok : Value.okWide Try.prog W .any base 24 v)
    (h : DataW.Trod enc Try.prog W 0 (fun _ => true) true 24 v d ps) (hr : Reach 24 d) : ∃ t : VT, v = t.val ∧ t.In W := by
  obtain ⟨cs, rfl, hcs⟩ := okWide_struct Try.underlying24 hok
  obtain ⟨n, hn⟩ := h
  obtain ⟨t, ht, hin⟩ := open_value n _ _ hn hr
  refine ⟨t, ?_, hin⟩
  have : cs = #[.int .i64 t.kind, .int .i64 t.num, .string t.str, t.sl] := by
    apply Array.ext'
    simpa [Value.cells] using ht
  rw [this]
end
end Go.Proofs.Ytccdencaidopnaa
