/- The two ends of every statement: the table of the numbers K, arguments, and a call that answers true. -/
import Derived.Test.YtalgceplcahgbaaDoorRows
import Derived.Test.YtalgceplcahgbaaDoorApp
import Derived.ProofKit
import Derived.LaidMore
import Derived.OpenShut
import Derived.ChangeSame
import Derived.Stop.Joined
import Derived.LaidHandle
import Derived.Deep.Slices
import Derived.Deep.Fields
import Derived.SizedLaws
import Derived.ReadAgain
import Derived.ChangeBears
namespace Go.Proofs.YtalgceplcahgbaaDoor
open Go.RowKit Go.WideShapes Go.ChangeShapes Go.ChangeAt Go.Deep

set_option maxRecDepth 20000 in
theorem ownKnobNone : ownKnob Tryd.prog.godebug = none := by kernel_rfl

set_option maxRecDepth 20000 in
theorem i64_range {a : Int} (h : (Lit.int .i64 a).wf = true) : -9223372036854775808 ≤ a ∧ a ≤ 9223372036854775807 := by
  simp only [Lit.wf, Bool.and_eq_true, decide_eq_true_eq] at h
  exact h

section
variable {H : Type} {enc : TypeId × Value → H} {P : Program}
set_option maxRecDepth 20000 in
/-- As the guide's own last step, for a world of which only that is known that nothing old has changed. -/
theorem post_of_below {f : Func} {s : ChangeSpec} {apart fresh handsOn again : Bool} {W W' : World} {args : Array Value} {v : Value} {ds gs : List (DataW H)} {before pa pv : List MemPlace}
    (hW : DataW.Whole enc P f.params.toList s.vars apart W args.toList ds gs before)
    (hres : ∀ (b : Nat) (sp : Nat → Bool) (hd : Bool), DataW.TrodAll enc P W' b sp hd f.resultTypes.toList (v.resultList f.resultTypes.size) (s.fn H (ds ++ gs)).results [])
    (hargs : ∀ sp : Nat → Bool, (∀ p ∈ before, sp p.block = true) → DataW.TrodAll enc P W' 0 sp true f.params.toList args.toList (s.fn H (ds ++ gs)).args pa)
    (hvars : ∀ sp : Nat → Bool, (∀ p ∈ before, sp p.block = true) → DataW.TrodVars enc P W' sp s.vars (s.fn H (ds ++ gs)).vars pv)
    (hps : before = pa ++ pv) (hb : Below W.heap.size W W')
    (hok : ∀ (j : Nat) (t : TypeId) (r : Value), f.resultTypes[j]? = some t → (v.resultList f.resultTypes.size)[j]? = some r → Value.okWide P W' .any 0 t r) :
    s.post enc P f apart fresh handsOn again W args v W' := by
  have hlt : ∀ p ∈ before, p.block < W.heap.size := fun p hp => hW.lt p hp
  have hold : ∀ p ∈ before, (fun b => decide (b < W.heap.size)) p.block = true := fun p hp => by simpa using hlt p hp
  refine ⟨ds, gs, before, [], pa, pv, hW, hres _ _ _, hargs _ hold, hvars _ hold, World.keptBut_mono (fun p hp => ⟨hp, ?_⟩) (hb.frame (· ∈ before)), fun _ => ?_⟩
  · rw [hps, List.mem_append] at hp
    exact Or.inr hp
  · obtain ⟨_, _, _, _, _, hz, hn⟩ := hW
    refine ⟨hok, _, _, ([] ++ pa) ++ pv, ⟨[] ++ pa, pv, trodAll_append (hargs _ (fun _ _ => rfl)) (hres _ _ _), hvars _ (fun _ _ => rfl), rfl, ?_, ?_⟩, ?_⟩
    · intro b off hp
      have hin : MemPlace.cell b off ∈ before := by rw [hps]; simpa using hp
      rw [hb.frozen (hlt _ hin)]
      exact hz b off hin
    · intro ha
      have := hn ha
      rw [hps] at this
      simpa using this
    · intro p hp _
      rw [hps]
      simpa using hp
end
set_option maxRecDepth 20000 in
theorem Tryd.kids : Kids Tryd.prog (· < Tryd.prog.types.size) := kids_rows (by kernel_rfl) (by kernel_rfl)
set_option maxRecDepth 20000 in
theorem Tryd.full : ∀ t e, t < Tryd.prog.types.size → Tryd.prog.underlying t = some (.slice e) → 0 < Tryd.prog.cellsOf e := slices_full_of Tryd.prog (by kernel_rfl)

section
variable {H : Type} {enc : TypeId × Value → H}

set_option maxRecDepth 20000 in
/-- A reading stays where only what is new has come. -/
theorem trodAll_up {P : Program} {W W' : World} {base : Nat} {sp : Nat → Bool} {hd : Bool} (hB : Below W.heap.size W W') : ∀ {ts : List TypeId} {vs : List Value} {ds : List (DataW H)} {ps : List MemPlace},
    DataW.TrodAll enc P W base sp hd ts vs ds ps → DataW.TrodAll enc P W' base sp hd ts vs ds ps
  | [], [], [], _, h => h
  | _ :: _, _ :: _, _ :: _, _, ⟨p, q, ⟨n, hn⟩, hs, e⟩ => ⟨p, q, ⟨n, DataW.trod_carry n _ _ _ hn (fun p hp => hB.same (DataW.trod_lt n _ _ _ hn p hp))⟩, trodAll_up hB hs, e⟩

set_option maxRecDepth 20000 in
/-- A call that answers true and leaves what was there, its arguments told as they were. -/
theorem post_true {f : Func} {s : ChangeSpec} {apart fresh handsOn again : Bool} {W W' : World} {args : Array Value} {ds : List (DataW H)} {before : List MemPlace}
    (hvars : s.vars = []) (hW : DataW.Whole enc Tryd.prog f.params.toList s.vars apart W args.toList ds [] before)
    (hAk : DataW.TrodAll enc Tryd.prog W 0 (fun _ => true) true f.params.toList args.toList ds before)
    (hT : ∀ t ∈ f.params.toList, t < Tryd.prog.types.size) (hr : f.resultTypes = #[4])
    (hres : (s.fn H ds).results = [.lit (.bool true)]) (harg : (s.fn H ds).args = ds) (hvar : (s.fn H ds).vars = []) (hb : Below W.heap.size W W') :
    s.post enc Tryd.prog f apart fresh handsOn again W args (.bool true) W' := by
  have hl : (f.resultTypes.size) = 1 := by rw [hr]; rfl
  refine post_of_below (ds := ds) (gs := []) (pa := before) (pv := []) hW (fun b sp hd => ?_) (fun sp hsp => ?_) (fun sp _ => ?_) (by simp) hb ?_
  · rw [hr, List.append_nil, hres]
    exact trodAll_cons_mk (shut_bool Tryd.underlying4 _) trodAll_mk0
  · rw [List.append_nil, harg]
    exact trodAll_up hb (DataW.TrodAll.respare Tryd.kids Tryd.full hT hAk hsp)
  · rw [hvars, List.append_nil, hvar]
    rfl
  · exact ok_one (t := 4) hr rfl (okWide_bool_mk Tryd.underlying4 _)
end

set_option maxRecDepth 20000 in
theorem Tryd.cells5 : Tryd.prog.cellsOf 5 = 1 := by kernel_rfl
set_option maxRecDepth 20000 in
theorem Tryd.cells72 : Tryd.prog.cellsOf 72 = 1 := by kernel_rfl
set_option maxRecDepth 20000 in
theorem Tryd.cells91 : Tryd.prog.cellsOf 91 = 64 := by kernel_rfl
set_option maxRecDepth 20000 in
theorem Tryd.cells26 : Tryd.prog.cellsOf 26 = 32 := by kernel_rfl
set_option maxRecDepth 20000 in
theorem gK : Tryd.prog.globalNamed "signatory/digest.k" = some 0 := by kernel_rfl
set_option maxRecDepth 20000 in
theorem tK : (Tryd.prog.globals[0]?).map (·.type) = some 91 := by kernel_rfl
set_option maxRecDepth 20000 in
theorem kl_data {H : Type} : (Rows.laid_signatory_digest_k : DataW H) = .agg (kl.map fun n => .lit (.int .u32 (n : Nat))) := rfl
set_option maxRecDepth 20000 in
theorem kl_len : kl.length = 64 := by decide

section
variable {H : Type} {enc : TypeId × Value → H} {W : World} {base : Nat}
set_option maxRecDepth 20000 in
/-- An argument of type []byte is bytes in memory. -/
theorem open_bytes {v : Value} {d : DataW H} {ps : List MemPlace} (hok : Value.okWide Tryd.prog W .any base 22 v)
    (h : DataW.Trod enc Tryd.prog W 0 (fun _ => true) true 22 v d ps) : ∃ (a : Option Addr) (l : List UInt8) (cap : Nat), v = .slice a l.length cap ∧ Src W a l.length cap l ∧ l.length ≤ cap ∧ cap ≤ 9223372036854775807 := by
  obtain ⟨a0, len0, cap0, rfl⟩ := okWide_slice Tryd.underlying22 hok
  obtain ⟨n, hn⟩ := h
  rcases DataW.trod_slice Tryd.underlying22 hn with ⟨e3, _⟩ | ⟨a, len, cap, elems, rest, n', _, e3, _, _, hl, hm, hlen, hel, _, _⟩
  · simp only [Value.cells, List.cons.injEq, Value.slice.injEq, and_true] at e3
    obtain ⟨rfl, rfl, rfl⟩ := e3
    exact ⟨none, [], 0, rfl, ⟨rfl, fun h => absurd rfl h, fun _ => rfl⟩, by simp, by omega⟩
  · simp only [Value.cells, List.cons.injEq, Value.slice.injEq, and_true] at e3
    obtain ⟨rfl, rfl, rfl⟩ := e3
    have cell : ∀ i, i < len0 → ∃ c : UInt8, W.cell? (a.add i) = some (.int .u8 (c.toNat : Nat)) := by
      intro i hi
      have h1 := hel i hi
      rw [Tryd.cells5, Nat.mul_one] at h1
      have hlt : i < elems.length := by omega
      rw [List.getElem?_eq_getElem hlt] at h1
      obtain ⟨cs', h2, h3⟩ := Option.bind_eq_some_iff.1 h1
      obtain ⟨k, e0, _, w0⟩ := DataW.trod_int Tryd.underlying5 h3
      obtain ⟨_, hcl, hat⟩ := World.cells?_some h2
      subst e0
      have h4 := hat 0 (by omega)
      simp only [List.getElem?_cons_zero] at h4
      have h5 : (a.add i).add 0 = a.add i := by simp [Addr.add]
      rw [h5] at h4
      have hw : 0 ≤ k ∧ k ≤ 255 := by
        simp only [Lit.wf, Bool.and_eq_true, decide_eq_true_eq] at w0
        exact w0
      refine ⟨UInt8.ofNat k.toNat, ?_⟩
      rw [h4]
      simp
      omega
    have each : ∀ i, i < len0 → ∃ c : UInt8, a.spot = none ∧ a.block < W.heap.size ∧ W.cell? ⟨a.block, a.off + i, none⟩ = some (.int .u8 (c.toNat : Nat)) := by
      intro i hi
      obtain ⟨_, h0⟩ := cell 0 (by omega)
      obtain ⟨c, hc⟩ := cell i hi
      have hsp : a.spot = none := by simpa [Addr.add] using World.cell?_spot h0
      have hadd : a.add i = ⟨a.block, a.off + i, none⟩ := by
        obtain ⟨b, o, sp⟩ := a
        simp only at hsp
        subst hsp
        unfold Addr.add
        split <;> simp_all
      rw [hadd] at hc
      exact ⟨c, hsp, cell_lt (a := ⟨a.block, a.off + i, none⟩) hc, hc⟩
    have all : ∀ m, m ≤ len0 → ∃ l : List UInt8, l.length = m ∧ ∀ i (h : i < l.length), a.spot = none ∧ a.block < W.heap.size ∧ W.cell? ⟨a.block, a.off + i, none⟩ = some (.int .u8 (l[i].toNat : Nat)) := by
      intro m
      induction m with
      | zero => exact fun _ => ⟨[], rfl, fun i h => by simp at h⟩
      | succ m ihm =>
        intro hm
        obtain ⟨l, hl1, hl2⟩ := ihm (by omega)
        obtain ⟨c, hc⟩ := each m (by omega)
        refine ⟨l ++ [c], by simp [hl1], fun i hi => ?_⟩
        by_cases he : i < l.length
        · rw [List.getElem_append_left he]; exact hl2 i he
        · obtain rfl : i = l.length := by simp at hi; omega
          simp only [List.getElem_append_right (Nat.le_refl _), Nat.sub_self, List.getElem_cons_zero]
          rw [hl1]; exact hc
    obtain ⟨l, hl1, hl2⟩ := all len0 (Nat.le_refl _)
    refine ⟨some a, l, cap0, by rw [hl1], ⟨rfl, fun hne => ?_, fun h => by cases h⟩, by omega, by unfold maxLen at hm; omega⟩
    obtain ⟨b, o, sp⟩ := a
    have h1 := (hl2 0 (List.length_pos_iff.2 hne)).1
    simp only at h1
    subst h1
    exact ⟨b, o, rfl, fun i hi => (hl2 i hi).2.2⟩

def byteIn : Option Value → UInt8
  | some (.int _ k) => UInt8.ofNat k.toNat
  | _ => 0
set_option maxRecDepth 20000 in
/-- An argument of type api.Digest is 32 bytes. -/
theorem open_digest {v : Value} {d : DataW H} {ps : List MemPlace} (hok : Value.okWide Tryd.prog W .any base 26 v) (h : DataW.Trod enc Tryd.prog W 0 (fun _ => true) true 26 v d ps) : ∃ l : List UInt8, l.length = 32 ∧ v = dv l := by
  have hu := Tryd.underlying26
  simp only [Value.okWide, hu] at hok
  obtain ⟨cs, rfl, hcs, _⟩ := hok
  obtain ⟨n, hn⟩ := h
  obtain ⟨xs, m1, rfl, _, hlen, hn3, hel⟩ := DataW.trod_array Tryd.underlying26 hn
  rw [Tryd.cells26] at hlen
  have hl : cs.toList.length = 32 := by simpa [Value.cells] using hlen
  have each : ∀ i, i < 32 → ∃ c : UInt8, cs.toList[i]? = some (.int .u8 (c.toNat : Nat)) := by
    intro i hi
    have hi2 : i < xs.length := by omega
    have h0 := hel i hi
    rw [Tryd.cells5, Nat.mul_one, List.getElem?_eq_getElem hi2] at h0
    obtain ⟨k, e1, _, w0⟩ := DataW.trod_int Tryd.underlying5 h0
    have hw : 0 ≤ k ∧ k ≤ 255 := by
      simp only [Lit.wf, Bool.and_eq_true, decide_eq_true_eq] at w0
      exact w0
    refine ⟨UInt8.ofNat k.toNat, ?_⟩
    have := congrArg (·[0]?) e1
    have e2 : cs.toList[i]? = some (.int .u8 k) := by simpa [Value.cells] using this
    rw [e2]
    simp
    omega
  refine ⟨(List.range 32).map fun i => byteIn cs.toList[i]?, by simp, ?_⟩
  congr 1
  apply Array.ext'
  apply List.ext_getElem?
  intro i
  by_cases hi : i < 32
  · obtain ⟨c, hc⟩ := each i hi
    rw [hc, List.toList_toArray, bc_get (by simpa using hi)]
    rw [List.getElem_map, List.getElem_range, hc]
    simp [byteIn]
  · rw [List.getElem?_eq_none (by omega), List.getElem?_eq_none (by rw [List.toList_toArray, bc_len]; simp; omega)]
end

set_option maxRecDepth 20000 in
/-- The table of the numbers K. -/
theorem of_laid {W : World} (h : laidMetH Tryd.prog [("signatory/digest.k", Rows.laid_signatory_digest_k)] W) : Tab W := by
  rw [MakeChecks.laidMetH_plain _ _ _ (by kernel_rfl)] at h
  obtain ⟨ps, ⟨g0, t0, cs0, f0, p0, q0, hg0, ht0, hv0, hd0, _⟩, _⟩ := h
  obtain rfl := Option.some.inj (gK.symm.trans hg0)
  obtain rfl := Option.some.inj (tK.symm.trans ht0)
  obtain ⟨xs, m1, rfl, hx1, hlen, hn3, hel⟩ := DataW.trod_array Tryd.underlying91 hd0
  rw [kl_data] at hx1
  simp only [Prod.mk.injEq, DataW.agg.injEq] at hx1
  intro i hi
  have hi2 : i < xs.length := by omega
  have h0 := hel i hi
  rw [Tryd.cells72, Nat.mul_one, List.getElem?_eq_getElem hi2] at h0
  obtain ⟨k, e1, e2, _⟩ := DataW.trod_int Tryd.underlying72 h0
  have e3 : (xs.map (·.1))[i]? = some xs[i].1 := by simp [hi2]
  rw [← hx1.1, e2, List.getElem?_map] at e3
  have hk : kl[i]? = some (kl.getD i 0) := by rw [List.getD_eq_getElem?_getD, List.getElem?_eq_getElem (by rw [kl_len]; exact hi)]; rfl
  rw [hk] at e3
  simp at e3
  have hc := World.var?_cell hg0 hv0 i
  rw [hc]
  have e4 : cs0.toList[i]? = some (.int .u32 k) := by
    have := congrArg (·[0]?) e1
    simpa using this
  rw [Array.getElem?_toList] at e4
  have hw := kw_nat i
  rw [List.getD_eq_getElem?_getD] at hw
  rw [e4, ← e3, ← hw]
end Go.Proofs.YtalgceplcahgbaaDoor
