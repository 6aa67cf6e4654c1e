/- The two ends of every statement: the tables, arguments, and a call that answers true. -/
import Derived.Test.YtemapfhiiefieaaDoorRows
import Derived.Test.YtemapfhiiefieaaDoorSane2
import Derived.Lib.LaidTab
import Derived.Stop.LaidErr
import Derived.ProofKit
import Derived.LaidMore
import Derived.OpenShut
import Derived.ChangeSame
import Derived.Stop.Joined
import Derived.LaidHandle
import Derived.Deep.Slices
import Derived.Deep.Fields
import Derived.SizedLaws
import Derived.ReadAgain
import Derived.ChangeBears
import Derived.ChangeMaps5
namespace Go.Proofs.YtemapfhiiefieaaDoor
open Go.RowKit Go.WideShapes Go.ChangeShapes Go.ChangeAt Go.Deep Go.ChangeMaps

theorem ownKnobNone : ownKnob Tryd.prog.godebug = none := by kernel_rfl

theorem i64_range {a : Int} (h : (Lit.int .i64 a).wf = true) : -9223372036854775808 ≤ a ∧ a ≤ 9223372036854775807 := by
  simp only [Lit.wf, Bool.and_eq_true, decide_eq_true_eq] at h
  exact h

section
variable {H : Type} {enc : TypeId × Value → H} {P : Program}
/-- As the guide's own last step, for a world of which only that is known that nothing old has changed. -/
theorem post_of_below {f : Func} {s : ChangeSpec} {apart fresh handsOn again : Bool} {W W' : World} {args : Array Value} {v : Value} {ds gs : List (DataW H)} {before pa pv : List MemPlace}
    (hW : DataW.Whole enc P f.params.toList s.vars apart W args.toList ds gs before)
    (hres : ∀ (b : Nat) (sp : Nat → Bool) (hd : Bool), DataW.TrodAll enc P W' b sp hd f.resultTypes.toList (v.resultList f.resultTypes.size) (s.fn H (ds ++ gs)).results [])
    (hargs : ∀ sp : Nat → Bool, (∀ p ∈ before, sp p.block = true) → DataW.TrodAll enc P W' 0 sp true f.params.toList args.toList (s.fn H (ds ++ gs)).args pa)
    (hvars : ∀ sp : Nat → Bool, (∀ p ∈ before, sp p.block = true) → DataW.TrodVars enc P W' sp s.vars (s.fn H (ds ++ gs)).vars pv)
    (hps : before = pa ++ pv) (hb : Below W.heap.size W W')
    (hok : ∀ (j : Nat) (t : TypeId) (r : Value), f.resultTypes[j]? = some t → (v.resultList f.resultTypes.size)[j]? = some r → Value.okWide P W' .any 0 t r) :
    s.post enc P f apart fresh handsOn again W args v W' := by
  have hlt : ∀ p ∈ before, p.block < W.heap.size := fun p hp => hW.lt p hp
  have hold : ∀ p ∈ before, (fun b => decide (b < W.heap.size)) p.block = true := fun p hp => by simpa using hlt p hp
  refine ⟨ds, gs, before, [], pa, pv, hW, hres _ _ _, hargs _ hold, hvars _ hold, World.keptBut_mono (fun p hp => ⟨hp, ?_⟩) (hb.frame (· ∈ before)), fun _ => ?_⟩
  · rw [hps, List.mem_append] at hp
    exact Or.inr hp
  · obtain ⟨_, _, _, _, _, hz, hn⟩ := hW
    refine ⟨hok, _, _, ([] ++ pa) ++ pv, ⟨[] ++ pa, pv, trodAll_append (hargs _ (fun _ _ => rfl)) (hres _ _ _), hvars _ (fun _ _ => rfl), rfl, ?_, ?_⟩, ?_⟩
    · intro b off hp
      have hin : MemPlace.cell b off ∈ before := by rw [hps]; simpa using hp
      rw [hb.frozen (hlt _ hin)]
      exact hz b off hin
    · intro ha
      have := hn ha
      rw [hps] at this
      simpa using this
    · intro p hp _
      rw [hps]
      simpa using hp
end
theorem Tryd.kids : Kids Tryd.prog (· < Tryd.prog.types.size) := kids_rows (by kernel_rfl) (by kernel_rfl)
theorem Tryd.full : ∀ t e, t < Tryd.prog.types.size → Tryd.prog.underlying t = some (.slice e) → 0 < Tryd.prog.cellsOf e := slices_full_of Tryd.prog (by kernel_rfl)

section
variable {H : Type} {enc : TypeId × Value → H}

/-- A reading stays where only what is new has come. -/
theorem trodAll_up {P : Program} {W W' : World} {base : Nat} {sp : Nat → Bool} {hd : Bool} (hB : Below W.heap.size W W') : ∀ {ts : List TypeId} {vs : List Value} {ds : List (DataW H)} {ps : List MemPlace},
    DataW.TrodAll enc P W base sp hd ts vs ds ps → DataW.TrodAll enc P W' base sp hd ts vs ds ps
  | [], [], [], _, h => h
  | _ :: _, _ :: _, _ :: _, _, ⟨p, q, ⟨n, hn⟩, hs, e⟩ => ⟨p, q, ⟨n, DataW.trod_carry n _ _ _ hn (fun p hp => hB.same (DataW.trod_lt n _ _ _ hn p hp))⟩, trodAll_up hB hs, e⟩

/-- A call that answers true and leaves what was there, its arguments told as they were. -/
theorem post_true {f : Func} {s : ChangeSpec} {apart fresh handsOn again : Bool} {W W' : World} {args : Array Value} {ds : List (DataW H)} {before : List MemPlace}
    (hvars : s.vars = []) (hW : DataW.Whole enc Tryd.prog f.params.toList s.vars apart W args.toList ds [] before)
    (hAk : DataW.TrodAll enc Tryd.prog W 0 (fun _ => true) true f.params.toList args.toList ds before)
    (hT : ∀ t ∈ f.params.toList, t < Tryd.prog.types.size) (hr : f.resultTypes = #[4])
    (hres : (s.fn H ds).results = [.lit (.bool true)]) (harg : (s.fn H ds).args = ds) (hvar : (s.fn H ds).vars = []) (hb : Below W.heap.size W W') :
    s.post enc Tryd.prog f apart fresh handsOn again W args (.bool true) W' := by
  have hl : (f.resultTypes.size) = 1 := by rw [hr]; rfl
  refine post_of_below (ds := ds) (gs := []) (pa := before) (pv := []) hW (fun b sp hd => ?_) (fun sp hsp => ?_) (fun sp _ => ?_) (by simp) hb ?_
  · rw [hr, List.append_nil, hres]
    exact trodAll_cons_mk (shut_bool Tryd.underlying4 _) trodAll_mk0
  · rw [List.append_nil, harg]
    exact trodAll_up hb (DataW.TrodAll.respare Tryd.kids Tryd.full hT hAk hsp)
  · rw [hvars, List.append_nil, hvar]
    rfl
  · exact ok_one (t := 4) hr rfl (okWide_bool_mk Tryd.underlying4 _)
end

theorem Tryd.cells3 : Tryd.prog.cellsOf 3 = 1 := by kernel_rfl
theorem Tryd.cells5 : Tryd.prog.cellsOf 5 = 1 := by kernel_rfl
theorem Tryd.cells9 : Tryd.prog.cellsOf 9 = 1 := by kernel_rfl
theorem Tryd.cells35 : Tryd.prog.cellsOf 35 = 4 := by kernel_rfl
theorem Tryd.bytes35 : Tryd.prog.bytesOf 35 = 40 := by kernel_rfl
theorem Tryd.cells58 : Tryd.prog.cellsOf 58 = 1 := by kernel_rfl
theorem Tryd.cells70 : Tryd.prog.cellsOf 70 = 128 := by kernel_rfl
theorem Tryd.cells77 : Tryd.prog.cellsOf 77 = 1 := by kernel_rfl
theorem Tryd.cells84 : Tryd.prog.cellsOf 84 = 20 := by kernel_rfl
theorem gC : Tryd.prog.globalNamed "signatory/lex.classes" = some 0 := by kernel_rfl
theorem tC : (Tryd.prog.globals[0]?).map (·.type) = some 70 := by kernel_rfl
theorem gP : Tryd.prog.globalNamed "internal/strconv.uint64pow10" = some 2 := by kernel_rfl
theorem tP : (Tryd.prog.globals[2]?).map (·.type) = some 84 := by kernel_rfl
def clsL : List Int := (List.range 128).map fun i => (clsN i : Int)
set_option maxRecDepth 100000 in
theorem clsL_data : (Rows.laid_signatory_lex_classes : DataW Unit) = Lib.tabData .u8 clsL := rfl
theorem pow_data : (Rows.laid_internal_strconv_uint64pow10 : DataW Unit) = Lib.tabData .u64 Lib.pow10Tab := rfl
abbrev LV : List (String × DataW Unit) := [("math/bits.deBruijn32tab", Rows.laid_math_bits_deBruijn32tab), ("math/bits.deBruijn64tab", Rows.laid_math_bits_deBruijn64tab), ("internal/strconv.uint64pow10", Rows.laid_internal_strconv_uint64pow10), ("signatory/lex.classes", Rows.laid_signatory_lex_classes)]

/-- What the program's text lays: the table of the classes and that of the powers of ten. -/
theorem of_laid {W : World} (h : laidMetH Tryd.prog LV W) : Tab W ∧ Pow W := by
  rw [MakeChecks.laidMetH_plain _ _ _ (by kernel_rfl)] at h
  have h2 := laidMet.tail (laidMet.tail h)
  have h3 := laidMet.tail h2
  rw [pow_data] at h2
  rw [clsL_data] at h3
  have hP := Lib.tabIs_of_head gP tP Tryd.underlying84 Tryd.underlying77 Tryd.cells77 Tryd.cells84 h2
  have hC := Lib.tabIs_of_head gC tC Tryd.underlying70 Tryd.underlying58 Tryd.cells58 Tryd.cells70 h3
  refine ⟨fun i hi => ?_, hP⟩
  rw [hC.cell gC i (by simpa [clsL] using hi)]
  simp [clsL, List.getD, hi]

/-- Bytes that a slice names. -/
def Byts (W : World) (A : Option Addr) (l : List UInt8) : Prop := ∀ i (h : i < l.length), ∃ b o, A = some ⟨b, o, none⟩ ∧ b < W.heap.size ∧ W.cell? ⟨b, o + i, none⟩ = some (.int .u8 (l[i].toNat : Nat))
section
variable {H : Type} {enc : TypeId × Value → H} {W : World} {base : Nat}
/-- An argument of type []byte is bytes in memory. -/
theorem open_bytes {v : Value} {d : DataW H} {ps : List MemPlace} (hok : Value.okWide Tryd.prog W .any base 39 v)
    (h : DataW.Trod enc Tryd.prog W 0 (fun _ => true) true 39 v d ps) : ∃ (a : Option Addr) (l : List UInt8) (cap : Nat), v = .slice a l.length cap ∧ Byts W a l ∧ l.length ≤ cap ∧ cap ≤ 9223372036854775807 := by
  obtain ⟨a0, len0, cap0, rfl⟩ := okWide_slice Tryd.underlying39 hok
  obtain ⟨n, hn⟩ := h
  rcases DataW.trod_slice Tryd.underlying39 hn with ⟨e3, _⟩ | ⟨a, len, cap, elems, rest, n', _, e3, _, _, hl, hm, hlen, hel, _, _⟩
  · simp only [Value.cells, List.cons.injEq, Value.slice.injEq, and_true] at e3
    obtain ⟨rfl, rfl, rfl⟩ := e3
    exact ⟨none, [], 0, rfl, fun i h => absurd h (by simp), by simp, by omega⟩
  · simp only [Value.cells, List.cons.injEq, Value.slice.injEq, and_true] at e3
    obtain ⟨rfl, rfl, rfl⟩ := e3
    have cell : ∀ i, i < len0 → ∃ c : UInt8, W.cell? (a.add i) = some (.int .u8 (c.toNat : Nat)) := by
      intro i hi
      have h1 := hel i hi
      rw [Tryd.cells5, Nat.mul_one] at h1
      have hlt : i < elems.length := by omega
      rw [List.getElem?_eq_getElem hlt] at h1
      obtain ⟨cs', h2, h3⟩ := Option.bind_eq_some_iff.1 h1
      obtain ⟨k, e0, _, w0⟩ := DataW.trod_int Tryd.underlying5 h3
      obtain ⟨_, hcl, hat⟩ := World.cells?_some h2
      subst e0
      have h4 := hat 0 (by omega)
      simp only [List.getElem?_cons_zero] at h4
      have h5 : (a.add i).add 0 = a.add i := by simp [Addr.add]
      rw [h5] at h4
      have hw : 0 ≤ k ∧ k ≤ 255 := by
        simp only [Lit.wf, Bool.and_eq_true, decide_eq_true_eq] at w0
        exact w0
      refine ⟨UInt8.ofNat k.toNat, ?_⟩
      rw [h4]
      simp
      omega
    have each : ∀ i, i < len0 → ∃ c : UInt8, a.spot = none ∧ a.block < W.heap.size ∧ W.cell? ⟨a.block, a.off + i, none⟩ = some (.int .u8 (c.toNat : Nat)) := by
      intro i hi
      obtain ⟨_, h0⟩ := cell 0 (by omega)
      obtain ⟨c, hc⟩ := cell i hi
      have hsp : a.spot = none := by simpa [Addr.add] using World.cell?_spot h0
      have hadd : a.add i = ⟨a.block, a.off + i, none⟩ := by
        obtain ⟨b, o, sp⟩ := a
        simp only at hsp
        subst hsp
        unfold Addr.add
        split <;> simp_all
      rw [hadd] at hc
      exact ⟨c, hsp, cell_lt (a := ⟨a.block, a.off + i, none⟩) hc, hc⟩
    have all : ∀ m, m ≤ len0 → ∃ l : List UInt8, l.length = m ∧ ∀ i (h : i < l.length), a.spot = none ∧ a.block < W.heap.size ∧ W.cell? ⟨a.block, a.off + i, none⟩ = some (.int .u8 (l[i].toNat : Nat)) := by
      intro m
      induction m with
      | zero => exact fun _ => ⟨[], rfl, fun i h => by simp at h⟩
      | succ m ihm =>
        intro hm
        obtain ⟨l, hl1, hl2⟩ := ihm (by omega)
        obtain ⟨c, hc⟩ := each m (by omega)
        refine ⟨l ++ [c], by simp [hl1], fun i hi => ?_⟩
        by_cases he : i < l.length
        · rw [List.getElem_append_left he]; exact hl2 i he
        · obtain rfl : i = l.length := by simp at hi; omega
          simp only [List.getElem_append_right (Nat.le_refl _), Nat.sub_self, List.getElem_cons_zero]
          rw [hl1]; exact hc
    obtain ⟨l, hl1, hl2⟩ := all len0 (Nat.le_refl _)
    refine ⟨some a, l, cap0, by rw [hl1], fun i hi => ?_, by omega, by unfold maxLen at hm; omega⟩
    obtain ⟨b, o, sp⟩ := a
    obtain ⟨h1, h2, h3⟩ := hl2 i hi
    simp only at h1
    subst h1
    exact ⟨b, o, rfl, h2, h3⟩

/-- How much is read below a place is in reach. -/
def Reach (t : TypeId) (d : DataW H) : Prop := ∀ n ∈ d.weights Tryd.prog t, n ≤ reachBytes
theorem mem_weightsAll {e : TypeId} {l : List (DataW H)} {d : DataW H} (hd : d ∈ l) {n : Nat} (hn : n ∈ d.weights Tryd.prog e) : n ∈ DataW.weightsAll Tryd.prog e l := by
  induction l with
  | nil => cases hd
  | cons x r ih =>
    simp only [DataW.weightsAll, List.mem_append]
    rcases List.mem_cons.1 hd with rfl | hd
    · exact .inl hn
    · exact .inr (ih hd)
/-- An argument of type string. -/
theorem open_str {v : Value} {d : DataW H} {ps : List MemPlace} (hok : Value.okWide Tryd.prog W .any base 9 v) (h : DataW.Trod enc Tryd.prog W 0 (fun _ => true) true 9 v d ps) (hr : Reach 9 d) : ∃ s : ByteArray, v = .string s ∧ s.size ≤ 140737488351232 := by
  obtain ⟨s, rfl, rfl, _, _⟩ := open_string Tryd.underlying9 hok h
  refine ⟨s, rfl, ?_⟩
  have : s.size ≤ reachBytes := hr s.size (by
    have : s.data.toList.length = s.size := by rw [Array.length_toList]; rfl
    simp only [DataW.weights, ← this]; simp)
  simpa [reachBytes] using this
/-- What a token in memory can be. -/
def Tok.Fit (t : Tok) : Prop := (-9223372036854775808 ≤ t.kind ∧ t.kind ≤ 9223372036854775807) ∧ (-9223372036854775808 ≤ t.n ∧ t.n ≤ 9223372036854775807) ∧ (-9223372036854775808 ≤ t.pos ∧ t.pos ≤ 9223372036854775807) ∧ t.text.size ≤ 140737488351232
theorem open_token (fuel : Nat) (cs : List Value) (x : DataW H × List MemPlace) (h : DataW.trod enc Tryd.prog W 0 (fun _ => true) true fuel 35 cs = some x) (hr : Reach 35 x.1) :
    ∃ t : Tok, cs = t.cs ∧ t.Fit := by
  obtain ⟨xs, n, rfl, rfl, hlen, hxl, hf⟩ := DataW.trod_struct Tryd.underlying35 h
  rw [Tryd.cells35] at hlen
  match xs, hxl, cs, hlen with
  | [y0, y1, y2, y3], _, [v0, v1, v2, v3], _ =>
    have g0 := hf 0 _ rfl
    have g1 := hf 1 _ rfl
    have g2 := hf 2 _ rfl
    have g3 := hf 3 _ rfl
    simp [Tryd.cells3, Tryd.cells9] at g0 g1 g2 g3
    obtain ⟨k, e0, rfl, w0⟩ := DataW.trod_int Tryd.underlying3 g0
    obtain ⟨s, e1, rfl, _⟩ := DataW.trod_string Tryd.underlying9 g1
    obtain ⟨m, e2, rfl, w2⟩ := DataW.trod_int Tryd.underlying3 g2
    obtain ⟨p, e3, rfl, w3⟩ := DataW.trod_int Tryd.underlying3 g3
    simp only [List.cons.injEq, and_true] at e0 e1 e2 e3
    subst e0 e1 e2 e3
    have hr2 : ∀ n ∈ DataW.weightsEach Tryd.prog [3, 9, 3, 3] [(DataW.lit (.int .i64 k) : DataW H), DataW.lit (.string s.data.toList), DataW.lit (.int .i64 m), DataW.lit (.int .i64 p)], n ≤ reachBytes := by
      intro n hn
      refine hr n ?_
      simp only [DataW.weights, Tryd.underlying35, List.map_cons, List.map_nil]
      exact hn
    have hs : s.size ≤ reachBytes := hr2 s.size (by
      have : s.data.toList.length = s.size := by rw [Array.length_toList]; rfl
      simp only [DataW.weightsEach, DataW.weights, ← this]; simp)
    exact ⟨⟨k, s, m, p⟩, rfl, i64_range w0, i64_range w2, i64_range w3, by simpa [reachBytes] using hs⟩
/-- An argument of type []Token is tokens in memory. -/
theorem open_tokens {v : Value} {d : DataW H} {ps : List MemPlace} (hok : Value.okWide Tryd.prog W .any base 23 v)
    (h : DataW.Trod enc Tryd.prog W 0 (fun _ => true) true 23 v d ps) (hr : Reach 23 d) : ∃ (A : Option Addr) (l : List Tok) (cap : Nat), v = .slice A l.length cap ∧ Toks W A l ∧ l.length * 40 ≤ 140737488351232 ∧ l.length ≤ cap ∧ (∀ t ∈ l, t.Fit) := by
  obtain ⟨a0, len0, cap0, rfl⟩ := okWide_slice Tryd.underlying23 hok
  obtain ⟨n, hn⟩ := h
  rcases DataW.trod_slice Tryd.underlying23 hn with ⟨e3, _⟩ | ⟨a, len, cap, elems, rest, n', rfl, e3, e5, _, hl, hm, hlen, hel, _, _⟩
  · simp only [Value.cells, List.cons.injEq, Value.slice.injEq, and_true] at e3
    obtain ⟨rfl, rfl, rfl⟩ := e3
    exact ⟨none, [], 0, rfl, fun i h => absurd h (by simp), by simp, by simp, by simp⟩
  · simp only [Value.cells, List.cons.injEq, Value.slice.injEq, and_true] at e3
    obtain ⟨rfl, rfl, rfl⟩ := e3
    simp only [Prod.mk.injEq] at e5
    obtain ⟨rfl, rfl⟩ := e5
    have hw : (len0 + rest.length) * 40 ≤ reachBytes := hr _ (by simp only [DataW.weights, Tryd.underlying23, Tryd.bytes35, List.length_map, hlen]; simp)
    have each : ∀ i, i < len0 → ∃ t : Tok, (∃ cs', W.cells? 0 (a.add (i * 4)) 4 = some cs' ∧ cs' = t.cs) ∧ t.Fit := by
      intro i hi
      have h1 := hel i hi
      rw [Tryd.cells35] at h1
      have hlt : i < elems.length := by omega
      rw [List.getElem?_eq_getElem hlt] at h1
      obtain ⟨cs', h2, h3⟩ := Option.bind_eq_some_iff.1 h1
      obtain ⟨t, ht, hin⟩ := open_token n' cs' _ h3 (fun q hq => hr q (by
        simp only [DataW.weights, Tryd.underlying23, List.mem_cons, List.mem_append]
        exact .inr (.inl (mem_weightsAll (List.mem_map.2 ⟨_, List.getElem_mem hlt, rfl⟩) hq))))
      exact ⟨t, ⟨cs', h2, ht⟩, hin⟩
    have all : ∀ m, m ≤ len0 → ∃ els : List Tok, els.length = m ∧ ∀ i (h : i < els.length), (∃ cs', W.cells? 0 (a.add (i * 4)) 4 = some cs' ∧ cs' = (els[i]).cs) ∧ (els[i]).Fit := by
      intro m
      induction m with
      | zero => exact fun _ => ⟨[], rfl, fun i h => by simp at h⟩
      | succ m ihm =>
        intro hm
        obtain ⟨els, hl1, hl2⟩ := ihm (by omega)
        obtain ⟨t, ht⟩ := each m (by omega)
        refine ⟨els ++ [t], by simp [hl1], fun i hi => ?_⟩
        by_cases he : i < els.length
        · rw [List.getElem_append_left he]; exact hl2 i he
        · obtain rfl : i = els.length := by simp at hi; omega
          simp only [List.getElem_append_right (Nat.le_refl _), Nat.sub_self, List.getElem_cons_zero]
          rw [hl1]; exact ht
    obtain ⟨els, hl1, hl2⟩ := all len0 (Nat.le_refl _)
    refine ⟨some a, els, cap0, by rw [hl1], fun i hi => ?_, by rw [hl1]; unfold reachBytes at hw; omega, by omega, fun t ht => ?_⟩
    · obtain ⟨⟨cs', hc, hcs⟩, _⟩ := hl2 i hi
      obtain ⟨_, hcl, hat⟩ := World.cells?_some hc
      subst hcs
      obtain ⟨b, o, sp⟩ := a
      obtain ⟨⟨cs0, hc0, hcs0⟩, _⟩ := hl2 0 (by omega)
      obtain ⟨_, hcl0, hat0⟩ := World.cells?_some hc0
      subst hcs0
      have h1 := hat0 0 (by omega)
      have hsp : sp = none := by simpa [Addr.add] using World.cell?_spot h1
      subst hsp
      have hadd : ∀ x y : Nat, ((⟨b, o, none⟩ : Addr).add x).add y = ⟨b, o + x + y, none⟩ := by
        intro x y
        unfold Addr.add
        split <;> split <;> simp_all
      have c0 := hat 0 (by omega)
      have c1 := hat 1 (by omega)
      have c2 := hat 2 (by omega)
      have c3 := hat 3 (by omega)
      rw [hadd] at c0 c1 c2 c3
      simp at c0 c1 c2 c3
      exact ⟨b, o, rfl, cell_lt c0, c0, c1, c2, c3⟩
    · obtain ⟨i, hi, rfl⟩ := List.getElem_of_mem ht
      exact (hl2 i hi).2
end
theorem door_met (os : Os) (args : Array Value) : laidMetH Tryd.prog LV ((World.doorLaid Tryd.prog 400 os).forCall (fun _ _ => 0) ⟨#[], args, []⟩).memory :=
  laidMetH_of_parts3 (fuel := 8) (laidMet_of_run' 8 (by kernel_rfl) (by kernel_rfl)) (by kernel_rfl) (by kernel_rfl)
end Go.Proofs.YtemapfhiiefieaaDoor
