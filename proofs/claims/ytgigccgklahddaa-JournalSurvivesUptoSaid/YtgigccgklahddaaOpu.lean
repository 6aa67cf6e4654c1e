/- Arguments. -/
import Derived.Test.YtgigccgklahddaaRows
import Derived.Test.YtgigccgklahddaaStp
import Derived.ProofKit
import Derived.LaidMore
import Derived.OpenShut
import Derived.ChangeSame
import Derived.Stop.Joined
import Derived.LaidHandle
import Derived.Deep.Slices
import Derived.Deep.Fields
import Derived.SizedLaws
import Derived.ReadAgain
import Derived.ChangeBears
import Derived.ChangeMaps5
import Derived.Lib.SmallJoins
import Derived.Test.YtgigccgklahddaaJfw
import Derived.JoinedCond
namespace Go.Proofs.Ytgigccgklahddaa
open Go.RowKit Go.WideShapes Go.ChangeShapes Go.ChangeAt Go.Deep Go.ChangeMaps Go.Joins

/-- What came in is short. -/
def Short (d : Dsk) : Prop := (∀ s ∈ d.ss, s.l.length ≤ 140737488355328) ∧ ∀ p ∈ d.ps, p.s.l.length ≤ 140737488355328
theorem ownKnobNone : ownKnob Try.prog.godebug = none := by kernel_rfl
theorem i64_range {a : Int} (h : (Lit.int .i64 a).wf = true) : -9223372036854775808 ≤ a ∧ a ≤ 9223372036854775807 := by
  simp only [Lit.wf, Bool.and_eq_true, decide_eq_true_eq] at h
  exact h
theorem u8_range {a : Int} (h : (Lit.int .u8 a).wf = true) : 0 ≤ a ∧ a ≤ 255 := by
  simp only [Lit.wf, Bool.and_eq_true, decide_eq_true_eq] at h
  exact h
theorem fl_one {α β : Type} (g : α → β) : ∀ l : List α, l.flatMap (fun x => [g x]) = l.map g
  | [] => rfl
  | x :: l => by rw [List.flatMap_cons, fl_one g l]; rfl
theorem fl_get {α : Type} (f : α → List Value) (k : Nat) (hf : ∀ x, (f x).length = k) : ∀ (l : List α) (i r : Nat) (h : i < l.length), r < k → (l.flatMap f)[i * k + r]? = (f l[i])[r]?
  | x :: l, 0, r, _, hr => by
    rw [List.flatMap_cons, Nat.zero_mul, Nat.zero_add, List.getElem?_append_left (by rw [hf]; exact hr)]
    rfl
  | x :: l, i + 1, r, h, hr => by
    rw [List.flatMap_cons, List.getElem?_append_right (by rw [hf]; have : (i + 1) * k = i * k + k := Nat.succ_mul i k; omega), hf, show (i + 1) * k + r - k = i * k + r by have : (i + 1) * k = i * k + k := Nat.succ_mul i k; omega]
    exact fl_get f k hf l i r (by simpa using h) hr
theorem fl_len {α : Type} (f : α → List Value) (k : Nat) (hf : ∀ x, (f x).length = k) : ∀ l : List α, (l.flatMap f).length = l.length * k
  | [] => by simp
  | x :: l => by rw [List.flatMap_cons, List.length_append, hf, fl_len f k hf l, List.length_cons, Nat.succ_mul]; omega

section
variable {H : Type} {enc : TypeId × Value → H} {W : World}
/-- How much is read below a place is in reach. -/
def Reach (t : TypeId) (d : DataW H) : Prop := ∀ n ∈ d.weights Try.prog t, n ≤ reachBytes
theorem mem_weightsAll {e : TypeId} {l : List (DataW H)} {d : DataW H} (hd : d ∈ l) {n : Nat} (hn : n ∈ d.weights Try.prog e) : n ∈ DataW.weightsAll Try.prog e l := by
  induction l with
  | nil => cases hd
  | cons x r ih =>
    simp only [DataW.weightsAll, List.mem_append]
    rcases List.mem_cons.1 hd with rfl | hd
    · exact .inl hn
    · exact .inr (ih hd)
theorem Addr.add_none {b o : Nat} (x y : Nat) : ((⟨b, o, none⟩ : Addr).add x).add y = ⟨b, o + (x + y), none⟩ := by
  unfold Addr.add
  split <;> split <;> simp_all [Nat.add_assoc]
set_option maxRecDepth 20000 in
/-- A slice. -/
theorem open_list {α : Type} (f : α → List Value) (Q : α → Prop) (t e k : Nat) (hk : 0 < k) (ht : Try.prog.underlying t = some (.slice e)) (hc : Try.prog.cellsOf e = k) (hf : ∀ x, (f x).length = k)
    (hel : ∀ (fuel : Nat) (cs : List Value) (x : DataW H × List MemPlace), DataW.trod enc Try.prog W 0 (fun _ => true) true fuel e cs = some x → Reach e x.1 → ∃ y : α, cs = f y ∧ Q y)
    {fuel : Nat} {cs : List Value} {x : DataW H × List MemPlace} (h : DataW.trod enc Try.prog W 0 (fun _ => true) true fuel t cs = some x) (hr : Reach t x.1) :
    ∃ (A : Option Addr) (l : List α) (cap : Nat), cs = [.slice A l.length cap] ∧ Cels W.heap.size W A (l.flatMap f) ∧ (∀ y ∈ l, Q y) ∧ l.length ≤ cap ∧ cap ≤ 9223372036854775807 ∧ (A = none → cap = 0) ∧ l.length * Try.prog.bytesOf e ≤ reachBytes := by
  rcases DataW.trod_slice ht h with ⟨rfl, _⟩ | ⟨a, len, cap, elems, rest, n', rfl, e3, e5, _, hl, hm, hlen, hin, _, _⟩
  · exact ⟨none, [], 0, rfl, Cels.nil _ _, by simp, by simp, by omega, fun _ => rfl, by simp⟩
  · subst e3 e5
    have hw : (elems.length + rest.length) * Try.prog.bytesOf e ≤ reachBytes := hr _ (by simp only [DataW.weights, ht, List.length_map]; simp)
    rw [hc] at hin
    have each : ∀ i, i < len → ∃ y : α, W.cells? 0 (a.add (i * k)) k = some (f y) ∧ Q y := by
      intro i hi
      have h1 := hin i hi
      have hlt : i < elems.length := by omega
      rw [List.getElem?_eq_getElem hlt] at h1
      obtain ⟨cs', h2, h3⟩ := Option.bind_eq_some_iff.1 h1
      obtain ⟨y, rfl, hy⟩ := hel n' cs' _ h3 (fun q hq => hr q (by
        simp only [DataW.weights, ht, List.mem_cons, List.mem_append]
        exact .inr (.inl (mem_weightsAll (List.mem_map.2 ⟨_, List.getElem_mem hlt, rfl⟩) hq))))
      exact ⟨y, h2, hy⟩
    have all : ∀ m, m ≤ len → ∃ els : List α, els.length = m ∧ ∀ i (h : i < els.length), W.cells? 0 (a.add (i * k)) k = some (f els[i]) ∧ Q els[i] := by
      intro m
      induction m with
      | zero => exact fun _ => ⟨[], rfl, fun i h => by simp at h⟩
      | succ m ihm =>
        intro hm
        obtain ⟨els, hl1, hl2⟩ := ihm (by omega)
        obtain ⟨y, hy⟩ := each m (by omega)
        refine ⟨els ++ [y], by simp [hl1], fun i hi => ?_⟩
        by_cases he : i < els.length
        · rw [List.getElem_append_left he]; exact hl2 i he
        · obtain rfl : i = els.length := by simp at hi; omega
          simp only [List.getElem_append_right (Nat.le_refl _), Nat.sub_self, List.getElem_cons_zero]
          rw [hl1]; exact hy
    obtain ⟨els, hl1, hl2⟩ := all len (Nat.le_refl _)
    refine ⟨some a, els, cap, by rw [hl1], fun hne => ?_, fun y hy => ?_, by omega, by unfold maxLen at hm; omega, (fun h => by cases h), ?_⟩
    · have h0 : 0 < els.length := by
        rcases Nat.eq_zero_or_pos els.length with h0 | h0
        · rw [List.length_eq_zero_iff.1 h0] at hne; simp at hne
        · exact h0
      obtain ⟨b, o, sp⟩ := a
      have hsp : sp = none := by
        obtain ⟨_, _, hat⟩ := World.cells?_some (hl2 0 h0).1
        have h1 := hat 0 hk
        rw [List.getElem?_eq_getElem (by rw [hf]; exact hk)] at h1
        simpa [Addr.add] using World.cell?_spot h1
      subst hsp
      have hcell : ∀ i (hi : i < els.length) r, r < k → W.cell? ⟨b, o + (i * k + r), none⟩ = (f els[i])[r]? := fun i hi r hr => by
        obtain ⟨_, _, hat⟩ := World.cells?_some (hl2 i hi).1
        rw [← Addr.add_none]
        exact hat r hr
      have hb : b < W.heap.size := by
        have := hcell 0 h0 0 hk
        rw [List.getElem?_eq_getElem (by rw [hf]; exact hk)] at this
        exact cell_lt this
      refine ⟨b, o, rfl, hb, .inl hb, fun j hj => ?_⟩
      have hj' := hj
      rw [fl_len f k hf] at hj'
      have hdm := Nat.div_add_mod j k
      have hmk : j % k < k := Nat.mod_lt _ hk
      have hi : j / k < els.length := Nat.div_lt_of_lt_mul (by rw [Nat.mul_comm]; exact hj')
      have e1 : j = j / k * k + j % k := by rw [Nat.mul_comm]; exact hdm.symm
      have e2 := hcell (j / k) hi (j % k) hmk
      rw [← fl_get f k hf els (j / k) (j % k) hi hmk, ← e1] at e2
      rw [e2, List.getElem?_eq_getElem hj]
    · obtain ⟨i, hi, rfl⟩ := List.getElem_of_mem hy
      exact (hl2 i hi).2
    · rw [hl1, ← hlen]
      exact Nat.le_trans (Nat.mul_le_mul_right _ (by omega)) hw
theorem Try.cells3 : Try.prog.cellsOf 3 = 1 := by kernel_rfl
theorem Try.cells4 : Try.prog.cellsOf 4 = 1 := by kernel_rfl
theorem Try.cells5 : Try.prog.cellsOf 5 = 1 := by kernel_rfl
theorem Try.cells22 : Try.prog.cellsOf 22 = 1 := by kernel_rfl
theorem Try.cells23 : Try.prog.cellsOf 23 = 1 := by kernel_rfl
theorem Try.cells35 : Try.prog.cellsOf 35 = 1 := by kernel_rfl
theorem Try.cells77 : Try.prog.cellsOf 77 = 2 := by kernel_rfl
theorem Try.bytes5 : Try.prog.bytesOf 5 = 1 := by kernel_rfl
set_option maxRecDepth 20000 in
/-- Bytes. -/
theorem open_sec {fuel : Nat} {cs : List Value} {x : DataW H × List MemPlace} (h : DataW.trod enc Try.prog W 0 (fun _ => true) true fuel 35 cs = some x) (hr : Reach 35 x.1) :
    ∃ s : Sec, cs = [s.v] ∧ s.In W.heap.size W ∧ s.l.length ≤ 140737488355328 := by
  obtain ⟨A, l, cap, rfl, hc, -, hl, hm, hn, hw⟩ := open_list (fun c : UInt8 => [.int .u8 (c.toNat : Nat)]) (fun _ => True) 35 5 1 (by decide) Try.underlying35 Try.cells5 (fun _ => rfl) (fun fuel cs x h _ => by
    obtain ⟨k, rfl, _, w0⟩ := DataW.trod_int Try.underlying5 h
    obtain ⟨h1, h2⟩ := u8_range w0
    refine ⟨UInt8.ofNat k.toNat, ?_, trivial⟩
    simp
    omega) h hr
  refine ⟨⟨A, l, cap⟩, rfl, ⟨?_, hl, hm, hn⟩, by rw [Try.bytes5] at hw; unfold reachBytes at hw; simp only; omega⟩
  have e : l.flatMap (fun c : UInt8 => [Value.int .u8 (c.toNat : Nat)]) = bs l := fl_one _ l
  rw [← e]
  exact hc
set_option maxRecDepth 20000 in
/-- Sectors. -/
theorem open_secs {fuel : Nat} {cs : List Value} {x : DataW H × List MemPlace} (h : DataW.trod enc Try.prog W 0 (fun _ => true) true fuel 22 cs = some x) (hr : Reach 22 x.1) :
    ∃ (A : Option Addr) (l : List Sec) (cap : Nat), cs = [.slice A l.length cap] ∧ SecsIn W.heap.size A l cap W ∧ ∀ s ∈ l, s.l.length ≤ 140737488355328 := by
  obtain ⟨A, l, cap, rfl, hc, hq, hl, hm, hn, -⟩ := open_list (fun s : Sec => [s.v]) (fun s => s.In W.heap.size W ∧ s.l.length ≤ 140737488355328) 22 35 1 (by decide) Try.underlying22 Try.cells35 (fun _ => rfl) (fun fuel cs x h hr => by
    obtain ⟨s, rfl, h1, h2⟩ := open_sec h hr
    exact ⟨s, rfl, h1, h2⟩) h hr
  refine ⟨A, l, cap, rfl, ⟨?_, fun s hs => (hq s hs).1, hl, hm, hn⟩, fun s hs => (hq s hs).2⟩
  have e : l.flatMap (fun s : Sec => [s.v]) = secs l := fl_one _ l
  rw [← e]
  exact hc
set_option maxRecDepth 20000 in
/-- Writes. -/
theorem open_wrs {fuel : Nat} {cs : List Value} {x : DataW H × List MemPlace} (h : DataW.trod enc Try.prog W 0 (fun _ => true) true fuel 23 cs = some x) (hr : Reach 23 x.1) :
    ∃ (A : Option Addr) (l : List Wr) (cap : Nat), cs = [.slice A l.length cap] ∧ WrsIn W.heap.size A l cap W ∧ ∀ p ∈ l, p.s.l.length ≤ 140737488355328 := by
  obtain ⟨A, l, cap, rfl, hc, hq, hl, hm, hn, -⟩ := open_list Wr.cs (fun p => (p.s.In W.heap.size W ∧ -9223372036854775808 ≤ p.pos ∧ p.pos ≤ 9223372036854775807) ∧ p.s.l.length ≤ 140737488355328) 23 77 2 (by decide) Try.underlying23 Try.cells77 (fun _ => rfl) (fun fuel cs x h hr => by
    obtain ⟨xs, n, rfl, rfl, hlen, hxl, hf⟩ := DataW.trod_struct Try.underlying77 h
    rw [Try.cells77] at hlen
    match xs, hxl, cs, hlen with
    | [y0, y1], _, [v0, v1], _ =>
      have g0 := hf 0 _ rfl
      have g1 := hf 1 _ rfl
      simp [Try.cells3, Try.cells35] at g0 g1
      obtain ⟨k, e0, rfl, w0⟩ := DataW.trod_int Try.underlying3 g0
      obtain ⟨s, e1, h1, h2⟩ := open_sec g1 (fun q hq => hr q (by
        simp only [DataW.weights, Try.underlying77, List.map_cons, List.map_nil, DataW.weightsEach, List.mem_append]
        exact .inr (.inl hq)))
      simp only [List.cons.injEq, and_true] at e0 e1
      subst e0 e1
      exact ⟨⟨k, s⟩, rfl, ⟨h1, i64_range w0⟩, h2⟩) h hr
  exact ⟨A, l, cap, rfl, ⟨hc, fun p hp => (hq p hp).1, hl, hm, hn⟩, fun p hp => (hq p hp).2⟩
set_option maxRecDepth 20000 in
/-- An argument of type Disk. -/
theorem open_disk {base : Nat} {v : Value} {d : DataW H} {p : List MemPlace} (hok : Value.okWide Try.prog W .any base 25 v) (h : DataW.Trod enc Try.prog W 0 (fun _ => true) true 25 v d p) (hr : Reach 25 d) :
    ∃ x : Dsk, v = x.v ∧ x.In W.heap.size W ∧ Short x := by
  obtain ⟨v0, v1, v2, v3, y0, y1, y2, y3, n, rfl, rfl, rfl, g0, g1, g2, g3⟩ := open_agg4 Try.underlying25 (by kernel_rfl) (by kernel_rfl) hok h
  obtain ⟨A, l, cap, e0, h0, q0⟩ := open_secs g0 (fun q hq => hr q (by simp only [DataW.weights, Try.underlying25, List.map_cons, List.map_nil, DataW.weightsEach, List.mem_append]; exact .inl hq))
  obtain ⟨A2, l2, cap2, e1, h1, q1⟩ := open_wrs g1 (fun q hq => hr q (by simp only [DataW.weights, Try.underlying25, List.map_cons, List.map_nil, DataW.weightsEach, List.mem_append]; exact .inr (.inl hq)))
  obtain ⟨k, e2, _, w2⟩ := DataW.trod_int Try.underlying3 g2
  obtain ⟨b, e3, _⟩ := DataW.trod_bool Try.underlying4 g3
  simp only [List.cons.injEq, and_true] at e0 e1 e2 e3
  subst e0 e1 e2 e3
  exact ⟨⟨A, l, cap, A2, l2, cap2, k, b⟩, rfl, ⟨h0, h1, i64_range w2⟩, q0, q1⟩
set_option maxRecDepth 20000 in
/-- An argument of type int. -/
theorem open_i64 {base : Nat} {v : Value} {d : DataW H} {p : List MemPlace} (hok : Value.okWide Try.prog W .any base 3 v) (h : DataW.Trod enc Try.prog W 0 (fun _ => true) true 3 v d p) :
    ∃ x : Int, v = .int .i64 x ∧ (-9223372036854775808 ≤ x ∧ x ≤ 9223372036854775807) := by
  obtain ⟨x, rfl, -, -, w0⟩ := open_int Try.underlying3 hok h
  exact ⟨x, rfl, i64_range w0⟩
set_option maxRecDepth 20000 in
/-- An argument of type uint8. -/
theorem open_u8 {base : Nat} {v : Value} {d : DataW H} {p : List MemPlace} (hok : Value.okWide Try.prog W .any base 5 v) (h : DataW.Trod enc Try.prog W 0 (fun _ => true) true 5 v d p) :
    ∃ c : UInt8, v = .int .u8 (c.toNat : Nat) := by
  obtain ⟨x, rfl, -, -, w0⟩ := open_int Try.underlying5 hok h
  obtain ⟨h1, h2⟩ := u8_range w0
  refine ⟨UInt8.ofNat x.toNat, ?_⟩
  simp
  omega
set_option maxRecDepth 20000 in
/-- An argument of type []byte. -/
theorem open_bytes {base : Nat} {v : Value} {d : DataW H} {p : List MemPlace} (hok : Value.okWide Try.prog W .any base 35 v) (h : DataW.Trod enc Try.prog W 0 (fun _ => true) true 35 v d p) (hr : Reach 35 d) :
    ∃ x : Sec, v = x.v ∧ x.In W.heap.size W := by
  obtain ⟨a0, len0, cap0, rfl⟩ := okWide_slice Try.underlying35 hok
  obtain ⟨n, hn⟩ := h
  obtain ⟨s, e, h1, _⟩ := open_sec hn hr
  simp only [Value.cells, List.cons.injEq, and_true] at e
  exact ⟨s, e, h1⟩
end
section
variable {H : Type} {enc : TypeId × Value → H} {P : Program}
set_option maxRecDepth 20000 in
/-- As the guide's own last step, for a world of which only that is known that nothing old has changed. -/
theorem post_of_below {f : Func} {s : ChangeSpec} {apart fresh handsOn again : Bool} {W W' : World} {args : Array Value} {v : Value} {ds gs : List (DataW H)} {before pa pv : List MemPlace}
    (hW : DataW.Whole enc P f.params.toList s.vars apart W args.toList ds gs before)
    (hres : ∀ (b : Nat) (sp : Nat → Bool) (hd : Bool), DataW.TrodAll enc P W' b sp hd f.resultTypes.toList (v.resultList f.resultTypes.size) (s.fn H (ds ++ gs)).results [])
    (hargs : ∀ sp : Nat → Bool, (∀ p ∈ before, sp p.block = true) → DataW.TrodAll enc P W' 0 sp true f.params.toList args.toList (s.fn H (ds ++ gs)).args pa)
    (hvars : ∀ sp : Nat → Bool, (∀ p ∈ before, sp p.block = true) → DataW.TrodVars enc P W' sp s.vars (s.fn H (ds ++ gs)).vars pv)
    (hps : before = pa ++ pv) (hb : Below W.heap.size W W')
    (hok : ∀ (j : Nat) (t : TypeId) (r : Value), f.resultTypes[j]? = some t → (v.resultList f.resultTypes.size)[j]? = some r → Value.okWide P W' .any 0 t r) :
    s.post enc P f apart fresh handsOn again W args v W' := by
  have hlt : ∀ p ∈ before, p.block < W.heap.size := fun p hp => hW.lt p hp
  have hold : ∀ p ∈ before, (fun b => decide (b < W.heap.size)) p.block = true := fun p hp => by simpa using hlt p hp
  refine ⟨ds, gs, before, [], pa, pv, hW, hres _ _ _, hargs _ hold, hvars _ hold, World.keptBut_mono (fun p hp => ⟨hp, ?_⟩) (hb.frame (· ∈ before)), fun _ => ?_⟩
  · rw [hps, List.mem_append] at hp
    exact Or.inr hp
  · obtain ⟨_, _, _, _, _, hz, hn⟩ := hW
    refine ⟨hok, _, _, ([] ++ pa) ++ pv, ⟨[] ++ pa, pv, trodAll_append (hargs _ (fun _ _ => rfl)) (hres _ _ _), hvars _ (fun _ _ => rfl), rfl, ?_, ?_⟩, ?_⟩
    · intro b off hp
      have hin : MemPlace.cell b off ∈ before := by rw [hps]; simpa using hp
      rw [hb.frozen (hlt _ hin)]
      exact hz b off hin
    · intro ha
      have := hn ha
      rw [hps] at this
      simpa using this
    · intro p hp _
      rw [hps]
      simpa using hp
end
theorem Try.kids : Kids Try.prog (· < Try.prog.types.size) := kids_rows (by kernel_rfl) (by kernel_rfl)
theorem Try.full : ∀ t e, t < Try.prog.types.size → Try.prog.underlying t = some (.slice e) → 0 < Try.prog.cellsOf e := slices_full_of Try.prog (by kernel_rfl)

section
variable {H : Type} {enc : TypeId × Value → H}

/-- A reading stays where only what is new has come. -/
theorem trodAll_up {P : Program} {W W' : World} {base : Nat} {sp : Nat → Bool} {hd : Bool} (hB : Below W.heap.size W W') : ∀ {ts : List TypeId} {vs : List Value} {ds : List (DataW H)} {ps : List MemPlace},
    DataW.TrodAll enc P W base sp hd ts vs ds ps → DataW.TrodAll enc P W' base sp hd ts vs ds ps
  | [], [], [], _, h => h
  | _ :: _, _ :: _, _ :: _, _, ⟨p, q, ⟨n, hn⟩, hs, e⟩ => ⟨p, q, ⟨n, DataW.trod_carry n _ _ _ hn (fun p hp => hB.same (DataW.trod_lt n _ _ _ hn p hp))⟩, trodAll_up hB hs, e⟩

set_option maxRecDepth 20000 in
/-- A call that answers true and leaves what was there, its arguments told as they were. -/
theorem post_true {f : Func} {s : ChangeSpec} {apart fresh handsOn again : Bool} {W W' : World} {args : Array Value} {ds : List (DataW H)} {before : List MemPlace}
    (hvars : s.vars = []) (hW : DataW.Whole enc Try.prog f.params.toList s.vars apart W args.toList ds [] before)
    (hAk : DataW.TrodAll enc Try.prog W 0 (fun _ => true) true f.params.toList args.toList ds before)
    (hT : ∀ t ∈ f.params.toList, t < Try.prog.types.size) (hr : f.resultTypes = #[4])
    (hres : (s.fn H ds).results = [.lit (.bool true)]) (harg : (s.fn H ds).args = ds) (hvar : (s.fn H ds).vars = []) (hb : Below W.heap.size W W') :
    s.post enc Try.prog f apart fresh handsOn again W args (.bool true) W' := by
  have hl : (f.resultTypes.size) = 1 := by rw [hr]; rfl
  refine post_of_below (ds := ds) (gs := []) (pa := before) (pv := []) hW (fun b sp hd => ?_) (fun sp hsp => ?_) (fun sp _ => ?_) (by simp) hb ?_
  · rw [hr, List.append_nil, hres]
    exact trodAll_cons_mk (shut_bool Try.underlying4 _) trodAll_mk0
  · rw [List.append_nil, harg]
    exact trodAll_up hb (DataW.TrodAll.respare Try.kids Try.full hT hAk hsp)
  · rw [hvars, List.append_nil, hvar]
    rfl
  · exact ok_one (t := 4) hr rfl (okWide_bool_mk Try.underlying4 _)
end

end Go.Proofs.Ytgigccgklahddaa

/- Arguments, and how much they hold. -/
namespace Go.Proofs.Ytgigccgklahddaa
open Go.RowKit Go.WideShapes Go.ChangeShapes Go.ChangeAt Go.Deep Go.ChangeMaps Go.Joins

section
variable {H : Type} {enc : TypeId × Value → H} {W : World}
theorem bulk_one (d : DataW H) : 1 ≤ Rows.uptoBulk d := by
  cases d with
  | lit l => cases l <;> simp [Rows.uptoBulk]
  | nil => simp [Rows.uptoBulk]
  | ptr d => simp [Rows.uptoBulk]
  | slice elems spare => simp [Rows.uptoBulk]
  | agg parts => simp [Rows.uptoBulk]
  | iface t d => simp [Rows.uptoBulk]
  | map entries => simp [Rows.uptoBulk]
  | held h => simp [Rows.uptoBulk]
theorem bulk_app (l r : List (DataW H)) : Rows.uptoBulkAll (l ++ r) = Rows.uptoBulkAll l + Rows.uptoBulkAll r := by
  induction l with
  | nil => simp [Rows.uptoBulkAll]
  | cons x l ih => simp only [List.cons_append, Rows.uptoBulkAll, ih]; omega
theorem bulk_mem {d : DataW H} {l : List (DataW H)} (h : d ∈ l) : Rows.uptoBulk d ≤ Rows.uptoBulkAll l := by
  induction l with
  | nil => cases h
  | cons x r ih =>
    simp only [Rows.uptoBulkAll]
    rcases List.mem_cons.1 h with rfl | h
    · omega
    · have := ih h; omega
theorem sum_ones {α : Type} : ∀ l : List α, (l.map fun _ => 1).sum = l.length
  | [] => rfl
  | x :: l => by rw [List.map_cons, List.sum_cons, sum_ones l, List.length_cons]; omega
theorem sum_bulk : ∀ l : List Sec, (l.map fun s => 1 + s.l.length).sum = bulkB (secD l)
  | [] => by rw [show secD [] = [] from rfl, bulkB_nil]; rfl
  | x :: l => by
    rw [List.map_cons, List.sum_cons, sum_bulk l, show secD (x :: l) = [x.l] ++ secD l from rfl, bulkB_app, bulkB_one]
set_option maxRecDepth 20000 in
/-- A slice. -/
theorem open_listB {α : Type} (f : α → List Value) (Q : α → Prop) (g : α → Nat) (t e k : Nat) (hk : 0 < k) (ht : Try.prog.underlying t = some (.slice e)) (hc : Try.prog.cellsOf e = k) (hf : ∀ x, (f x).length = k)
    (hel : ∀ (fuel : Nat) (cs : List Value) (x : DataW H × List MemPlace), DataW.trod enc Try.prog W 0 (fun _ => true) true fuel e cs = some x → Reach e x.1 → ∃ y : α, cs = f y ∧ Q y ∧ g y ≤ Rows.uptoBulk x.1)
    {fuel : Nat} {cs : List Value} {x : DataW H × List MemPlace} (h : DataW.trod enc Try.prog W 0 (fun _ => true) true fuel t cs = some x) (hr : Reach t x.1) :
    ∃ (A : Option Addr) (l : List α) (cap : Nat), cs = [.slice A l.length cap] ∧ Cels W.heap.size W A (l.flatMap f) ∧ (∀ y ∈ l, Q y) ∧ l.length ≤ cap ∧ cap ≤ 9223372036854775807 ∧ (A = none → cap = 0) ∧ l.length * Try.prog.bytesOf e ≤ reachBytes ∧ (l.map g).sum + 1 ≤ Rows.uptoBulk x.1 := by
  rcases DataW.trod_slice ht h with ⟨rfl, _⟩ | ⟨a, len, cap, elems, rest, n', rfl, e3, e5, _, hl, hm, hlen, hin, _, _⟩
  · exact ⟨none, [], 0, rfl, Cels.nil _ _, by simp, by simp, by omega, fun _ => rfl, by simp, bulk_one _⟩
  · subst e3 e5
    have hw : (elems.length + rest.length) * Try.prog.bytesOf e ≤ reachBytes := hr _ (by simp only [DataW.weights, ht, List.length_map]; simp)
    rw [hc] at hin
    have each : ∀ i, i < len → ∃ y : α, W.cells? 0 (a.add (i * k)) k = some (f y) ∧ Q y ∧ g y ≤ Rows.uptoBulk ((elems.map (·.1)).getD i .nil) := by
      intro i hi
      have h1 := hin i hi
      have hlt : i < elems.length := by omega
      rw [List.getElem?_eq_getElem hlt] at h1
      obtain ⟨cs', h2, h3⟩ := Option.bind_eq_some_iff.1 h1
      obtain ⟨y, rfl, hy, hgy⟩ := hel n' cs' _ h3 (fun q hq => hr q (by
        simp only [DataW.weights, ht, List.mem_cons, List.mem_append]
        exact .inr (.inl (mem_weightsAll (List.mem_map.2 ⟨_, List.getElem_mem hlt, rfl⟩) hq))))
      exact ⟨y, h2, hy, by rw [List.getD_eq_getElem?_getD, List.getElem?_map, List.getElem?_eq_getElem hlt]; exact hgy⟩
    have all : ∀ m, m ≤ len → ∃ els : List α, els.length = m ∧ (∀ i (h : i < els.length), (W.cells? 0 (a.add (i * k)) k = some (f els[i]) ∧ Q els[i])) ∧ (els.map g).sum ≤ Rows.uptoBulkAll ((elems.map (·.1)).take m) := by
      intro m
      induction m with
      | zero => exact fun _ => ⟨[], rfl, fun i h => by simp at h, Nat.zero_le _⟩
      | succ m ihm =>
        intro hm
        obtain ⟨els, hl1, hl2, hl3⟩ := ihm (by omega)
        obtain ⟨y, hy1, hy2, hy3⟩ := each m (by omega)
        have hy := And.intro hy1 hy2
        have hml : m < (elems.map (·.1)).length := by rw [List.length_map]; omega
        refine ⟨els ++ [y], by simp [hl1], fun i hi => ?_, ?_⟩
        rotate_left
        · rw [List.take_succ_eq_append_getElem hml, bulk_app, List.map_append, List.sum_append]
          rw [List.getD_eq_getElem?_getD, List.getElem?_eq_getElem hml] at hy3
          simp only [Option.getD_some] at hy3
          simp only [List.map_cons, List.map_nil, List.sum_cons, List.sum_nil, Rows.uptoBulkAll]
          omega
        by_cases he : i < els.length
        · rw [List.getElem_append_left he]; exact hl2 i he
        · obtain rfl : i = els.length := by simp at hi; omega
          simp only [List.getElem_append_right (Nat.le_refl _), Nat.sub_self, List.getElem_cons_zero]
          rw [hl1]; exact hy
    obtain ⟨els, hl1, hl2, hl3⟩ := all len (Nat.le_refl _)
    refine ⟨some a, els, cap, by rw [hl1], fun hne => ?_, fun y hy => ?_, by omega, by unfold maxLen at hm; omega, (fun h => by cases h), ?_, ?_⟩
    · have h0 : 0 < els.length := by
        rcases Nat.eq_zero_or_pos els.length with h0 | h0
        · rw [List.length_eq_zero_iff.1 h0] at hne; simp at hne
        · exact h0
      obtain ⟨b, o, sp⟩ := a
      have hsp : sp = none := by
        obtain ⟨_, _, hat⟩ := World.cells?_some (hl2 0 h0).1
        have h1 := hat 0 hk
        rw [List.getElem?_eq_getElem (by rw [hf]; exact hk)] at h1
        simpa [Addr.add] using World.cell?_spot h1
      subst hsp
      have hcell : ∀ i (hi : i < els.length) r, r < k → W.cell? ⟨b, o + (i * k + r), none⟩ = (f els[i])[r]? := fun i hi r hr => by
        obtain ⟨_, _, hat⟩ := World.cells?_some (hl2 i hi).1
        rw [← Addr.add_none]
        exact hat r hr
      have hb : b < W.heap.size := by
        have := hcell 0 h0 0 hk
        rw [List.getElem?_eq_getElem (by rw [hf]; exact hk)] at this
        exact cell_lt this
      refine ⟨b, o, rfl, hb, .inl hb, fun j hj => ?_⟩
      have hj' := hj
      rw [fl_len f k hf] at hj'
      have hdm := Nat.div_add_mod j k
      have hmk : j % k < k := Nat.mod_lt _ hk
      have hi : j / k < els.length := Nat.div_lt_of_lt_mul (by rw [Nat.mul_comm]; exact hj')
      have e1 : j = j / k * k + j % k := by rw [Nat.mul_comm]; exact hdm.symm
      have e2 := hcell (j / k) hi (j % k) hmk
      rw [← fl_get f k hf els (j / k) (j % k) hi hmk, ← e1] at e2
      rw [e2, List.getElem?_eq_getElem hj]
    · obtain ⟨i, hi, rfl⟩ := List.getElem_of_mem hy
      exact (hl2 i hi).2
    · rw [hl1, ← hlen]
      exact Nat.le_trans (Nat.mul_le_mul_right _ (by omega)) hw
    · rw [List.take_of_length_le (by rw [List.length_map]; omega)] at hl3
      simp only [Rows.uptoBulk]
      omega
set_option maxRecDepth 20000 in
/-- Bytes. -/
theorem open_secB {fuel : Nat} {cs : List Value} {x : DataW H × List MemPlace} (h : DataW.trod enc Try.prog W 0 (fun _ => true) true fuel 35 cs = some x) (hr : Reach 35 x.1) :
    ∃ s : Sec, cs = [s.v] ∧ s.In W.heap.size W ∧ s.l.length ≤ 140737488355328 ∧ 1 + s.l.length ≤ Rows.uptoBulk x.1 := by
  obtain ⟨A, l, cap, rfl, hc, -, hl, hm, hn, hw, hs⟩ := open_listB (fun c : UInt8 => [.int .u8 (c.toNat : Nat)]) (fun _ => True) (fun _ => 1) 35 5 1 (by decide) Try.underlying35 Try.cells5 (fun _ => rfl) (fun fuel cs x h _ => by
    obtain ⟨k, rfl, _, w0⟩ := DataW.trod_int Try.underlying5 h
    obtain ⟨h1, h2⟩ := u8_range w0
    refine ⟨UInt8.ofNat k.toNat, ?_, trivial, bulk_one _⟩
    simp
    omega) h hr
  rw [sum_ones] at hs
  refine ⟨⟨A, l, cap⟩, rfl, ⟨?_, hl, hm, hn⟩, by rw [Try.bytes5] at hw; unfold reachBytes at hw; simp only; omega, by simp only; omega⟩
  have e : l.flatMap (fun c : UInt8 => [Value.int .u8 (c.toNat : Nat)]) = bs l := fl_one _ l
  rw [← e]
  exact hc
set_option maxRecDepth 20000 in
/-- A list of byte slices. -/
theorem open_secsB {fuel : Nat} {cs : List Value} {x : DataW H × List MemPlace} (h : DataW.trod enc Try.prog W 0 (fun _ => true) true fuel 22 cs = some x) (hr : Reach 22 x.1) :
    ∃ (A : Option Addr) (l : List Sec) (cap : Nat), cs = [.slice A l.length cap] ∧ SecsIn W.heap.size A l cap W ∧ (∀ s ∈ l, s.l.length ≤ 140737488355328) ∧ bulkB (secD l) + 1 ≤ Rows.uptoBulk x.1 := by
  obtain ⟨A, l, cap, rfl, hc, hq, hl, hm, hn, -, hs⟩ := open_listB (fun s : Sec => [s.v]) (fun s => s.In W.heap.size W ∧ s.l.length ≤ 140737488355328) (fun s => 1 + s.l.length) 22 35 1 (by decide) Try.underlying22 Try.cells35 (fun _ => rfl) (fun fuel cs x h hr => by
    obtain ⟨s, rfl, h1, h2, h3⟩ := open_secB h hr
    exact ⟨s, rfl, ⟨h1, h2⟩, h3⟩) h hr
  rw [sum_bulk] at hs
  refine ⟨A, l, cap, rfl, ⟨?_, fun s hs => (hq s hs).1, hl, hm, hn⟩, fun s hs => (hq s hs).2, hs⟩
  have e : l.flatMap (fun s : Sec => [s.v]) = secs l := fl_one _ l
  rw [← e]
  exact hc
end
/-- A journal that came in. -/
structure Jr.Came (j : Jr) (W : World) : Prop where
  recs : SecsIn W.heap.size j.A j.rs j.cap W
  many : -9223372036854775808 ≤ j.many ∧ j.many ≤ 9223372036854775807
  synced : -9223372036854775808 ≤ j.synced ∧ j.synced ≤ 9223372036854775807
  short : ∀ s ∈ j.rs, s.l.length ≤ 140737488355328
  bulk : bulkB (secD j.rs) ≤ 1048576
theorem Jr.Came.in {j : Jr} {W : World} (h : j.Came W) (hb : bulkB (secD j.rs) ≤ 4000) : j.In W.heap.size W :=
  ⟨h.recs, h.many, h.synced, h.short, by have := bulkB_len (secD j.rs); rw [secD_len] at this; omega⟩
section
variable {H : Type} {enc : TypeId × Value → H} {W : World}
set_option maxRecDepth 20000 in
/-- An argument of type []byte. -/
theorem open_bytesB {base : Nat} {v : Value} {d : DataW H} {p : List MemPlace} (hok : Value.okWide Try.prog W .any base 35 v) (h : DataW.Trod enc Try.prog W 0 (fun _ => true) true 35 v d p) (hr : Reach 35 d) (hk : Rows.uptoBulk d ≤ 1048576) :
    ∃ x : Sec, v = x.v ∧ x.In W.heap.size W ∧ x.l.length ≤ 1048576 := by
  obtain ⟨a0, len0, cap0, rfl⟩ := okWide_slice Try.underlying35 hok
  obtain ⟨n, hn⟩ := h
  obtain ⟨s, e, h1, _, h2⟩ := open_secB hn hr
  simp only [Value.cells, List.cons.injEq, and_true] at e
  exact ⟨s, e, h1, by simp only at h2; omega⟩
set_option maxRecDepth 20000 in
/-- An argument of type [][]byte. -/
theorem open_recsB {base : Nat} {v : Value} {d : DataW H} {p : List MemPlace} (hok : Value.okWide Try.prog W .any base 22 v) (h : DataW.Trod enc Try.prog W 0 (fun _ => true) true 22 v d p) (hr : Reach 22 d) (hk : Rows.uptoBulk d ≤ 1048576) :
    ∃ (A : Option Addr) (l : List Sec) (cap : Nat), v = .slice A l.length cap ∧ SecsIn W.heap.size A l cap W ∧ (∀ s ∈ l, s.l.length ≤ 140737488355328) ∧ bulkB (secD l) ≤ 1048576 := by
  obtain ⟨a0, len0, cap0, rfl⟩ := okWide_slice Try.underlying22 hok
  obtain ⟨n, hn⟩ := h
  obtain ⟨A, l, cap, e, h1, h2, h3⟩ := open_secsB hn hr
  simp only [Value.cells, List.cons.injEq, and_true] at e
  exact ⟨A, l, cap, e, h1, h2, by simp only at h3; omega⟩
set_option maxRecDepth 20000 in
/-- An argument of type Journal. -/
theorem open_journalB {base : Nat} {v : Value} {d : DataW H} {p : List MemPlace} (hok : Value.okWide Try.prog W .any base 29 v) (h : DataW.Trod enc Try.prog W 0 (fun _ => true) true 29 v d p) (hr : Reach 29 d) (hk : Rows.uptoBulk d ≤ 1048576) :
    ∃ x : Jr, v = x.v ∧ x.Came W := by
  obtain ⟨v0, v1, v2, y0, y1, y2, n, rfl, rfl, rfl, g0, g1, g2⟩ := open_agg3 Try.underlying29 (by kernel_rfl) (by kernel_rfl) hok h
  simp only [Rows.uptoBulk, Rows.uptoBulkAll] at hk
  obtain ⟨A, l, cap, e0, h0, q0, u0⟩ := open_secsB g0 (fun q hq => hr q (by simp only [DataW.weights, Try.underlying29, List.map_cons, List.map_nil, DataW.weightsEach, List.mem_append]; exact .inl hq))
  obtain ⟨k, e1, _, w1⟩ := DataW.trod_int Try.underlying3 g1
  obtain ⟨k2, e2, _, w2⟩ := DataW.trod_int Try.underlying3 g2
  simp only [List.cons.injEq, and_true] at e0 e1 e2
  subst e0 e1 e2
  exact ⟨⟨A, l, cap, k, k2⟩, rfl, h0, i64_range w1, i64_range w2, q0, by simp only at u0 ⊢; omega⟩
end
end Go.Proofs.Ytgigccgklahddaa
