/- Arguments that are links. -/
import Derived.Test.YtalgceplcahgbaaDoorRfs
import Derived.Test.YtalgceplcahgbaaDoorSan
import Derived.ChangeMaps5
import Derived.Lib.SmallJoins
namespace Go.Proofs.YtalgceplcahgbaaDoor
open Go.RowKit Go.WideShapes Go.ChangeShapes Go.ChangeAt Go.Deep Go.ChangeMaps Go.Joins
theorem u8_range {a : Int} (h : (Lit.int .u8 a).wf = true) : 0 ≤ a ∧ a ≤ 255 := by
  simp only [Lit.wf, Bool.and_eq_true, decide_eq_true_eq] at h
  exact h
theorem flat_get {α : Type} (f : α → List Value) (k : Nat) (hf : ∀ x, (f x).length = k) : ∀ (l : List α) (i r : Nat) (h : i < l.length), r < k → (l.flatMap f)[i * k + r]? = (f l[i])[r]?
  | x :: l, 0, r, _, hr => by
    rw [List.flatMap_cons, Nat.zero_mul, Nat.zero_add, List.getElem?_append_left (by rw [hf]; exact hr)]
    rfl
  | x :: l, i + 1, r, h, hr => by
    rw [List.flatMap_cons, List.getElem?_append_right (by rw [hf]; have : (i + 1) * k = i * k + k := Nat.succ_mul i k; omega), hf, show (i + 1) * k + r - k = i * k + r by have : (i + 1) * k = i * k + k := Nat.succ_mul i k; omega]
    exact flat_get f k hf l i r (by simpa using h) hr
theorem flat_len {α : Type} (f : α → List Value) (k : Nat) (hf : ∀ x, (f x).length = k) : ∀ l : List α, (l.flatMap f).length = l.length * k
  | [] => by simp
  | x :: l => by rw [List.flatMap_cons, List.length_append, hf, flat_len f k hf l, List.length_cons, Nat.succ_mul]; omega
theorem Addr.add_none {b o : Nat} (x y : Nat) : ((⟨b, o, none⟩ : Addr).add x).add y = ⟨b, o + (x + y), none⟩ := by
  unfold Addr.add
  split <;> split <;> simp_all [Nat.add_assoc]
/-- Cells that a slice names. -/
def Cels (W : World) (A : Option Addr) (vs : List Value) : Prop := vs ≠ [] → ∃ b o, A = some ⟨b, o, none⟩ ∧ b < W.heap.size ∧ ∀ j v, vs[j]? = some v → W.cell? ⟨b, o + j, none⟩ = some v
section
variable {H : Type} {enc : TypeId × Value → H} {W : World}
/-- A slice. -/
theorem open_list {α : Type} (f : α → List Value) (Q : α → Prop) (t e k : Nat) (hk : 0 < k) (ht : Tryd.prog.underlying t = some (.slice e)) (hc : Tryd.prog.cellsOf e = k) (hf : ∀ x, (f x).length = k)
    (hel : ∀ (fuel : Nat) (cs : List Value) (x : DataW H × List MemPlace), DataW.trod enc Tryd.prog W 0 (fun _ => true) true fuel e cs = some x → ∃ y : α, cs = f y ∧ Q y)
    {fuel : Nat} {cs : List Value} {x : DataW H × List MemPlace} (h : DataW.trod enc Tryd.prog W 0 (fun _ => true) true fuel t cs = some x) :
    ∃ (A : Option Addr) (l : List α) (cap : Nat), cs = [.slice A l.length cap] ∧ Cels W A (l.flatMap f) ∧ (∀ y ∈ l, Q y) ∧ l.length ≤ cap ∧ cap ≤ 9223372036854775807 ∧ (A = none → cap = 0) := by
  rcases DataW.trod_slice ht h with ⟨rfl, _⟩ | ⟨a, len, cap, elems, rest, n', rfl, e3, e5, _, hl, hm, hlen, hin, _, _⟩
  · exact ⟨none, [], 0, rfl, fun h => absurd rfl h, by simp, by simp, by omega, fun _ => rfl⟩
  · subst e3 e5
    rw [hc] at hin
    have each : ∀ i, i < len → ∃ y : α, W.cells? 0 (a.add (i * k)) k = some (f y) ∧ Q y := by
      intro i hi
      have h1 := hin i hi
      have hlt : i < elems.length := by omega
      rw [List.getElem?_eq_getElem hlt] at h1
      obtain ⟨cs', h2, h3⟩ := Option.bind_eq_some_iff.1 h1
      obtain ⟨y, rfl, hy⟩ := hel n' cs' _ h3
      exact ⟨y, h2, hy⟩
    have all : ∀ m, m ≤ len → ∃ els : List α, els.length = m ∧ ∀ i (h : i < els.length), W.cells? 0 (a.add (i * k)) k = some (f els[i]) ∧ Q els[i] := by
      intro m
      induction m with
      | zero => exact fun _ => ⟨[], rfl, fun i h => by simp at h⟩
      | succ m ihm =>
        intro hm
        obtain ⟨els, hl1, hl2⟩ := ihm (by omega)
        obtain ⟨y, hy⟩ := each m (by omega)
        refine ⟨els ++ [y], by simp [hl1], fun i hi => ?_⟩
        by_cases he : i < els.length
        · rw [List.getElem_append_left he]; exact hl2 i he
        · obtain rfl : i = els.length := by simp at hi; omega
          simp only [List.getElem_append_right (Nat.le_refl _), Nat.sub_self, List.getElem_cons_zero]
          rw [hl1]; exact hy
    obtain ⟨els, hl1, hl2⟩ := all len (Nat.le_refl _)
    refine ⟨some a, els, cap, by rw [hl1], fun hne => ?_, fun y hy => ?_, by omega, by unfold maxLen at hm; omega, fun h => by cases h⟩
    · have h0 : 0 < els.length := by
        rcases Nat.eq_zero_or_pos els.length with h0 | h0
        · rw [List.length_eq_zero_iff.1 h0] at hne; simp at hne
        · exact h0
      obtain ⟨b, o, sp⟩ := a
      have hsp : sp = none := by
        obtain ⟨_, _, hat⟩ := World.cells?_some (hl2 0 h0).1
        have h1 := hat 0 hk
        rw [List.getElem?_eq_getElem (by rw [hf]; exact hk)] at h1
        simpa [Addr.add] using World.cell?_spot h1
      subst hsp
      have hcell : ∀ i (hi : i < els.length) r, r < k → W.cell? ⟨b, o + (i * k + r), none⟩ = (f els[i])[r]? := fun i hi r hr => by
        obtain ⟨_, _, hat⟩ := World.cells?_some (hl2 i hi).1
        rw [← Addr.add_none]
        exact hat r hr
      have hb : b < W.heap.size := by
        have := hcell 0 h0 0 hk
        rw [List.getElem?_eq_getElem (by rw [hf]; exact hk)] at this
        exact cell_lt this
      refine ⟨b, o, rfl, hb, fun j v hv => ?_⟩
      have hj : j < (els.flatMap f).length := (List.getElem?_eq_some_iff.1 hv).1
      have hj' := hj
      rw [flat_len f k hf] at hj'
      have hdm := Nat.div_add_mod j k
      have hmk : j % k < k := Nat.mod_lt _ hk
      have hi : j / k < els.length := Nat.div_lt_of_lt_mul (by rw [Nat.mul_comm]; exact hj')
      have e1 : j = j / k * k + j % k := by rw [Nat.mul_comm]; exact hdm.symm
      have e2 := hcell (j / k) hi (j % k) hmk
      rw [← flat_get f k hf els (j / k) (j % k) hi hmk, ← e1] at e2
      rw [e2, hv]
    · obtain ⟨i, hi, rfl⟩ := List.getElem_of_mem hy
      exact (hl2 i hi).2
theorem Tryd.cells22 : Tryd.prog.cellsOf 22 = 1 := by kernel_rfl
theorem flat_bytes (l : List UInt8) : l.flatMap (fun c : UInt8 => [Value.int .u8 (c.toNat : Nat)]) = bc l := by
  induction l with
  | nil => rfl
  | cons c l ih => rw [List.flatMap_cons, ih]; rfl
/-- Bytes. -/
theorem open_data {fuel : Nat} {cs : List Value} {x : DataW H × List MemPlace} (h : DataW.trod enc Tryd.prog W 0 (fun _ => true) true fuel 22 cs = some x) :
    ∃ (A : Option Addr) (l : List UInt8) (cap : Nat), cs = [.slice A l.length cap] ∧ Src W A l.length cap l ∧ l.length ≤ cap ∧ cap ≤ 9223372036854775807 := by
  obtain ⟨A, l, cap, rfl, hc, -, hl, hm, hn⟩ := open_list (fun c : UInt8 => [.int .u8 (c.toNat : Nat)]) (fun _ => True) 22 5 1 (by decide) Tryd.underlying22 Tryd.cells5 (fun _ => rfl) (fun fuel cs x h => by
    obtain ⟨k, rfl, _, w0⟩ := DataW.trod_int Tryd.underlying5 h
    obtain ⟨h1, h2⟩ := u8_range w0
    refine ⟨UInt8.ofNat k.toNat, ?_, trivial⟩
    have e : ((UInt8.ofNat k.toNat).toNat : Int) = k := by simp; omega
    rw [e]) h
  refine ⟨A, l, cap, rfl, ⟨rfl, fun hne => ?_, hn⟩, hl, hm⟩
  rw [flat_bytes] at hc
  obtain ⟨b, o, e, _, hcc⟩ := hc (by intro h; exact hne (List.length_eq_zero_iff.1 (by rw [← bc_len, h]; rfl)))
  exact ⟨b, o, e, fun i hi => hcc i _ (bc_get hi)⟩
/-- A digest's cells. -/
theorem open_dig {fuel : Nat} {cs : List Value} {x : DataW H × List MemPlace} (h : DataW.trod enc Tryd.prog W 0 (fun _ => true) true fuel 26 cs = some x) : ∃ y : { d : List UInt8 // d.length = 32 }, cs = bc y.1 ∧ True := by
  obtain ⟨xs, m1, rfl, _, hlen, hn3, hel⟩ := DataW.trod_array Tryd.underlying26 h
  rw [Tryd.cells26] at hlen
  have each : ∀ i, i < 32 → ∃ c : UInt8, cs[i]? = some (.int .u8 (c.toNat : Nat)) := by
    intro i hi
    have hi2 : i < xs.length := by omega
    have h0 := hel i hi
    rw [Tryd.cells5, Nat.mul_one, List.getElem?_eq_getElem hi2] at h0
    obtain ⟨k, e1, _, w0⟩ := DataW.trod_int Tryd.underlying5 h0
    have hw := u8_range w0
    refine ⟨UInt8.ofNat k.toNat, ?_⟩
    have := congrArg (·[0]?) e1
    have e2 : cs[i]? = some (.int .u8 k) := by simpa using this
    rw [e2]
    simp
    omega
  refine ⟨⟨(List.range 32).map fun i => byteIn cs[i]?, by simp⟩, ?_, trivial⟩
  apply List.ext_getElem?
  intro i
  by_cases hi : i < 32
  · obtain ⟨c, hc⟩ := each i hi
    rw [hc, bc_get (by simpa using hi), List.getElem_map, List.getElem_range, hc]
    simp [byteIn]
  · rw [List.getElem?_eq_none (by omega), List.getElem?_eq_none (by rw [bc_len]; simp; omega)]

set_option maxRecDepth 20000 in
theorem Tryd.cells60 : Tryd.prog.cellsOf 60 = 35 := by kernel_rfl
set_option maxRecDepth 20000 in
theorem Tryd.cells3 : Tryd.prog.cellsOf 3 = 1 := by kernel_rfl
set_option maxRecDepth 20000 in
/-- A link. -/
theorem open_link {fuel : Nat} {cs : List Value} {x : DataW H × List MemPlace} (h : DataW.trod enc Tryd.prog W 0 (fun _ => true) true fuel 60 cs = some x) : ∃ y : { r : Lr // r.x.prev.length = 32 }, cs = y.1.cs ∧ y.1.In W := by
  obtain ⟨xs, n, rfl, rfl, hlen, hxl, hf⟩ := DataW.trod_struct Tryd.underlying60 h
  rw [Tryd.cells60] at hlen
  match xs, hxl with
  | [y0, y1, y2, y3], _ =>
    have g0 := hf 0 _ rfl
    have g1 := hf 1 _ rfl
    have g2 := hf 2 _ rfl
    have g3 := hf 3 _ rfl
    simp [Tryd.cells3, Tryd.cells26, Tryd.cells22] at g0 g1 g2 g3
    obtain ⟨k0, e0, _, w0⟩ := DataW.trod_int Tryd.underlying3 g0
    obtain ⟨k1, e1, _, w1⟩ := DataW.trod_int Tryd.underlying3 g1
    obtain ⟨y, e2, _⟩ := open_dig g2
    obtain ⟨A, l, cap, e3, hs, hl, hm⟩ := open_data g3
    refine ⟨⟨⟨⟨k0, k1, y.1, l⟩, A, cap⟩, y.2⟩, ?_, ⟨y.2, i64_range w0, i64_range w1, hs, hl, hm⟩⟩
    clear g0 g1 g2 g3 hf h
    match cs, hlen with
    | a :: b :: rest, hlen =>
      simp only [List.length_cons] at hlen
      have e0' : a = .int .i64 k0 := by simpa using e0
      have e1' : b = .int .i64 k1 := by simpa using e1
      have e2' : rest.take 32 = bc y.1 := by simpa using e2
      have e3' : (rest.drop 32).take 1 = [.slice A l.length cap] := by simpa using e3
      have e4 : rest.drop 32 = [.slice A l.length cap] := by rwa [List.take_of_length_le (by rw [List.length_drop]; omega)] at e3'
      rw [e0', e1', ← List.take_append_drop 32 rest, e2', e4]
      rfl
theorem flat_links (l : List { r : Lr // r.x.prev.length = 32 }) : l.flatMap (fun y : { r : Lr // r.x.prev.length = 32 } => y.1.cs) = lcs (l.map (·.1)) := by
  induction l with
  | nil => rfl
  | cons c l ih => rw [List.flatMap_cons, ih, List.map_cons, lcs_cons]
set_option maxRecDepth 20000 in
/-- An argument of type []api.Link. -/
theorem open_links {v : Value} {d : DataW H} {ps : List MemPlace} {base : Nat} (hok : Value.okWide Tryd.prog W .any base 49 v) (h : DataW.Trod enc Tryd.prog W 0 (fun _ => true) true 49 v d ps) :
    ∃ (A : Option Addr) (l : List Lr) (cap : Nat), v = .slice A l.length cap ∧ Lks W A l ∧ l.length ≤ cap ∧ cap ≤ 9223372036854775807 ∧ (A = none → cap = 0) := by
  obtain ⟨a0, len0, cap0, rfl⟩ := okWide_slice Tryd.underlying49 hok
  obtain ⟨n, hn⟩ := h
  obtain ⟨A, l, cap, e, hc, hq, hl, hm, hnn⟩ := open_list (fun y : { r : Lr // r.x.prev.length = 32 } => y.1.cs) (fun y => y.1.In W) 49 60 35 (by decide) Tryd.underlying49 Tryd.cells60 (fun y => by simp [Lr.cs, bc_len, y.2]) (fun fuel cs x h => open_link h) hn
  simp only [Value.cells, List.cons.injEq, Value.slice.injEq, and_true] at e
  obtain ⟨rfl, rfl, rfl⟩ := e
  have hp : ∀ r ∈ l.map (·.1), r.x.prev.length = 32 := fun r hr => by
    obtain ⟨y, _, rfl⟩ := List.mem_map.1 hr
    exact y.2
  refine ⟨a0, l.map (·.1), cap0, by simp, ⟨fun hne => ?_, fun r hr => ?_⟩, by simpa using hl, hm, hnn⟩
  · rw [flat_links] at hc
    obtain ⟨b, o, e, hlt, hcc⟩ := hc (by
      intro h
      have := congrArg List.length h
      rw [lcs_len hp] at this
      simp only [List.length_map, List.length_nil] at this
      exact hne (List.eq_nil_of_length_eq_zero (by rw [List.length_map]; omega)))
    exact ⟨b, o, e, hlt, range_lcs hp hcc⟩
  · obtain ⟨y, hy, rfl⟩ := List.mem_map.1 hr
    exact hq y hy
end
end Go.Proofs.YtalgceplcahgbaaDoor
