/- Arguments, and how much they hold. -/
import Derived.Test.YtgigccgklahddaaOpn
import Derived.Test.YtgigccgklahddaaJfw
import Derived.JoinedCond
namespace Go.Proofs.Ytgigccgklahddaa
open Go.RowKit Go.WideShapes Go.ChangeShapes Go.ChangeAt Go.Deep Go.ChangeMaps Go.Joins

section
variable {H : Type} {enc : TypeId × Value → H} {W : World}
theorem bulk_one (d : DataW H) : 1 ≤ Rows.uptoBulk d := by
  cases d with
  | lit l => cases l <;> simp [Rows.uptoBulk]
  | nil => simp [Rows.uptoBulk]
  | ptr d => simp [Rows.uptoBulk]
  | slice elems spare => simp [Rows.uptoBulk]
  | agg parts => simp [Rows.uptoBulk]
  | iface t d => simp [Rows.uptoBulk]
  | map entries => simp [Rows.uptoBulk]
  | held h => simp [Rows.uptoBulk]
theorem bulk_app (l r : List (DataW H)) : Rows.uptoBulkAll (l ++ r) = Rows.uptoBulkAll l + Rows.uptoBulkAll r := by
  induction l with
  | nil => simp [Rows.uptoBulkAll]
  | cons x l ih => simp only [List.cons_append, Rows.uptoBulkAll, ih]; omega
theorem bulk_mem {d : DataW H} {l : List (DataW H)} (h : d ∈ l) : Rows.uptoBulk d ≤ Rows.uptoBulkAll l := by
  induction l with
  | nil => cases h
  | cons x r ih =>
    simp only [Rows.uptoBulkAll]
    rcases List.mem_cons.1 h with rfl | h
    · omega
    · have := ih h; omega
theorem sum_ones {α : Type} : ∀ l : List α, (l.map fun _ => 1).sum = l.length
  | [] => rfl
  | x :: l => by rw [List.map_cons, List.sum_cons, sum_ones l, List.length_cons]; omega
theorem sum_bulk : ∀ l : List Sec, (l.map fun s => 1 + s.l.length).sum = bulkB (secD l)
  | [] => by rw [show secD [] = [] from rfl, bulkB_nil]; rfl
  | x :: l => by
    rw [List.map_cons, List.sum_cons, sum_bulk l, show secD (x :: l) = [x.l] ++ secD l from rfl, bulkB_app, bulkB_one]
set_option maxRecDepth 20000 in
/-- A slice. -/
theorem open_listB {α : Type} (f : α → List Value) (Q : α → Prop) (g : α → Nat) (t e k : Nat) (hk : 0 < k) (ht : Try.prog.underlying t = some (.slice e)) (hc : Try.prog.cellsOf e = k) (hf : ∀ x, (f x).length = k)
    (hel : ∀ (fuel : Nat) (cs : List Value) (x : DataW H × List MemPlace), DataW.trod enc Try.prog W 0 (fun _ => true) true fuel e cs = some x → Reach e x.1 → ∃ y : α, cs = f y ∧ Q y ∧ g y ≤ Rows.uptoBulk x.1)
    {fuel : Nat} {cs : List Value} {x : DataW H × List MemPlace} (h : DataW.trod enc Try.prog W 0 (fun _ => true) true fuel t cs = some x) (hr : Reach t x.1) :
    ∃ (A : Option Addr) (l : List α) (cap : Nat), cs = [.slice A l.length cap] ∧ Cels W.heap.size W A (l.flatMap f) ∧ (∀ y ∈ l, Q y) ∧ l.length ≤ cap ∧ cap ≤ 9223372036854775807 ∧ (A = none → cap = 0) ∧ l.length * Try.prog.bytesOf e ≤ reachBytes ∧ (l.map g).sum + 1 ≤ Rows.uptoBulk x.1 := by
  rcases DataW.trod_slice ht h with ⟨rfl, _⟩ | ⟨a, len, cap, elems, rest, n', rfl, e3, e5, _, hl, hm, hlen, hin, _, _⟩
  · exact ⟨none, [], 0, rfl, Cels.nil _ _, by simp, by simp, by omega, fun _ => rfl, by simp, bulk_one _⟩
  · subst e3 e5
    have hw : (elems.length + rest.length) * Try.prog.bytesOf e ≤ reachBytes := hr _ (by simp only [DataW.weights, ht, List.length_map]; simp)
    rw [hc] at hin
    have each : ∀ i, i < len → ∃ y : α, W.cells? 0 (a.add (i * k)) k = some (f y) ∧ Q y ∧ g y ≤ Rows.uptoBulk ((elems.map (·.1)).getD i .nil) := by
      intro i hi
      have h1 := hin i hi
      have hlt : i < elems.length := by omega
      rw [List.getElem?_eq_getElem hlt] at h1
      obtain ⟨cs', h2, h3⟩ := Option.bind_eq_some_iff.1 h1
      obtain ⟨y, rfl, hy, hgy⟩ := hel n' cs' _ h3 (fun q hq => hr q (by
        simp only [DataW.weights, ht, List.mem_cons, List.mem_append]
        exact .inr (.inl (mem_weightsAll (List.mem_map.2 ⟨_, List.getElem_mem hlt, rfl⟩) hq))))
      exact ⟨y, h2, hy, by rw [List.getD_eq_getElem?_getD, List.getElem?_map, List.getElem?_eq_getElem hlt]; exact hgy⟩
    have all : ∀ m, m ≤ len → ∃ els : List α, els.length = m ∧ (∀ i (h : i < els.length), (W.cells? 0 (a.add (i * k)) k = some (f els[i]) ∧ Q els[i])) ∧ (els.map g).sum ≤ Rows.uptoBulkAll ((elems.map (·.1)).take m) := by
      intro m
      induction m with
      | zero => exact fun _ => ⟨[], rfl, fun i h => by simp at h, Nat.zero_le _⟩
      | succ m ihm =>
        intro hm
        obtain ⟨els, hl1, hl2, hl3⟩ := ihm (by omega)
        obtain ⟨y, hy1, hy2, hy3⟩ := each m (by omega)
        have hy := And.intro hy1 hy2
        have hml : m < (elems.map (·.1)).length := by rw [List.length_map]; omega
        refine ⟨els ++ [y], by simp [hl1], fun i hi => ?_, ?_⟩
        rotate_left
        · rw [List.take_succ_eq_append_getElem hml, bulk_app, List.map_append, List.sum_append]
          rw [List.getD_eq_getElem?_getD, List.getElem?_eq_getElem hml] at hy3
          simp only [Option.getD_some] at hy3
          simp only [List.map_cons, List.map_nil, List.sum_cons, List.sum_nil, Rows.uptoBulkAll]
          omega
        by_cases he : i < els.length
        · rw [List.getElem_append_left he]; exact hl2 i he
        · obtain rfl : i = els.length := by simp at hi; omega
          simp only [List.getElem_append_right (Nat.le_refl _), Nat.sub_self, List.getElem_cons_zero]
          rw [hl1]; exact hy
    obtain ⟨els, hl1, hl2, hl3⟩ := all len (Nat.le_refl _)
    refine ⟨some a, els, cap, by rw [hl1], fun hne => ?_, fun y hy => ?_, by omega, by unfold maxLen at hm; omega, (fun h => by cases h), ?_, ?_⟩
    · have h0 : 0 < els.length := by
        rcases Nat.eq_zero_or_pos els.length with h0 | h0
        · rw [List.length_eq_zero_iff.1 h0] at hne; simp at hne
        · exact h0
      obtain ⟨b, o, sp⟩ := a
      have hsp : sp = none := by
        obtain ⟨_, _, hat⟩ := World.cells?_some (hl2 0 h0).1
        have h1 := hat 0 hk
        rw [List.getElem?_eq_getElem (by rw [hf]; exact hk)] at h1
        simpa [Addr.add] using World.cell?_spot h1
      subst hsp
      have hcell : ∀ i (hi : i < els.length) r, r < k → W.cell? ⟨b, o + (i * k + r), none⟩ = (f els[i])[r]? := fun i hi r hr => by
        obtain ⟨_, _, hat⟩ := World.cells?_some (hl2 i hi).1
        rw [← Addr.add_none]
        exact hat r hr
      have hb : b < W.heap.size := by
        have := hcell 0 h0 0 hk
        rw [List.getElem?_eq_getElem (by rw [hf]; exact hk)] at this
        exact cell_lt this
      refine ⟨b, o, rfl, hb, .inl hb, fun j hj => ?_⟩
      have hj' := hj
      rw [fl_len f k hf] at hj'
      have hdm := Nat.div_add_mod j k
      have hmk : j % k < k := Nat.mod_lt _ hk
      have hi : j / k < els.length := Nat.div_lt_of_lt_mul (by rw [Nat.mul_comm]; exact hj')
      have e1 : j = j / k * k + j % k := by rw [Nat.mul_comm]; exact hdm.symm
      have e2 := hcell (j / k) hi (j % k) hmk
      rw [← fl_get f k hf els (j / k) (j % k) hi hmk, ← e1] at e2
      rw [e2, List.getElem?_eq_getElem hj]
    · obtain ⟨i, hi, rfl⟩ := List.getElem_of_mem hy
      exact (hl2 i hi).2
    · rw [hl1, ← hlen]
      exact Nat.le_trans (Nat.mul_le_mul_right _ (by omega)) hw
    · rw [List.take_of_length_le (by rw [List.length_map]; omega)] at hl3
      simp only [Rows.uptoBulk]
      omega
set_option maxRecDepth 20000 in
/-- Bytes. -/
theorem open_secB {fuel : Nat} {cs : List Value} {x : DataW H × List MemPlace} (h : DataW.trod enc Try.prog W 0 (fun _ => true) true fuel 35 cs = some x) (hr : Reach 35 x.1) :
    ∃ s : Sec, cs = [s.v] ∧ s.In W.heap.size W ∧ s.l.length ≤ 140737488355328 ∧ 1 + s.l.length ≤ Rows.uptoBulk x.1 := by
  obtain ⟨A, l, cap, rfl, hc, -, hl, hm, hn, hw, hs⟩ := open_listB (fun c : UInt8 => [.int .u8 (c.toNat : Nat)]) (fun _ => True) (fun _ => 1) 35 5 1 (by decide) Try.underlying35 Try.cells5 (fun _ => rfl) (fun fuel cs x h _ => by
    obtain ⟨k, rfl, _, w0⟩ := DataW.trod_int Try.underlying5 h
    obtain ⟨h1, h2⟩ := u8_range w0
    refine ⟨UInt8.ofNat k.toNat, ?_, trivial, bulk_one _⟩
    simp
    omega) h hr
  rw [sum_ones] at hs
  refine ⟨⟨A, l, cap⟩, rfl, ⟨?_, hl, hm, hn⟩, by rw [Try.bytes5] at hw; unfold reachBytes at hw; simp only; omega, by simp only; omega⟩
  have e : l.flatMap (fun c : UInt8 => [Value.int .u8 (c.toNat : Nat)]) = bs l := fl_one _ l
  rw [← e]
  exact hc
set_option maxRecDepth 20000 in
/-- A list of byte slices. -/
theorem open_secsB {fuel : Nat} {cs : List Value} {x : DataW H × List MemPlace} (h : DataW.trod enc Try.prog W 0 (fun _ => true) true fuel 22 cs = some x) (hr : Reach 22 x.1) :
    ∃ (A : Option Addr) (l : List Sec) (cap : Nat), cs = [.slice A l.length cap] ∧ SecsIn W.heap.size A l cap W ∧ (∀ s ∈ l, s.l.length ≤ 140737488355328) ∧ bulkB (secD l) + 1 ≤ Rows.uptoBulk x.1 := by
  obtain ⟨A, l, cap, rfl, hc, hq, hl, hm, hn, -, hs⟩ := open_listB (fun s : Sec => [s.v]) (fun s => s.In W.heap.size W ∧ s.l.length ≤ 140737488355328) (fun s => 1 + s.l.length) 22 35 1 (by decide) Try.underlying22 Try.cells35 (fun _ => rfl) (fun fuel cs x h hr => by
    obtain ⟨s, rfl, h1, h2, h3⟩ := open_secB h hr
    exact ⟨s, rfl, ⟨h1, h2⟩, h3⟩) h hr
  rw [sum_bulk] at hs
  refine ⟨A, l, cap, rfl, ⟨?_, fun s hs => (hq s hs).1, hl, hm, hn⟩, fun s hs => (hq s hs).2, hs⟩
  have e : l.flatMap (fun s : Sec => [s.v]) = secs l := fl_one _ l
  rw [← e]
  exact hc
end
/-- A journal that came in. -/
structure Jr.Came (j : Jr) (W : World) : Prop where
  recs : SecsIn W.heap.size j.A j.rs j.cap W
  many : -9223372036854775808 ≤ j.many ∧ j.many ≤ 9223372036854775807
  synced : -9223372036854775808 ≤ j.synced ∧ j.synced ≤ 9223372036854775807
  short : ∀ s ∈ j.rs, s.l.length ≤ 140737488355328
  bulk : bulkB (secD j.rs) ≤ 1048576
theorem Jr.Came.in {j : Jr} {W : World} (h : j.Came W) (hb : bulkB (secD j.rs) ≤ 4000) : j.In W.heap.size W :=
  ⟨h.recs, h.many, h.synced, h.short, by have := bulkB_len (secD j.rs); rw [secD_len] at this; omega⟩
section
variable {H : Type} {enc : TypeId × Value → H} {W : World}
set_option maxRecDepth 20000 in
/-- An argument of type []byte. -/
theorem open_bytesB {base : Nat} {v : Value} {d : DataW H} {p : List MemPlace} (hok : Value.okWide Try.prog W .any base 35 v) (h : DataW.Trod enc Try.prog W 0 (fun _ => true) true 35 v d p) (hr : Reach 35 d) (hk : Rows.uptoBulk d ≤ 1048576) :
    ∃ x : Sec, v = x.v ∧ x.In W.heap.size W ∧ x.l.length ≤ 1048576 := by
  obtain ⟨a0, len0, cap0, rfl⟩ := okWide_slice Try.underlying35 hok
  obtain ⟨n, hn⟩ := h
  obtain ⟨s, e, h1, _, h2⟩ := open_secB hn hr
  simp only [Value.cells, List.cons.injEq, and_true] at e
  exact ⟨s, e, h1, by simp only at h2; omega⟩
set_option maxRecDepth 20000 in
/-- An argument of type [][]byte. -/
theorem open_recsB {base : Nat} {v : Value} {d : DataW H} {p : List MemPlace} (hok : Value.okWide Try.prog W .any base 22 v) (h : DataW.Trod enc Try.prog W 0 (fun _ => true) true 22 v d p) (hr : Reach 22 d) (hk : Rows.uptoBulk d ≤ 1048576) :
    ∃ (A : Option Addr) (l : List Sec) (cap : Nat), v = .slice A l.length cap ∧ SecsIn W.heap.size A l cap W ∧ (∀ s ∈ l, s.l.length ≤ 140737488355328) ∧ bulkB (secD l) ≤ 1048576 := by
  obtain ⟨a0, len0, cap0, rfl⟩ := okWide_slice Try.underlying22 hok
  obtain ⟨n, hn⟩ := h
  obtain ⟨A, l, cap, e, h1, h2, h3⟩ := open_secsB hn hr
  simp only [Value.cells, List.cons.injEq, and_true] at e
  exact ⟨A, l, cap, e, h1, h2, by simp only at h3; omega⟩
set_option maxRecDepth 20000 in
/-- An argument of type Journal. -/
theorem open_journalB {base : Nat} {v : Value} {d : DataW H} {p : List MemPlace} (hok : Value.okWide Try.prog W .any base 29 v) (h : DataW.Trod enc Try.prog W 0 (fun _ => true) true 29 v d p) (hr : Reach 29 d) (hk : Rows.uptoBulk d ≤ 1048576) :
    ∃ x : Jr, v = x.v ∧ x.Came W := by
  obtain ⟨v0, v1, v2, y0, y1, y2, n, rfl, rfl, rfl, g0, g1, g2⟩ := open_agg3 Try.underlying29 (by kernel_rfl) (by kernel_rfl) hok h
  simp only [Rows.uptoBulk, Rows.uptoBulkAll] at hk
  obtain ⟨A, l, cap, e0, h0, q0, u0⟩ := open_secsB g0 (fun q hq => hr q (by simp only [DataW.weights, Try.underlying29, List.map_cons, List.map_nil, DataW.weightsEach, List.mem_append]; exact .inl hq))
  obtain ⟨k, e1, _, w1⟩ := DataW.trod_int Try.underlying3 g1
  obtain ⟨k2, e2, _, w2⟩ := DataW.trod_int Try.underlying3 g2
  simp only [List.cons.injEq, and_true] at e0 e1 e2
  subst e0 e1 e2
  exact ⟨⟨A, l, cap, k, k2⟩, rfl, h0, i64_range w1, i64_range w2, q0, by simp only at u0 ⊢; omega⟩
end
end Go.Proofs.Ytgigccgklahddaa
