/- Few. -/
import Derived.Test.YthjfeodclphgaaaDoorFr
import Derived.Test.YthjfeodclphgaaaDoorSn
import Derived.Test.YthjfeodclphgaaaDoorLawBase
import Derived.ChangeMaps5
import Derived.Lib.SmallJoins
namespace Go.Proofs.YthjfeodclphgaaaDoor
open Go.RowKit
/-- At most 40 leaves of at most 200 bytes. -/
def fewB (pl : List Lf) : Bool := decide (pl.length ≤ 40) && (pl.take 40).all fun x => decide (x.l.length ≤ 200)
theorem fewB_all {pl : List Lf} {k : Nat} (h : ∀ x ∈ pl.take k, x.l.length ≤ 200) (hk : pl.length ≤ k ∨ 40 ≤ k) : fewB pl = decide (pl.length ≤ 40) := by
  unfold fewB
  rw [show ((pl.take 40).all fun x => decide (x.l.length ≤ 200)) = true from List.all_eq_true.2 fun x hx => decide_eq_true (h x (by
    rcases hk with hk | hk
    · rw [List.take_of_length_le hk]; exact List.mem_of_mem_take hx
    · have e : pl.take 40 = (pl.take k).take 40 := by rw [List.take_take, Nat.min_eq_left hk]
      rw [e] at hx
      exact List.mem_of_mem_take hx)), Bool.and_true]
theorem fewB_no {pl : List Lf} {k : Nat} (h : k < pl.length) (hk : k < 40) (hl : 200 < (pl[k]).l.length) : fewB pl = false := by
  unfold fewB
  rw [show ((pl.take 40).all fun x => decide (x.l.length ≤ 200)) = false from by
    rw [List.all_eq_false]
    refine ⟨pl[k], ?_, by simp; omega⟩
    rw [List.mem_take_iff_getElem]
    exact ⟨k, by omega, rfl⟩, Bool.and_false]
set_option maxRecDepth 20000 in
set_option maxHeartbeats 800000 in
theorem few_any (PA : Option Addr) (pl : List Lf) (pc : Nat) (w : World) (hc : ∀ k (h : k < pl.length), ∃ b o, PA = some ⟨b, o, none⟩ ∧ b < w.heap.size ∧ w.cell? ⟨b, o + k, none⟩ = some (.slice (pl[k]).A (pl[k]).l.length (pl[k]).cap)) (hn : pl.length ≤ 9223372036854775807) (hs : ∀ x ∈ pl, x.l.length ≤ 9223372036854775807) :
    Calls Tryd.prog 35 #[.slice PA pl.length pc] w fun e w' => e = .returned (.bool (fewB pl)) ∧ w = w' := by
  have HC := hide hc
  have HS := hide hs
  clear hc hs
  go_enter Tryd.func35, Tryd.ntmps35
  go_wp2_with fail
  go_loop [3] (fun i => ∃ k : Nat, k ≤ pl.length ∧ k ≤ 40 ∧ i = .int .i64 k ∧ Hid (∀ x ∈ pl.take k, x.l.length ≤ 200)) (fun i => 40 - (intOf i).toNat)
  case atStart => exact ⟨0, Nat.zero_le _, by decide, rfl, hide (fun x hx => by simp at hx)⟩
  case round =>
    obtain ⟨k, hk, hk40, rfl, HA⟩ := hrel
    by_cases hlt : k < pl.length
    · have hlt' : (k : Int) < (pl.length : Int) := by omega
      by_cases h40 : k < 40
      · have h40' : (k : Int) < 40 := by omega
        obtain ⟨b, o, hA, _, e0⟩ := HC.out k hlt
        have hsz := HS.out _ (List.getElem_mem hlt)
        have HNO := hide (fun h => fewB_no hlt h40 h)
        have HTK := hide (List.take_succ_eq_append_getElem hlt)
        subst hA
        generalize pl[k] = x at *
        by_cases hx : x.l.length ≤ 200
        · have hx' : ¬ (200 : Int) < (x.l.length : Int) := by omega
          go_wp2_with fail
          go_round
          case rel => exact ⟨k + 1, by omega, by omega, by go_num, hide (fun z hz => by
            rw [HTK.out] at hz
            rcases List.mem_append.1 hz with hz | hz
            · exact HA.out z hz
            · rw [List.mem_singleton.1 hz]; exact hx)⟩
          case measure => simp [intOf]; omega
        · have hx' : (200 : Int) < (x.l.length : Int) := by omega
          have hf := HNO.out (by omega)
          have HF := hide hf
          clear hf
          go_wp2_with fail
          go_ret
          exact ⟨by rw [HF.out]; rfl, rfl⟩
      · have h40' : ¬ (k : Int) < 40 := by omega
        have HF := hide (fewB_all HA.out (.inr (by omega)))
        go_wp2_with fail
        go_ret
        exact ⟨by rw [HF.out]; simp; omega, rfl⟩
    · have hlt' : ¬ (k : Int) < (pl.length : Int) := by omega
      have HF := hide (fewB_all HA.out (.inl (by omega)))
      go_wp2_with fail
      go_ret
      exact ⟨by rw [HF.out]; simp; omega, rfl⟩
end Go.Proofs.YthjfeodclphgaaaDoor

/- Leaves that came in; what the statements use. -/
namespace Go.Proofs.YthjfeodclphgaaaDoor
open Go.RowKit Go.Shelf
structure LvRaw (w : World) (PA : Option Addr) (pl : List Lf) : Prop where
  cel : ∀ k (h : k < pl.length), ∃ b o, PA = some ⟨b, o, none⟩ ∧ b < w.heap.size ∧ w.cell? ⟨b, o + k, none⟩ = some (.slice (pl[k]).A (pl[k]).l.length (pl[k]).cap)
  sb : ∀ x ∈ pl, Sb w x.A x.l
  nil : ∀ x ∈ pl, x.A = none → x.cap = 0
  big : ∀ x ∈ pl, x.l.length ≤ 9223372036854775807
theorem LvRaw.below {w w' : World} {PA : Option Addr} {pl : List Lf} (h : LvRaw w PA pl) (hb : Below w.heap.size w w') : LvRaw w' PA pl :=
  ⟨fun k hk => by
    obtain ⟨b, o, e, hlt, hc⟩ := h.cel k hk
    exact ⟨b, o, e, Nat.lt_of_lt_of_le hlt hb.size, (hb.cell (p := ⟨b, o + k, none⟩) hlt).trans hc⟩, fun x hx => (h.sb x hx).below hb, h.nil, h.big⟩
theorem few_spec {pl : List Lf} (h : fewB pl = true) : pl.length ≤ 40 ∧ ∀ x ∈ pl, x.l.length ≤ 200 := by
  unfold fewB at h
  simp only [Bool.and_eq_true, decide_eq_true_eq] at h
  refine ⟨h.1, fun x hx => ?_⟩
  have h2 := List.all_eq_true.1 h.2 x (by rw [List.take_of_length_le h.1]; exact hx)
  simpa using h2
theorem LvRaw.lv {w : World} {PA : Option Addr} {pl : List Lf} (h : LvRaw w PA pl) (hf : fewB pl = true) : LvIn w PA pl :=
  ⟨h.cel, h.sb, h.nil, fun x hx => Nat.le_trans ((few_spec hf).2 x hx) (by decide)⟩
theorem rowF_get {pl : List Lf} {i : Nat} (h : i < pl.length) : (rowF pl).getD i [] = sha (tagL ++ (pl[i]).l) := by
  rw [List.getD_eq_getElem?_getD, List.getElem?_eq_getElem (by rw [rowF_len]; exact h)]
  simp [rowF]
theorem rootB_more {pl : List Lf} (h : 0 < pl.length) : rootB pl = rootR sha tagN (rowF pl) := by unfold rootB; rw [if_neg (by omega)]
/-- Climbing from a leaf with its path leads to the root. -/
theorem climb_back {pl : List Lf} {i : Nat} (h : i < pl.length) (hn : pl.length ≤ 65536) : climbAns (pl.length : Nat) (i : Nat) (pl[i]).l (proveR sha tagN (rowF pl) i) = (rootB pl, 0) := by
  have hl := proveR_len sha tagN pl.length (rowF pl) i (by rw [rowF_len]; exact Nat.le_refl _)
  rw [rowF_len] at hl
  rw [climbAns_yes (by unfold leafB; simp; omega) (by simpa using hl)]
  have hc := climb_prove sha tagN pl.length (rowF pl) i (by rw [rowF_len]; exact Nat.le_refl _) (by rw [rowF_len]; exact h)
  rw [rowF_len, rowF_get h] at hc
  rw [rootB_more (by omega)]
  simp only [Int.toNat_natCast]
  rw [hc]
theorem prove_16 {pl : List Lf} {i : Nat} (hn : pl.length ≤ 65536) : (proveR sha tagN (rowF pl) i).length ≤ 16 := by
  have hl := proveR_len sha tagN pl.length (rowF pl) i (by rw [rowF_len]; exact Nat.le_refl _)
  rw [hl, rowF_len]
  exact lenR_le 16 _ _ (by omega)
theorem proveR_32 : ∀ (k : Nat) (L : List (List UInt8)) (i : Nat), L.length ≤ k → i < L.length → D32 L → D32 (proveR sha tagN L i)
  | k, L, i, hk, hi, hd => by
    by_cases h1 : L.length ≤ 1
    · rw [proveR_one sha tagN h1]; exact D32.nil
    · cases k with
      | zero => omega
      | succ k =>
        rw [proveR_more sha tagN (by omega)]
        refine D32.append ?_ (proveR_32 k _ _ (by rw [pairsL_len]; omega) (by rw [pairsL_len]; omega) (pairs_32 hd))
        cases ha : aloneB L.length i with
        | true => simp; exact D32.nil
        | false =>
          have hnb : nb i < L.length := by unfold aloneB at ha; simpa using ha
          simp only [Bool.false_eq_true, if_false]
          refine D32.one ?_
          rw [List.getD_eq_getElem?_getD, List.getElem?_eq_getElem hnb]
          exact hd _ (List.getElem_mem hnb)
/-- Prove, as a call that hands back a list of digests. -/
theorem prove_yes' (PA : Option Addr) (pl : List Lf) (pc : Nat) (i : Nat) (w : World) (hT : Tab w) (hl : LvIn w PA pl) (hi : i < pl.length) (hn : pl.length ≤ 65536) :
    Calls Tryd.prog 36 #[.slice PA pl.length pc, .int .i64 (i : Nat)] w fun e w' => ∃ (A : Option Addr) (cap : Nat), e = .returned (.tuple #[.slice A (proveR sha tagN (rowF pl) i).length cap, .int .i64 0]) ∧ DSrc w' A (proveR sha tagN (rowF pl) i).length cap (proveR sha tagN (rowF pl) i) ∧ Below w.heap.size w w' := by
  refine (prove_yes PA pl pc i w hT hl hi hn).mono ?_
  rintro e w' ⟨A, c, he, ho, hb⟩
  obtain ⟨A', c', e', hds⟩ := own_dsrc ho (proveR_32 pl.length _ _ (by rw [rowF_len]; exact Nat.le_refl _) (by rw [rowF_len]; exact hi) (rowF_32 pl)) rfl
  injection e' with e1 e2 e3
  subst e1; subst e3
  exact ⟨A, c, he, hds, hb⟩
end Go.Proofs.YthjfeodclphgaaaDoor

/- Arguments that are lists of bytes or of digests. -/
namespace Go.Proofs.YthjfeodclphgaaaDoor
open Go.RowKit Go.WideShapes Go.ChangeShapes Go.ChangeAt Go.Deep Go.ChangeMaps Go.Joins
theorem u8_range {a : Int} (h : (Lit.int .u8 a).wf = true) : 0 ≤ a ∧ a ≤ 255 := by
  simp only [Lit.wf, Bool.and_eq_true, decide_eq_true_eq] at h
  exact h
theorem flat_get {α : Type} (f : α → List Value) (k : Nat) (hf : ∀ x, (f x).length = k) : ∀ (l : List α) (i r : Nat) (h : i < l.length), r < k → (l.flatMap f)[i * k + r]? = (f l[i])[r]?
  | x :: l, 0, r, _, hr => by
    rw [List.flatMap_cons, Nat.zero_mul, Nat.zero_add, List.getElem?_append_left (by rw [hf]; exact hr)]
    rfl
  | x :: l, i + 1, r, h, hr => by
    rw [List.flatMap_cons, List.getElem?_append_right (by rw [hf]; have : (i + 1) * k = i * k + k := Nat.succ_mul i k; omega), hf, show (i + 1) * k + r - k = i * k + r by have : (i + 1) * k = i * k + k := Nat.succ_mul i k; omega]
    exact flat_get f k hf l i r (by simpa using h) hr
theorem flat_len {α : Type} (f : α → List Value) (k : Nat) (hf : ∀ x, (f x).length = k) : ∀ l : List α, (l.flatMap f).length = l.length * k
  | [] => by simp
  | x :: l => by rw [List.flatMap_cons, List.length_append, hf, flat_len f k hf l, List.length_cons, Nat.succ_mul]; omega
theorem Addr.add_none {b o : Nat} (x y : Nat) : ((⟨b, o, none⟩ : Addr).add x).add y = ⟨b, o + (x + y), none⟩ := by
  unfold Addr.add
  split <;> split <;> simp_all [Nat.add_assoc]
/-- Cells that a slice names. -/
def Cels (W : World) (A : Option Addr) (vs : List Value) : Prop := vs ≠ [] → ∃ b o, A = some ⟨b, o, none⟩ ∧ b < W.heap.size ∧ ∀ j v, vs[j]? = some v → W.cell? ⟨b, o + j, none⟩ = some v
section
variable {H : Type} {enc : TypeId × Value → H} {W : World}
/-- A slice. -/
theorem open_list {α : Type} (f : α → List Value) (Q : α → Prop) (t e k : Nat) (hk : 0 < k) (ht : Tryd.prog.underlying t = some (.slice e)) (hc : Tryd.prog.cellsOf e = k) (hf : ∀ x, (f x).length = k)
    (hel : ∀ (fuel : Nat) (cs : List Value) (x : DataW H × List MemPlace), DataW.trod enc Tryd.prog W 0 (fun _ => true) true fuel e cs = some x → ∃ y : α, cs = f y ∧ Q y)
    {fuel : Nat} {cs : List Value} {x : DataW H × List MemPlace} (h : DataW.trod enc Tryd.prog W 0 (fun _ => true) true fuel t cs = some x) :
    ∃ (A : Option Addr) (l : List α) (cap : Nat), cs = [.slice A l.length cap] ∧ Cels W A (l.flatMap f) ∧ (∀ y ∈ l, Q y) ∧ l.length ≤ cap ∧ cap ≤ 9223372036854775807 ∧ (A = none → cap = 0) := by
  rcases DataW.trod_slice ht h with ⟨rfl, _⟩ | ⟨a, len, cap, elems, rest, n', rfl, e3, e5, _, hl, hm, hlen, hin, _, _⟩
  · exact ⟨none, [], 0, rfl, fun h => absurd rfl h, by simp, by simp, by omega, fun _ => rfl⟩
  · subst e3 e5
    rw [hc] at hin
    have each : ∀ i, i < len → ∃ y : α, W.cells? 0 (a.add (i * k)) k = some (f y) ∧ Q y := by
      intro i hi
      have h1 := hin i hi
      have hlt : i < elems.length := by omega
      rw [List.getElem?_eq_getElem hlt] at h1
      obtain ⟨cs', h2, h3⟩ := Option.bind_eq_some_iff.1 h1
      obtain ⟨y, rfl, hy⟩ := hel n' cs' _ h3
      exact ⟨y, h2, hy⟩
    have all : ∀ m, m ≤ len → ∃ els : List α, els.length = m ∧ ∀ i (h : i < els.length), W.cells? 0 (a.add (i * k)) k = some (f els[i]) ∧ Q els[i] := by
      intro m
      induction m with
      | zero => exact fun _ => ⟨[], rfl, fun i h => by simp at h⟩
      | succ m ihm =>
        intro hm
        obtain ⟨els, hl1, hl2⟩ := ihm (by omega)
        obtain ⟨y, hy⟩ := each m (by omega)
        refine ⟨els ++ [y], by simp [hl1], fun i hi => ?_⟩
        by_cases he : i < els.length
        · rw [List.getElem_append_left he]; exact hl2 i he
        · obtain rfl : i = els.length := by simp at hi; omega
          simp only [List.getElem_append_right (Nat.le_refl _), Nat.sub_self, List.getElem_cons_zero]
          rw [hl1]; exact hy
    obtain ⟨els, hl1, hl2⟩ := all len (Nat.le_refl _)
    refine ⟨some a, els, cap, by rw [hl1], fun hne => ?_, fun y hy => ?_, by omega, by unfold maxLen at hm; omega, fun h => by cases h⟩
    · have h0 : 0 < els.length := by
        rcases Nat.eq_zero_or_pos els.length with h0 | h0
        · rw [List.length_eq_zero_iff.1 h0] at hne; simp at hne
        · exact h0
      obtain ⟨b, o, sp⟩ := a
      have hsp : sp = none := by
        obtain ⟨_, _, hat⟩ := World.cells?_some (hl2 0 h0).1
        have h1 := hat 0 hk
        rw [List.getElem?_eq_getElem (by rw [hf]; exact hk)] at h1
        simpa [Addr.add] using World.cell?_spot h1
      subst hsp
      have hcell : ∀ i (hi : i < els.length) r, r < k → W.cell? ⟨b, o + (i * k + r), none⟩ = (f els[i])[r]? := fun i hi r hr => by
        obtain ⟨_, _, hat⟩ := World.cells?_some (hl2 i hi).1
        rw [← Addr.add_none]
        exact hat r hr
      have hb : b < W.heap.size := by
        have := hcell 0 h0 0 hk
        rw [List.getElem?_eq_getElem (by rw [hf]; exact hk)] at this
        exact cell_lt this
      refine ⟨b, o, rfl, hb, fun j v hv => ?_⟩
      have hj : j < (els.flatMap f).length := (List.getElem?_eq_some_iff.1 hv).1
      have hj' := hj
      rw [flat_len f k hf] at hj'
      have hdm := Nat.div_add_mod j k
      have hmk : j % k < k := Nat.mod_lt _ hk
      have hi : j / k < els.length := Nat.div_lt_of_lt_mul (by rw [Nat.mul_comm]; exact hj')
      have e1 : j = j / k * k + j % k := by rw [Nat.mul_comm]; exact hdm.symm
      have e2 := hcell (j / k) hi (j % k) hmk
      rw [← flat_get f k hf els (j / k) (j % k) hi hmk, ← e1] at e2
      rw [e2, hv]
    · obtain ⟨i, hi, rfl⟩ := List.getElem_of_mem hy
      exact (hl2 i hi).2
theorem Tryd.cells22 : Tryd.prog.cellsOf 22 = 1 := by kernel_rfl
theorem flat_bytes (l : List UInt8) : l.flatMap (fun c : UInt8 => [Value.int .u8 (c.toNat : Nat)]) = bc l := by
  induction l with
  | nil => rfl
  | cons c l ih => rw [List.flatMap_cons, ih]; rfl
/-- Bytes. -/
theorem open_leaf {fuel : Nat} {cs : List Value} {x : DataW H × List MemPlace} (h : DataW.trod enc Tryd.prog W 0 (fun _ => true) true fuel 22 cs = some x) :
    ∃ s : Lf, cs = [.slice s.A s.l.length s.cap] ∧ Sb W s.A s.l ∧ (s.A = none → s.cap = 0) ∧ s.l.length ≤ 9223372036854775807 := by
  obtain ⟨A, l, cap, rfl, hc, -, hl, hm, hn⟩ := open_list (fun c : UInt8 => [.int .u8 (c.toNat : Nat)]) (fun _ => True) 22 5 1 (by decide) Tryd.underlying22 Tryd.cells5 (fun _ => rfl) (fun fuel cs x h => by
    obtain ⟨k, rfl, _, w0⟩ := DataW.trod_int Tryd.underlying5 h
    obtain ⟨h1, h2⟩ := u8_range w0
    refine ⟨UInt8.ofNat k.toNat, ?_, trivial⟩
    have e : ((UInt8.ofNat k.toNat).toNat : Int) = k := by simp; omega
    rw [e]) h
  refine ⟨⟨A, l, cap⟩, rfl, fun hne => ?_, hn, by show l.length ≤ _; omega⟩
  rw [flat_bytes] at hc
  obtain ⟨b, o, e, _, hcc⟩ := hc (by intro h; exact hne (List.length_eq_zero_iff.1 (by rw [← bc_len, h]; rfl)))
  exact ⟨b, o, e, fun i hi => hcc i _ (bc_get hi)⟩
theorem flat_leaves (l : List Lf) : l.flatMap (fun x : Lf => [Value.slice x.A x.l.length x.cap]) = l.map fun x => Value.slice x.A x.l.length x.cap := by
  induction l with
  | nil => rfl
  | cons c l ih => rw [List.flatMap_cons, ih]; rfl
set_option maxRecDepth 20000 in
/-- An argument of type [][]byte. -/
theorem open_leaves {v : Value} {d : DataW H} {ps : List MemPlace} {base : Nat} (hok : Value.okWide Tryd.prog W .any base 24 v) (h : DataW.Trod enc Tryd.prog W 0 (fun _ => true) true 24 v d ps) :
    ∃ (PA : Option Addr) (pl : List Lf) (cap : Nat), v = .slice PA pl.length cap ∧ LvRaw W PA pl ∧ pl.length ≤ cap ∧ cap ≤ 9223372036854775807 := by
  obtain ⟨a0, len0, cap0, rfl⟩ := okWide_slice Tryd.underlying24 hok
  obtain ⟨n, hn⟩ := h
  obtain ⟨A, l, cap, e, hc, hq, hl, hm, hnn⟩ := open_list (fun x : Lf => [.slice x.A x.l.length x.cap]) (fun x => Sb W x.A x.l ∧ (x.A = none → x.cap = 0) ∧ x.l.length ≤ 9223372036854775807) 24 22 1 (by decide) Tryd.underlying24 Tryd.cells22 (fun _ => rfl) (fun fuel cs x h => open_leaf h) hn
  simp only [Value.cells, List.cons.injEq, Value.slice.injEq, and_true] at e
  obtain ⟨rfl, rfl, rfl⟩ := e
  refine ⟨a0, l, cap0, rfl, ⟨fun k hk => ?_, fun x hx => (hq x hx).1, fun x hx => (hq x hx).2.1, fun x hx => (hq x hx).2.2⟩, hl, hm⟩
  rw [flat_leaves] at hc
  obtain ⟨b, o, e, hlt, hcc⟩ := hc (by intro h; have hh : l = [] := List.map_eq_nil_iff.1 h; rw [hh] at hk; simp at hk)
  exact ⟨b, o, e, hlt, hcc k _ (by simp [hk])⟩
/-- A digest's cells. -/
theorem open_dig {fuel : Nat} {cs : List Value} {x : DataW H × List MemPlace} (h : DataW.trod enc Tryd.prog W 0 (fun _ => true) true fuel 26 cs = some x) : ∃ y : { d : List UInt8 // d.length = 32 }, cs = bc y.1 ∧ True := by
  obtain ⟨xs, m1, rfl, _, hlen, hn3, hel⟩ := DataW.trod_array Tryd.underlying26 h
  rw [Tryd.cells26] at hlen
  have each : ∀ i, i < 32 → ∃ c : UInt8, cs[i]? = some (.int .u8 (c.toNat : Nat)) := by
    intro i hi
    have hi2 : i < xs.length := by omega
    have h0 := hel i hi
    rw [Tryd.cells5, Nat.mul_one, List.getElem?_eq_getElem hi2] at h0
    obtain ⟨k, e1, _, w0⟩ := DataW.trod_int Tryd.underlying5 h0
    have hw := u8_range w0
    refine ⟨UInt8.ofNat k.toNat, ?_⟩
    have := congrArg (·[0]?) e1
    have e2 : cs[i]? = some (.int .u8 k) := by simpa using this
    rw [e2]
    simp
    omega
  refine ⟨⟨(List.range 32).map fun i => byteIn cs[i]?, by simp⟩, ?_, trivial⟩
  apply List.ext_getElem?
  intro i
  by_cases hi : i < 32
  · obtain ⟨c, hc⟩ := each i hi
    rw [hc, bc_get (by simpa using hi), List.getElem_map, List.getElem_range, hc]
    simp [byteIn]
  · rw [List.getElem?_eq_none (by omega), List.getElem?_eq_none (by rw [bc_len]; simp; omega)]
theorem flat_digs (l : List { d : List UInt8 // d.length = 32 }) : l.flatMap (fun y : { d : List UInt8 // d.length = 32 } => bc y.1) = bc (l.map (·.1)).flatten := by
  induction l with
  | nil => rfl
  | cons c l ih => rw [List.flatMap_cons, ih, List.map_cons, List.flatten_cons, bc_append]
set_option maxRecDepth 20000 in
/-- An argument of type []api.Digest. -/
theorem open_digests {v : Value} {d : DataW H} {ps : List MemPlace} {base : Nat} (hok : Value.okWide Tryd.prog W .any base 30 v) (h : DataW.Trod enc Tryd.prog W 0 (fun _ => true) true 30 v d ps) :
    ∃ (A : Option Addr) (m c : Nat) (p : List (List UInt8)), v = .slice A m c ∧ DSrc W A m c p := by
  obtain ⟨a0, len0, cap0, rfl⟩ := okWide_slice Tryd.underlying30 hok
  obtain ⟨n, hn⟩ := h
  obtain ⟨A, l, cap, e, hc, -, hl, hm, hnn⟩ := open_list (fun y : { d : List UInt8 // d.length = 32 } => bc y.1) (fun _ => True) 30 26 32 (by decide) Tryd.underlying30 Tryd.cells26 (fun y => by rw [bc_len, y.2]) (fun fuel cs x h => open_dig h) hn
  simp only [Value.cells, List.cons.injEq, Value.slice.injEq, and_true] at e
  obtain ⟨rfl, rfl, rfl⟩ := e
  have hd : D32 (l.map (·.1)) := fun d hd => by
    obtain ⟨y, _, rfl⟩ := List.mem_map.1 hd
    exact y.2
  refine ⟨a0, l.length, cap0, l.map (·.1), rfl, by simp, fun hne => ?_, hd, hl, hm, hnn⟩
  rw [flat_digs] at hc
  obtain ⟨b, o, e, _, hcc⟩ := hc (by intro h; exact hne (List.length_eq_zero_iff.1 (by rw [← bc_len, h]; rfl)))
  exact ⟨b, o, e, fun i hi => hcc i _ (bc_get hi)⟩
end
end Go.Proofs.YthjfeodclphgaaaDoor
