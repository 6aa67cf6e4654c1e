/- Arguments. -/
import Derived.Test.YthmaakiibgdigaaRows
import Derived.Test.YthmaakiibgdigaaEnv
import Derived.ProofKit
import Derived.LaidMore
import Derived.OpenShut
import Derived.ChangeSame
import Derived.Stop.Joined
import Derived.LaidHandle
import Derived.Deep.Slices
import Derived.Deep.Fields
import Derived.SizedLaws
import Derived.ReadAgain
import Derived.ChangeBears
import Derived.ChangeMaps5
import Derived.Lib.SmallJoins
namespace Go.Proofs.Ythmaakiibgdigaa
open Go.RowKit Go.WideShapes Go.ChangeShapes Go.ChangeAt Go.Deep Go.ChangeMaps Go.Joins

theorem ownKnobNone : ownKnob Try.prog.godebug = none := by kernel_rfl
theorem i64_range {a : Int} (h : (Lit.int .i64 a).wf = true) : I64 a := by
  simp only [Lit.wf, Bool.and_eq_true, decide_eq_true_eq] at h
  exact h
theorem u8_range {a : Int} (h : (Lit.int .u8 a).wf = true) : 0 ≤ a ∧ a ≤ 255 := by
  simp only [Lit.wf, Bool.and_eq_true, decide_eq_true_eq] at h
  exact h
abbrev all : Nat → Prop := fun _ => True
section
variable {H : Type} {enc : TypeId × Value → H} {W : World}
/-- How much is read below a place is in reach. -/
def Reach (t : TypeId) (d : DataW H) : Prop := ∀ n ∈ d.weights Try.prog t, n ≤ reachBytes
theorem mem_weightsAll {e : TypeId} {l : List (DataW H)} {d : DataW H} (hd : d ∈ l) {n : Nat} (hn : n ∈ d.weights Try.prog e) : n ∈ DataW.weightsAll Try.prog e l := by
  induction l with
  | nil => cases hd
  | cons x r ih =>
    simp only [DataW.weightsAll, List.mem_append]
    rcases List.mem_cons.1 hd with rfl | hd
    · exact .inl hn
    · exact .inr (ih hd)
theorem Addr.add_none {b o : Nat} (x y : Nat) : ((⟨b, o, none⟩ : Addr).add x).add y = ⟨b, o + (x + y), none⟩ := by
  unfold Addr.add
  split <;> split <;> simp_all [Nat.add_assoc]
set_option maxRecDepth 20000 in
/-- A slice. -/
theorem open_list {α : Type} (f : α → List Value) (Q : α → Prop) (t e k : Nat) (hk : 0 < k) (ht : Try.prog.underlying t = some (.slice e)) (hc : Try.prog.cellsOf e = k) (hf : ∀ x, (f x).length = k)
    (hel : ∀ (fuel : Nat) (cs : List Value) (x : DataW H × List MemPlace), DataW.trod enc Try.prog W 0 (fun _ => true) true fuel e cs = some x → Reach e x.1 → ∃ y : α, cs = f y ∧ Q y)
    {fuel : Nat} {cs : List Value} {x : DataW H × List MemPlace} (h : DataW.trod enc Try.prog W 0 (fun _ => true) true fuel t cs = some x) (hr : Reach t x.1) :
    ∃ (A : Option Addr) (l : List α) (cap : Nat), cs = [.slice A l.length cap] ∧ Cels all W A (l.flatMap f) ∧ (∀ y ∈ l, Q y) ∧ l.length ≤ cap ∧ cap ≤ 9223372036854775807 ∧ (A = none → cap = 0) ∧ l.length * Try.prog.bytesOf e ≤ reachBytes := by
  rcases DataW.trod_slice ht h with ⟨rfl, _⟩ | ⟨a, len, cap, elems, rest, n', rfl, e3, e5, _, hl, hm, hlen, hin, _, _⟩
  · exact ⟨none, [], 0, rfl, Cels.nil _ _, by simp, by simp, by omega, fun _ => rfl, by simp⟩
  · subst e3 e5
    have hw : (elems.length + rest.length) * Try.prog.bytesOf e ≤ reachBytes := hr _ (by simp only [DataW.weights, ht, List.length_map]; simp)
    rw [hc] at hin
    have each : ∀ i, i < len → ∃ y : α, W.cells? 0 (a.add (i * k)) k = some (f y) ∧ Q y := by
      intro i hi
      have h1 := hin i hi
      have hlt : i < elems.length := by omega
      rw [List.getElem?_eq_getElem hlt] at h1
      obtain ⟨cs', h2, h3⟩ := Option.bind_eq_some_iff.1 h1
      obtain ⟨y, rfl, hy⟩ := hel n' cs' _ h3 (fun q hq => hr q (by
        simp only [DataW.weights, ht, List.mem_cons, List.mem_append]
        exact .inr (.inl (mem_weightsAll (List.mem_map.2 ⟨_, List.getElem_mem hlt, rfl⟩) hq))))
      exact ⟨y, h2, hy⟩
    have all : ∀ m, m ≤ len → ∃ els : List α, els.length = m ∧ ∀ i (h : i < els.length), W.cells? 0 (a.add (i * k)) k = some (f els[i]) ∧ Q els[i] := by
      intro m
      induction m with
      | zero => exact fun _ => ⟨[], rfl, fun i h => by simp at h⟩
      | succ m ihm =>
        intro hm
        obtain ⟨els, hl1, hl2⟩ := ihm (by omega)
        obtain ⟨y, hy⟩ := each m (by omega)
        refine ⟨els ++ [y], by simp [hl1], fun i hi => ?_⟩
        by_cases he : i < els.length
        · rw [List.getElem_append_left he]; exact hl2 i he
        · obtain rfl : i = els.length := by simp at hi; omega
          simp only [List.getElem_append_right (Nat.le_refl _), Nat.sub_self, List.getElem_cons_zero]
          rw [hl1]; exact hy
    obtain ⟨els, hl1, hl2⟩ := all len (Nat.le_refl _)
    refine ⟨some a, els, cap, by rw [hl1], fun hne => ?_, fun y hy => ?_, by omega, by unfold maxLen at hm; omega, (fun h => by cases h), ?_⟩
    · have h0 : 0 < els.length := by
        rcases Nat.eq_zero_or_pos els.length with h0 | h0
        · rw [List.length_eq_zero_iff.1 h0] at hne; simp at hne
        · exact h0
      obtain ⟨b, o, sp⟩ := a
      have hsp : sp = none := by
        obtain ⟨_, _, hat⟩ := World.cells?_some (hl2 0 h0).1
        have h1 := hat 0 hk
        rw [List.getElem?_eq_getElem (by rw [hf]; exact hk)] at h1
        simpa [Addr.add] using World.cell?_spot h1
      subst hsp
      have hcell : ∀ i (hi : i < els.length) r, r < k → W.cell? ⟨b, o + (i * k + r), none⟩ = (f els[i])[r]? := fun i hi r hr => by
        obtain ⟨_, _, hat⟩ := World.cells?_some (hl2 i hi).1
        rw [← Addr.add_none]
        exact hat r hr
      have hb : b < W.heap.size := by
        have := hcell 0 h0 0 hk
        rw [List.getElem?_eq_getElem (by rw [hf]; exact hk)] at this
        exact cell_lt this
      refine ⟨b, o, rfl, hb, trivial, fun j hj => ?_⟩
      have hj' := hj
      rw [fl_len f k hf] at hj'
      have hdm := Nat.div_add_mod j k
      have hmk : j % k < k := Nat.mod_lt _ hk
      have hi : j / k < els.length := Nat.div_lt_of_lt_mul (by rw [Nat.mul_comm]; exact hj')
      have e1 : j = j / k * k + j % k := by rw [Nat.mul_comm]; exact hdm.symm
      have e2 := hcell (j / k) hi (j % k) hmk
      rw [← fl_get f k hf els (j / k) (j % k) hi hmk, ← e1] at e2
      rw [e2, List.getElem?_eq_getElem hj]
    · obtain ⟨i, hi, rfl⟩ := List.getElem_of_mem hy
      exact (hl2 i hi).2
    · rw [hl1, ← hlen]
      exact Nat.le_trans (Nat.mul_le_mul_right _ (by omega)) hw
theorem Try.cells3 : Try.prog.cellsOf 3 = 1 := by kernel_rfl
theorem Try.cells4 : Try.prog.cellsOf 4 = 1 := by kernel_rfl
theorem Try.cells5 : Try.prog.cellsOf 5 = 1 := by kernel_rfl
theorem Try.cells22 : Try.prog.cellsOf 22 = 1 := by kernel_rfl
theorem Try.cells23 : Try.prog.cellsOf 23 = 1 := by kernel_rfl
theorem Try.cells26 : Try.prog.cellsOf 26 = 1 := by kernel_rfl
theorem Try.cells28 : Try.prog.cellsOf 28 = 3 := by kernel_rfl
theorem Try.cells49 : Try.prog.cellsOf 49 = 5 := by kernel_rfl
theorem Try.cells55 : Try.prog.cellsOf 55 = 2 := by kernel_rfl
theorem Try.bytes5 : Try.prog.bytesOf 5 = 1 := by kernel_rfl
set_option maxRecDepth 20000 in
/-- Bytes. -/
theorem open_sec {fuel : Nat} {cs : List Value} {x : DataW H × List MemPlace} (h : DataW.trod enc Try.prog W 0 (fun _ => true) true fuel 26 cs = some x) (hr : Reach 26 x.1) :
    ∃ s : Sec, cs = [s.v] ∧ s.In all W := by
  obtain ⟨A, l, cap, rfl, hc, -, hl, hm, hn, hw⟩ := open_list byteC (fun _ => True) 26 5 1 (by decide) Try.underlying26 Try.cells5 (fun _ => rfl) (fun fuel cs x h _ => by
    obtain ⟨k, rfl, _, w0⟩ := DataW.trod_int Try.underlying5 h
    obtain ⟨h1, h2⟩ := u8_range w0
    refine ⟨UInt8.ofNat k.toNat, ?_, trivial⟩
    simp
    omega) h hr
  exact ⟨⟨A, l, cap⟩, rfl, hc, hl, hm, hn⟩
set_option maxRecDepth 20000 in
/-- A packet. -/
theorem open_pk {fuel : Nat} {cs : List Value} {x : DataW H × List MemPlace} (h : DataW.trod enc Try.prog W 0 (fun _ => true) true fuel 28 cs = some x) (hr : Reach 28 x.1) :
    ∃ p : Pkt, cs = p.cs ∧ p.In all W := by
  obtain ⟨xs, n, rfl, rfl, hlen, hxl, hf⟩ := DataW.trod_struct Try.underlying28 h
  rw [Try.cells28] at hlen
  match xs, hxl, cs, hlen with
  | [y0, y1, y2], _, [v0, v1, v2], _ =>
    have g0 := hf 0 _ rfl
    have g1 := hf 1 _ rfl
    have g2 := hf 2 _ rfl
    simp [Try.cells3, Try.cells26] at g0 g1 g2
    obtain ⟨k0, e0, rfl, w0⟩ := DataW.trod_int Try.underlying3 g0
    obtain ⟨k1, e1, rfl, w1⟩ := DataW.trod_int Try.underlying3 g1
    obtain ⟨s, e2, h2⟩ := open_sec g2 (fun q hq => hr q (by
      simp only [DataW.weights, Try.underlying28, List.map_cons, List.map_nil, DataW.weightsEach, List.mem_append]
      exact .inr (.inr (.inl hq))))
    simp only [List.cons.injEq, and_true] at e0 e1 e2
    subst e0 e1 e2
    exact ⟨⟨k0, k1, s⟩, rfl, h2, i64_range w0, i64_range w1⟩
set_option maxRecDepth 20000 in
/-- Packets. -/
theorem open_pks {fuel : Nat} {cs : List Value} {x : DataW H × List MemPlace} (h : DataW.trod enc Try.prog W 0 (fun _ => true) true fuel 22 cs = some x) (hr : Reach 22 x.1) :
    ∃ q : Sl Pkt, cs = [q.v] ∧ PksIn all q W := by
  obtain ⟨A, l, cap, rfl, hc, hq, hl, hm, hn, -⟩ := open_list Pkt.cs (fun p => p.In all W) 22 28 3 (by decide) Try.underlying22 Try.cells28 (fun _ => rfl) (fun fuel cs x h hr => open_pk h hr) h hr
  exact ⟨⟨A, l, cap⟩, rfl, ⟨hc, hl, hm, hn⟩, hq⟩
set_option maxRecDepth 20000 in
/-- Pairs. -/
theorem open_prs {fuel : Nat} {cs : List Value} {x : DataW H × List MemPlace} (h : DataW.trod enc Try.prog W 0 (fun _ => true) true fuel 23 cs = some x) (hr : Reach 23 x.1) :
    ∃ q : Sl (Int × Int), cs = [q.v] ∧ PrsIn all q W := by
  obtain ⟨A, l, cap, rfl, hc, hq, hl, hm, hn, -⟩ := open_list prC (fun y => I64 y.1 ∧ I64 y.2) 23 55 2 (by decide) Try.underlying23 Try.cells55 (fun _ => rfl) (fun fuel cs x h hr => by
    obtain ⟨xs, n, rfl, rfl, hlen, hxl, hf⟩ := DataW.trod_array Try.underlying55 h
    rw [Try.cells55] at hlen
    match xs, hxl, cs, hlen with
    | [y0, y1], _, [v0, v1], _ =>
      have g0 := hf 0 (by decide)
      have g1 := hf 1 (by decide)
      simp [Try.cells3] at g0 g1
      obtain ⟨k0, e0, rfl, w0⟩ := DataW.trod_int Try.underlying3 g0
      obtain ⟨k1, e1, rfl, w1⟩ := DataW.trod_int Try.underlying3 g1
      simp only [List.cons.injEq, and_true] at e0 e1
      subst e0 e1
      exact ⟨(k0, k1), rfl, i64_range w0, i64_range w1⟩) h hr
  exact ⟨⟨A, l, cap⟩, rfl, ⟨hc, hl, hm, hn⟩, hq⟩
set_option maxRecDepth 20000 in
/-- An argument of type Net. -/
theorem open_net {base : Nat} {v : Value} {d : DataW H} {p : List MemPlace} (hok : Value.okWide Try.prog W .any base 25 v) (h : DataW.Trod enc Try.prog W 0 (fun _ => true) true 25 v d p) (hr : Reach 25 d) :
    ∃ x : Net, v = x.v ∧ x.In all W := by
  obtain ⟨v0, v1, y0, y1, n, rfl, rfl, rfl, g0, g1⟩ := open_agg2 Try.underlying25 (by kernel_rfl) (by kernel_rfl) hok h
  obtain ⟨q, e0, h0⟩ := open_pks g0 (fun q hq => hr q (by simp only [DataW.weights, Try.underlying25, List.map_cons, List.map_nil, DataW.weightsEach, List.mem_append]; exact .inl hq))
  obtain ⟨a, e1, h1⟩ := open_prs g1 (fun q hq => hr q (by simp only [DataW.weights, Try.underlying25, List.map_cons, List.map_nil, DataW.weightsEach, List.mem_append]; exact .inr (.inl hq)))
  simp only [List.cons.injEq, and_true] at e0 e1
  subst e0 e1
  exact ⟨⟨q, a⟩, rfl, h0, h1⟩
set_option maxRecDepth 20000 in
/-- An argument of type Packet. -/
theorem open_packet {base : Nat} {v : Value} {d : DataW H} {p : List MemPlace} (hok : Value.okWide Try.prog W .any base 28 v) (h : DataW.Trod enc Try.prog W 0 (fun _ => true) true 28 v d p) (hr : Reach 28 d) :
    ∃ x : Pkt, v = x.v ∧ x.In all W := by
  obtain ⟨v0, v1, v2, y0, y1, y2, n, rfl, rfl, rfl, g0, g1, g2⟩ := open_agg3 Try.underlying28 (by kernel_rfl) (by kernel_rfl) hok h
  obtain ⟨k, e0, _, w0⟩ := DataW.trod_int Try.underlying3 g0
  obtain ⟨k2, e1, _, w1⟩ := DataW.trod_int Try.underlying3 g1
  obtain ⟨s, e2, h2⟩ := open_sec g2 (fun q hq => hr q (by simp only [DataW.weights, Try.underlying28, List.map_cons, List.map_nil, DataW.weightsEach, List.mem_append]; exact .inr (.inr (.inl hq))))
  simp only [List.cons.injEq, and_true] at e0 e1 e2
  subst e0 e1 e2
  exact ⟨⟨k, k2, s⟩, rfl, h2, i64_range w0, i64_range w1⟩
/-- A move: what, which, from, to, byte. -/
structure Mv where
  how : UInt8
  which : UInt8
  fr : UInt8
  to : UInt8
  byte : UInt8
abbrev Mv.cs (m : Mv) : List Value := [.int .u8 (m.how.toNat : Nat), .int .u8 (m.which.toNat : Nat), .int .u8 (m.fr.toNat : Nat), .int .u8 (m.to.toNat : Nat), .int .u8 (m.byte.toNat : Nat)]
abbrev Mv.v (m : Mv) : Value := .agg #[.int .u8 (m.how.toNat : Nat), .int .u8 (m.which.toNat : Nat), .int .u8 (m.fr.toNat : Nat), .int .u8 (m.to.toNat : Nat), .int .u8 (m.byte.toNat : Nat)]
theorem u8_of {k : Int} (h : (Lit.int .u8 k).wf = true) : Value.int .u8 k = .int .u8 ((UInt8.ofNat k.toNat).toNat : Nat) := by
  obtain ⟨h1, h2⟩ := u8_range h
  simp
  omega
set_option maxRecDepth 20000 in
/-- Moves. -/
theorem open_mvs {fuel : Nat} {cs : List Value} {x : DataW H × List MemPlace} (h : DataW.trod enc Try.prog W 0 (fun _ => true) true fuel 45 cs = some x) (hr : Reach 45 x.1) :
    ∃ q : Sl Mv, cs = [q.v] ∧ SlIn Mv.cs all q W := by
  obtain ⟨A, l, cap, rfl, hc, hq, hl, hm, hn, -⟩ := open_list Mv.cs (fun y => True) 45 49 5 (by decide) Try.underlying45 Try.cells49 (fun _ => rfl) (fun fuel cs x h hr => by
    obtain ⟨xs, n, rfl, rfl, hlen, hxl, hf⟩ := DataW.trod_struct Try.underlying49 h
    rw [Try.cells49] at hlen
    match xs, hxl, cs, hlen with
    | [y0, y1, y2, y3, y4], _, [v0, v1, v2, v3, v4], _ =>
      have g0 := hf 0 _ rfl
      have g1 := hf 1 _ rfl
      have g2 := hf 2 _ rfl
      have g3 := hf 3 _ rfl
      have g4 := hf 4 _ rfl
      simp [Try.cells5] at g0 g1 g2 g3 g4
      obtain ⟨k0, e0, rfl, w0⟩ := DataW.trod_int Try.underlying5 g0
      obtain ⟨k1, e1, rfl, w1⟩ := DataW.trod_int Try.underlying5 g1
      obtain ⟨k2, e2, rfl, w2⟩ := DataW.trod_int Try.underlying5 g2
      obtain ⟨k3, e3, rfl, w3⟩ := DataW.trod_int Try.underlying5 g3
      obtain ⟨k4, e4, rfl, w4⟩ := DataW.trod_int Try.underlying5 g4
      simp only [List.cons.injEq, and_true] at e0 e1 e2 e3 e4
      rw [u8_of w0] at e0
      rw [u8_of w1] at e1
      rw [u8_of w2] at e2
      rw [u8_of w3] at e3
      rw [u8_of w4] at e4
      subst e0 e1 e2 e3 e4
      exact ⟨⟨_, _, _, _, _⟩, rfl, trivial⟩) h hr
  exact ⟨⟨A, l, cap⟩, rfl, hc, hl, hm, hn⟩
set_option maxRecDepth 20000 in
/-- An argument of type []Packet. -/
theorem open_packets {base : Nat} {v : Value} {d : DataW H} {p : List MemPlace} (hok : Value.okWide Try.prog W .any base 22 v) (h : DataW.Trod enc Try.prog W 0 (fun _ => true) true 22 v d p) (hr : Reach 22 d) :
    ∃ x : Sl Pkt, v = x.v ∧ PksIn all x W := by
  obtain ⟨a0, len0, cap0, rfl⟩ := okWide_slice Try.underlying22 hok
  obtain ⟨n, hn⟩ := h
  obtain ⟨s, e, h1⟩ := open_pks hn hr
  simp only [Value.cells, List.cons.injEq, and_true] at e
  exact ⟨s, e, h1⟩
set_option maxRecDepth 20000 in
/-- An argument of type []byte. -/
theorem open_bytes {base : Nat} {v : Value} {d : DataW H} {p : List MemPlace} (hok : Value.okWide Try.prog W .any base 26 v) (h : DataW.Trod enc Try.prog W 0 (fun _ => true) true 26 v d p) (hr : Reach 26 d) :
    ∃ x : Sec, v = x.v ∧ x.In all W := by
  obtain ⟨a0, len0, cap0, rfl⟩ := okWide_slice Try.underlying26 hok
  obtain ⟨n, hn⟩ := h
  obtain ⟨s, e, h1⟩ := open_sec hn hr
  simp only [Value.cells, List.cons.injEq, and_true] at e
  exact ⟨s, e, h1⟩
set_option maxRecDepth 20000 in
/-- An argument of type []Move. -/
theorem open_moves {base : Nat} {v : Value} {d : DataW H} {p : List MemPlace} (hok : Value.okWide Try.prog W .any base 45 v) (h : DataW.Trod enc Try.prog W 0 (fun _ => true) true 45 v d p) (hr : Reach 45 d) :
    ∃ x : Sl Mv, v = x.v ∧ SlIn Mv.cs all x W := by
  obtain ⟨a0, len0, cap0, rfl⟩ := okWide_slice Try.underlying45 hok
  obtain ⟨n, hn⟩ := h
  obtain ⟨s, e, h1⟩ := open_mvs hn hr
  simp only [Value.cells, List.cons.injEq, and_true] at e
  exact ⟨s, e, h1⟩
set_option maxRecDepth 20000 in
/-- An argument of type bool. -/
theorem open_boolv {base : Nat} {v : Value} {d : DataW H} {p : List MemPlace} (hok : Value.okWide Try.prog W .any base 4 v) (h : DataW.Trod enc Try.prog W 0 (fun _ => true) true 4 v d p) :
    ∃ x : Bool, v = .bool x := by
  obtain ⟨x, rfl, -⟩ := open_bool Try.underlying4 hok h
  exact ⟨x, rfl⟩
set_option maxRecDepth 20000 in
/-- An argument of type uint. -/
theorem open_u64 {base : Nat} {v : Value} {d : DataW H} {p : List MemPlace} (hok : Value.okWide Try.prog W .any base 52 v) (h : DataW.Trod enc Try.prog W 0 (fun _ => true) true 52 v d p) :
    ∃ x : Int, v = .int .u64 x ∧ 0 ≤ x ∧ x ≤ 18446744073709551615 := by
  obtain ⟨x, rfl, -, -, w0⟩ := open_int Try.underlying52 hok h
  simp only [Lit.wf, Bool.and_eq_true, decide_eq_true_eq] at w0
  exact ⟨x, rfl, w0⟩
set_option maxRecDepth 20000 in
/-- An argument of type int. -/
theorem open_i64 {base : Nat} {v : Value} {d : DataW H} {p : List MemPlace} (hok : Value.okWide Try.prog W .any base 3 v) (h : DataW.Trod enc Try.prog W 0 (fun _ => true) true 3 v d p) :
    ∃ x : Int, v = .int .i64 x ∧ (-9223372036854775808 ≤ x ∧ x ≤ 9223372036854775807) := by
  obtain ⟨x, rfl, -, -, w0⟩ := open_int Try.underlying3 hok h
  exact ⟨x, rfl, i64_range w0⟩
set_option maxRecDepth 20000 in
/-- An argument of type uint8. -/
theorem open_u8 {base : Nat} {v : Value} {d : DataW H} {p : List MemPlace} (hok : Value.okWide Try.prog W .any base 5 v) (h : DataW.Trod enc Try.prog W 0 (fun _ => true) true 5 v d p) :
    ∃ c : UInt8, v = .int .u8 (c.toNat : Nat) := by
  obtain ⟨x, rfl, -, -, w0⟩ := open_int Try.underlying5 hok h
  obtain ⟨h1, h2⟩ := u8_range w0
  refine ⟨UInt8.ofNat x.toNat, ?_⟩
  simp
  omega
end
section
variable {H : Type} {enc : TypeId × Value → H} {P : Program}
set_option maxRecDepth 20000 in
/-- As the guide's own last step, for a world of which only that is known that nothing old has changed. -/
theorem post_of_below {f : Func} {s : ChangeSpec} {apart fresh handsOn again : Bool} {W W' : World} {args : Array Value} {v : Value} {ds gs : List (DataW H)} {before pa pv : List MemPlace}
    (hW : DataW.Whole enc P f.params.toList s.vars apart W args.toList ds gs before)
    (hres : ∀ (b : Nat) (sp : Nat → Bool) (hd : Bool), DataW.TrodAll enc P W' b sp hd f.resultTypes.toList (v.resultList f.resultTypes.size) (s.fn H (ds ++ gs)).results [])
    (hargs : ∀ sp : Nat → Bool, (∀ p ∈ before, sp p.block = true) → DataW.TrodAll enc P W' 0 sp true f.params.toList args.toList (s.fn H (ds ++ gs)).args pa)
    (hvars : ∀ sp : Nat → Bool, (∀ p ∈ before, sp p.block = true) → DataW.TrodVars enc P W' sp s.vars (s.fn H (ds ++ gs)).vars pv)
    (hps : before = pa ++ pv) (hb : Below W.heap.size W W')
    (hok : ∀ (j : Nat) (t : TypeId) (r : Value), f.resultTypes[j]? = some t → (v.resultList f.resultTypes.size)[j]? = some r → Value.okWide P W' .any 0 t r) :
    s.post enc P f apart fresh handsOn again W args v W' := by
  have hlt : ∀ p ∈ before, p.block < W.heap.size := fun p hp => hW.lt p hp
  have hold : ∀ p ∈ before, (fun b => decide (b < W.heap.size)) p.block = true := fun p hp => by simpa using hlt p hp
  refine ⟨ds, gs, before, [], pa, pv, hW, hres _ _ _, hargs _ hold, hvars _ hold, World.keptBut_mono (fun p hp => ⟨hp, ?_⟩) (hb.frame (· ∈ before)), fun _ => ?_⟩
  · rw [hps, List.mem_append] at hp
    exact Or.inr hp
  · obtain ⟨_, _, _, _, _, hz, hn⟩ := hW
    refine ⟨hok, _, _, ([] ++ pa) ++ pv, ⟨[] ++ pa, pv, trodAll_append (hargs _ (fun _ _ => rfl)) (hres _ _ _), hvars _ (fun _ _ => rfl), rfl, ?_, ?_⟩, ?_⟩
    · intro b off hp
      have hin : MemPlace.cell b off ∈ before := by rw [hps]; simpa using hp
      rw [hb.frozen (hlt _ hin)]
      exact hz b off hin
    · intro ha
      have := hn ha
      rw [hps] at this
      simpa using this
    · intro p hp _
      rw [hps]
      simpa using hp
end
theorem Try.kids : Kids Try.prog (· < Try.prog.types.size) := kids_rows (by kernel_rfl) (by kernel_rfl)
theorem Try.full : ∀ t e, t < Try.prog.types.size → Try.prog.underlying t = some (.slice e) → 0 < Try.prog.cellsOf e := slices_full_of Try.prog (by kernel_rfl)

section
variable {H : Type} {enc : TypeId × Value → H}

/-- A reading stays where only what is new has come. -/
theorem trodAll_up {P : Program} {W W' : World} {base : Nat} {sp : Nat → Bool} {hd : Bool} (hB : Below W.heap.size W W') : ∀ {ts : List TypeId} {vs : List Value} {ds : List (DataW H)} {ps : List MemPlace},
    DataW.TrodAll enc P W base sp hd ts vs ds ps → DataW.TrodAll enc P W' base sp hd ts vs ds ps
  | [], [], [], _, h => h
  | _ :: _, _ :: _, _ :: _, _, ⟨p, q, ⟨n, hn⟩, hs, e⟩ => ⟨p, q, ⟨n, DataW.trod_carry n _ _ _ hn (fun p hp => hB.same (DataW.trod_lt n _ _ _ hn p hp))⟩, trodAll_up hB hs, e⟩

set_option maxRecDepth 20000 in
/-- A call that answers true and leaves what was there, its arguments told as they were. -/
theorem post_true {f : Func} {s : ChangeSpec} {apart fresh handsOn again : Bool} {W W' : World} {args : Array Value} {ds : List (DataW H)} {before : List MemPlace}
    (hvars : s.vars = []) (hW : DataW.Whole enc Try.prog f.params.toList s.vars apart W args.toList ds [] before)
    (hAk : DataW.TrodAll enc Try.prog W 0 (fun _ => true) true f.params.toList args.toList ds before)
    (hT : ∀ t ∈ f.params.toList, t < Try.prog.types.size) (hr : f.resultTypes = #[4])
    (hres : (s.fn H ds).results = [.lit (.bool true)]) (harg : (s.fn H ds).args = ds) (hvar : (s.fn H ds).vars = []) (hb : Below W.heap.size W W') :
    s.post enc Try.prog f apart fresh handsOn again W args (.bool true) W' := by
  have hl : (f.resultTypes.size) = 1 := by rw [hr]; rfl
  refine post_of_below (ds := ds) (gs := []) (pa := before) (pv := []) hW (fun b sp hd => ?_) (fun sp hsp => ?_) (fun sp _ => ?_) (by simp) hb ?_
  · rw [hr, List.append_nil, hres]
    exact trodAll_cons_mk (shut_bool Try.underlying4 _) trodAll_mk0
  · rw [List.append_nil, harg]
    exact trodAll_up hb (DataW.TrodAll.respare Try.kids Try.full hT hAk hsp)
  · rw [hvars, List.append_nil, hvar]
    rfl
  · exact ok_one (t := 4) hr rfl (okWide_bool_mk Try.underlying4 _)
end

end Go.Proofs.Ythmaakiibgdigaa
