/- An argument of type Value that can be read is a tree that lies in memory. -/
import Derived.Test.YtccdencaidopnaaBlk
import Derived.Test.YtccdencaidopnaaPost
import Derived.Deep.Slices
import Derived.Deep.Fields
import Derived.SizedLaws
import Derived.ReadAgain
import Derived.ChangeBears
namespace Go.Proofs.Ytccdencaidopnaa
open Go.RowKit Go.WideShapes Go.ChangeShapes Go.Deep

theorem Try.cells24 : Try.prog.cellsOf 24 = 4 := by kernel_rfl
theorem Try.cells3 : Try.prog.cellsOf 3 = 1 := by kernel_rfl
theorem Try.cells9 : Try.prog.cellsOf 9 = 1 := by kernel_rfl
theorem Try.cells22 : Try.prog.cellsOf 22 = 1 := by kernel_rfl
theorem Try.bytes24 : Try.prog.bytesOf 24 = 56 := by kernel_rfl

section
variable {H : Type} {enc : TypeId × Value → H} {w : World} {base : Nat} {held : Bool}

/-- How much is read below a place is in reach. -/
def Reach (t : TypeId) (d : DataW H) : Prop := ∀ n ∈ d.weights Try.prog t, n ≤ reachBytes

theorem mem_weightsAll {e : TypeId} {l : List (DataW H)} {d : DataW H} (hd : d ∈ l) {n : Nat} (hn : n ∈ d.weights Try.prog e) : n ∈ DataW.weightsAll Try.prog e l := by
  induction l with
  | nil => cases hd
  | cons x r ih =>
    simp only [DataW.weightsAll, List.mem_append]
    rcases List.mem_cons.1 hd with rfl | hd
    · exact .inl hn
    · exact .inr (ih hd)

theorem open_value : ∀ (fuel : Nat) (cs : List Value) (x : DataW H × List MemPlace), DataW.trod enc Try.prog w base (fun _ => true) held fuel 24 cs = some x → Reach 24 x.1 →
    ∃ t : VT, cs = [.int .i64 t.kind, .int .i64 t.num, .string t.str, t.sl] ∧ t.In w := by
  intro fuel
  induction fuel using Nat.strongRecOn with
  | _ fuel ih =>
    intro cs x h hr
    obtain ⟨xs, n, rfl, rfl, hlen, hxl, hf⟩ := DataW.trod_struct Try.underlying24 h
    rw [Try.cells24] at hlen
    match xs, hxl, cs, hlen with
    | [y0, y1, y2, y3], _, [v0, v1, v2, v3], _ =>
      have g0 := hf 0 _ rfl
      have g1 := hf 1 _ rfl
      have g2 := hf 2 _ rfl
      have g3 := hf 3 _ rfl
      simp [Try.cells3, Try.cells9, Try.cells22] at g0 g1 g2 g3
      obtain ⟨k, e0, rfl, w0⟩ := DataW.trod_int Try.underlying3 g0
      obtain ⟨m, e1, rfl, w1⟩ := DataW.trod_int Try.underlying3 g1
      obtain ⟨s, e2, rfl, _⟩ := DataW.trod_string Try.underlying9 g2
      simp only [List.cons.injEq, and_true] at e0 e1 e2
      subst e0 e1 e2
      have hr2 : ∀ n ∈ DataW.weightsEach Try.prog [3, 3, 9, 22] [DataW.lit (.int .i64 k), DataW.lit (.int .i64 m), DataW.lit (.string s.data.toList), y3.1], n ≤ reachBytes := by
        intro n hn
        refine hr n ?_
        simp only [DataW.weights, Try.underlying24, List.map_cons, List.map_nil]
        exact hn
      have hs : s.size ≤ reachBytes := hr2 s.size (by
        have : s.data.toList.length = s.size := by rw [Array.length_toList]; rfl
        simp only [DataW.weightsEach, DataW.weights, ← this]; simp)
      have r3 : Reach 22 y3.1 := fun n hn => hr2 n (by simp only [DataW.weightsEach, DataW.weights]; simp [hn])
      rcases DataW.trod_slice Try.underlying22 g3 with ⟨e3, rfl⟩ | ⟨a, len, cap, elems, rest, n', rfl, e3, rfl, hb, hl, hm, hlen, hel, hsp, _⟩
      · simp only [List.cons.injEq, and_true] at e3
        subst e3
        exact ⟨.mk k m s none 0 [], rfl, VT.In.mk (i64_range w0) (i64_range w1) (by simpa [VT.str, reachBytes] using hs) (by simp [VT.els]) (by simp [VT.els]) (by intro i h; simp [VT.els] at h)⟩
      · simp only [List.cons.injEq, and_true] at e3
        subst e3
        have hw : (len + rest.length) * 56 ≤ reachBytes := r3 _ (by simp only [DataW.weights, Try.underlying22, Try.bytes24, List.length_map, hlen]; simp)
        have each : ∀ i, i < len → ∃ t : VT, (∃ cs', w.cells? base (a.add (i * 4)) 4 = some cs' ∧ cs' = [.int .i64 t.kind, .int .i64 t.num, .string t.str, t.sl]) ∧ t.In w := by
          intro i hi
          have h1 := hel i hi
          rw [Try.cells24] at h1
          have hlt : i < elems.length := by omega
          rw [List.getElem?_eq_getElem hlt] at h1
          obtain ⟨cs', h2, h3⟩ := Option.bind_eq_some_iff.1 h1
          obtain ⟨t, ht, hin⟩ := ih n' (by omega) cs' _ h3 (fun q hq => r3 q (by
            simp only [DataW.weights, Try.underlying22, List.mem_cons, List.mem_append]
            exact .inr (.inl (mem_weightsAll (List.mem_map.2 ⟨_, List.getElem_mem hlt, rfl⟩) hq))))
          exact ⟨t, ⟨cs', h2, ht⟩, hin⟩
        have hlen2 : ∃ els : List VT, els.length = len ∧ ∀ i (h : i < els.length), (∃ cs', w.cells? base (a.add (i * 4)) 4 = some cs' ∧ cs' = [.int .i64 (els[i]).kind, .int .i64 (els[i]).num, .string (els[i]).str, (els[i]).sl]) ∧ (els[i]).In w := by
          have : ∀ m, m ≤ len → ∃ els : List VT, els.length = m ∧ ∀ i (h : i < els.length), (∃ cs', w.cells? base (a.add (i * 4)) 4 = some cs' ∧ cs' = [.int .i64 (els[i]).kind, .int .i64 (els[i]).num, .string (els[i]).str, (els[i]).sl]) ∧ (els[i]).In w := by
            intro m
            induction m with
            | zero => exact fun _ => ⟨[], rfl, fun i h => by simp at h⟩
            | succ m ihm =>
              intro hm
              obtain ⟨els, hl1, hl2⟩ := ihm (by omega)
              obtain ⟨t, ht⟩ := each m (by omega)
              refine ⟨els ++ [t], by simp [hl1], fun i hi => ?_⟩
              by_cases he : i < els.length
              · rw [List.getElem_append_left he]; exact hl2 i he
              · obtain rfl : i = els.length := by simp at hi; omega
                simp only [List.getElem_append_right (Nat.le_refl _), Nat.sub_self, List.getElem_cons_zero]
                rw [hl1]; exact ht
          exact this len (Nat.le_refl _)
        obtain ⟨els, hel1, hel2⟩ := hlen2
        have hw2 : els.length * 48 ≤ 140737488351232 := by unfold reachBytes at hw; omega
        refine ⟨.mk k m s (some a) cap els, by rw [← hel1]; rfl, VT.In.mk (i64_range w0) (i64_range w1) (by simpa [VT.str, reachBytes] using hs) hw2 ?_ ?_⟩
        · intro hne
          have h0 : 0 < els.length := List.length_pos_iff.2 hne
          obtain ⟨⟨cs', hc, _⟩, _⟩ := hel2 0 h0
          obtain ⟨_, hcl, hat⟩ := World.cells?_some hc
          have h1 := hat 0 (by omega)
          rw [List.getElem?_eq_getElem (by omega)] at h1
          obtain ⟨b, o, sp⟩ := a
          have hsp : sp = none := by simpa [Addr.add] using World.cell?_spot h1
          exact ⟨b, o, by rw [hsp]; rfl⟩
        · intro i hi b o he
          simp only [VT.adr, Option.some.injEq] at he
          subst he
          obtain ⟨⟨cs', hc, hcs⟩, hin⟩ := hel2 i hi
          obtain ⟨_, hcl, hat⟩ := World.cells?_some hc
          subst hcs
          have hadd : ∀ x y : Nat, ((⟨b, o, none⟩ : Addr).add x).add y = ⟨b, o + x + y, none⟩ := by
            intro x y
            unfold Addr.add
            split <;> split <;> simp_all
          refine ⟨⟨?_, ?_, ?_, ?_⟩, hin⟩
          · have := hat 0 (by omega); rw [hadd] at this; simp at this; exact this
          · have := hat 1 (by omega); rw [hadd] at this; simp at this; exact this
          · have := hat 2 (by omega); rw [hadd] at this; simp at this; exact this
          · have := hat 3 (by omega); rw [hadd] at this; simp at this; exact this
end
end Go.Proofs.Ytccdencaidopnaa
