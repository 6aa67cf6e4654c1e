/- Arguments that are lists of data. -/
import Derived.Test.YtalgceplcahgbaaDoorOpn
import Derived.Test.YtalgceplcahgbaaDoorBlt
namespace Go.Proofs.YtalgceplcahgbaaDoor
open Go.RowKit Go.WideShapes Go.ChangeShapes Go.ChangeAt Go.Deep Go.ChangeMaps Go.Joins
section
variable {H : Type} {enc : TypeId × Value → H} {W : World}
theorem flat_dts (l : List Dt) : l.flatMap (fun x : Dt => [Value.slice x.A x.l.length x.cap]) = l.map fun x => Value.slice x.A x.l.length x.cap := by
  induction l with
  | nil => rfl
  | cons c l ih => rw [List.flatMap_cons, ih]; rfl
set_option maxRecDepth 20000 in
/-- An argument of type [][]byte. -/
theorem open_dts {v : Value} {d : DataW H} {ps : List MemPlace} {base : Nat} (hok : Value.okWide Tryd.prog W .any base 24 v) (h : DataW.Trod enc Tryd.prog W 0 (fun _ => true) true 24 v d ps) :
    ∃ (PA : Option Addr) (pl : List Dt) (cap : Nat), v = .slice PA pl.length cap ∧ DtsIn W PA pl ∧ pl.length ≤ cap ∧ cap ≤ 9223372036854775807 := by
  obtain ⟨a0, len0, cap0, rfl⟩ := okWide_slice Tryd.underlying24 hok
  obtain ⟨n, hn⟩ := h
  obtain ⟨A, l, cap, e, hc, hq, hl, hm, hnn⟩ := open_list (fun x : Dt => [.slice x.A x.l.length x.cap]) (fun x => Src W x.A x.l.length x.cap x.l ∧ x.l.length ≤ x.cap ∧ x.cap ≤ 9223372036854775807) 24 22 1 (by decide) Tryd.underlying24 Tryd.cells22 (fun _ => rfl) (fun fuel cs x h => by
    obtain ⟨A, l, cap, rfl, h1, h2, h3⟩ := open_data h
    exact ⟨⟨A, l, cap⟩, rfl, h1, h2, h3⟩) hn
  simp only [Value.cells, List.cons.injEq, Value.slice.injEq, and_true] at e
  obtain ⟨rfl, rfl, rfl⟩ := e
  refine ⟨a0, l, cap0, rfl, ⟨fun k hk => ?_, fun x hx => (hq x hx).1, fun x hx => (hq x hx).2⟩, hl, hm⟩
  rw [flat_dts] at hc
  obtain ⟨b, o, e, hlt, hcc⟩ := hc (by intro h; have hh : l = [] := List.map_eq_nil_iff.1 h; rw [hh] at hk; simp at hk)
  exact ⟨b, o, e, hlt, hcc k _ (by simp [hk])⟩
end
end Go.Proofs.YtalgceplcahgbaaDoor
