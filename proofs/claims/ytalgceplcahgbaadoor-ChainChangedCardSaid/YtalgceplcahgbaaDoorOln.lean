/- Arguments: one link, one byte. -/
import Derived.Test.YtalgceplcahgbaaDoorOpn
namespace Go.Proofs.YtalgceplcahgbaaDoor
open Go.RowKit Go.WideShapes Go.ChangeShapes Go.ChangeAt Go.Deep Go.ChangeMaps Go.Joins
section
variable {H : Type} {enc : TypeId × Value → H} {W : World}
set_option maxRecDepth 20000 in
/-- An argument of type api.Link. -/
theorem open_link1 {v : Value} {d : DataW H} {ps : List MemPlace} {base : Nat} (hok : Value.okWide Tryd.prog W .any base 60 v) (h : DataW.Trod enc Tryd.prog W 0 (fun _ => true) true 60 v d ps) : ∃ r : Lr, v = r.v ∧ r.In W := by
  obtain ⟨cs, rfl, _⟩ := okWide_struct Tryd.underlying60 hok
  obtain ⟨n, hn⟩ := h
  obtain ⟨y, e, hin⟩ := open_link hn
  refine ⟨y.1, ?_, hin⟩
  simp only [Value.cells] at e
  simp [Lr.v, ← e]
set_option maxRecDepth 20000 in
/-- An argument of type uint8. -/
theorem open_u8 {v : Value} {d : DataW H} {ps : List MemPlace} {base : Nat} (hok : Value.okWide Tryd.prog W .any base 5 v) (h : DataW.Trod enc Tryd.prog W 0 (fun _ => true) true 5 v d ps) : ∃ c : UInt8, v = .int .u8 ((c.toNat : Nat) : Int) := by
  obtain ⟨x, rfl, -, -, w0⟩ := open_int Tryd.underlying5 hok h
  obtain ⟨h1, h2⟩ := u8_range w0
  refine ⟨UInt8.ofNat x.toNat, ?_⟩
  simp
  omega
end
end Go.Proofs.YtalgceplcahgbaaDoor
