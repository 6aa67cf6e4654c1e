
/- Write of the program. -/
import Derived.Test.YtgigccgklahddaaStp
import Derived.ArgAppend
import Derived.Deep.AppendLies
namespace Go.Proofs.Ytgigccgklahddaa
open Go.RowKit
variable {n0 : Nat}

/-- A row that a call owns: its block. -/
theorem own_blk {w : World} {base e size n cap g : Nat} {xs : List Value} (h : w.ownsRow base e size (.slice (some ⟨g, 0, none⟩) n cap) n xs) : ∃ cs, Blk w g e (xs ++ cs) := by
  rcases h.2 with ⟨h0, h1⟩ | ⟨g', cap', cur, hv, hb, hg, h3, h4, h5, h6⟩
  · cases h0
  · obtain rfl : g = g' := by
      injection hv with h1 _ h2
      injection h1 with h1
      injection h1
    refine ⟨cur.toList.drop (n * size), ?_⟩
    unfold Blk
    rw [hg, ← h6, List.take_append_drop]
theorem Blk.cels {w : World} {g e : Nat} {xs cs : List Value} (h : Blk w g e (xs ++ cs)) (hT : e = 5 ∨ e = 35 ∨ e = 77) : Cels n0 w (some ⟨g, 0, none⟩) xs := fun _ =>
  ⟨g, 0, rfl, h.lt, h.okb hT, fun i hi => by rw [Nat.zero_add, h.cell, List.getElem?_append_left hi, List.getElem?_eq_getElem hi]⟩
theorem own_caps {w : World} {base e size n cap : Nat} {A : Option Addr} {xs : List Value} (h : w.ownsRow base e size (.slice A n cap) n xs) : n ≤ cap ∧ cap ≤ 9223372036854775807 := by
  rcases h.2 with ⟨h0, h1⟩ | ⟨g, cap', cur, hv, hb, hg, h3, h4, _⟩
  · injection h0 with _ _ h2
    omega
  · injection hv with _ _ h2
    unfold maxLen at h4
    omega
theorem Cels.opt {W : World} {A : Option Addr} {vs : List Value} (h : Cels n0 W A vs) : ∀ b, A = some b → ∀ j u, vs[j]? = some u → W.cell? (b.add j) = some u := fun b e j u hu => by
  obtain ⟨hj, rfl⟩ := List.getElem?_eq_some_iff.1 hu
  obtain ⟨b', o, e', hlt, hc⟩ := h.at hj
  subst e
  simp only [Option.some.injEq] at e'
  subst e'
  rw [Addr.add_mid]
  exact hc j hj

theorem Try.info77 : (Try.prog.info? 77).map (fun i => (i.zero, i.size, i.bytes)) = some (some (.agg #[.int .i64 0, .slice none 0 0]), 2, 32) := by kernel_rfl
theorem hinfo77 : ∃ i0, Try.prog.info? 77 = some i0 ∧ i0.zero = some (.agg #[.int .i64 0, .slice none 0 0]) ∧ i0.size = 2 ∧ i0.bytes = 32 := by
  obtain ⟨i0, hi, hz0, hz1, hz2⟩ := info_parts Try.info77
  exact ⟨i0, hi, hz0, hz1, hz2⟩

set_option maxRecDepth 10000 in
theorem clip_any (A : Option Addr) (n cap : Nat) (w : World) (h : n ≤ cap) (hc : cap ≤ 9223372036854775807) (hA : A = none → n = 0 ∧ cap = 0) :
    Calls Try.prog 53 #[.slice A n cap] w fun e w' => e = .returned (.slice A n n) ∧ w = w' := by
  cases A with
  | none =>
    obtain ⟨rfl, rfl⟩ := hA rfl
    go_enter Try.func53, Try.ntmps53
    go_wp2_with fail
    go_ret
    exact ⟨rfl, rfl⟩
  | some a =>
    go_enter Try.func53, Try.ntmps53
    go_wp2_with fail
    go_ret
    exact ⟨rfl, rfl⟩
end Go.Proofs.Ytgigccgklahddaa
