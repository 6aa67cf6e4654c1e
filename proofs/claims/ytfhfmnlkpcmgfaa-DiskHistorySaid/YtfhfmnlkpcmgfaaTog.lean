/- Acts in memory, and what they do to a disk. -/
import Derived.Test.YtfhfmnlkpcmgfaaOpn
import Derived.Test.YtfhfmnlkpcmgfaaPur
namespace Go.Proofs.Ytfhfmnlkpcmgfaa
open Go.RowKit Go.WideShapes Go.ChangeShapes Go.ChangeAt Go.Deep Go.ChangeMaps Go.Joins

structure Ac where
  syn : Bool
  pos : UInt8
  byte : UInt8
abbrev Ac.cs (a : Ac) : List Value := [.bool a.syn, .int .u8 (a.pos.toNat : Nat), .int .u8 (a.byte.toNat : Nat)]
def acs (l : List Ac) : List Value := l.flatMap Ac.cs
theorem acs_len (l : List Ac) : (acs l).length = l.length * 3 := flat_len Ac.cs 3 (fun _ => rfl) l
theorem acs_get (l : List Ac) (k r : Nat) (h : k < l.length) (hr : r < 3) : (acs l)[k * 3 + r]? = (l[k].cs)[r]? := flat_get Ac.cs 3 (fun _ => rfl) l k r h hr
/-- A list of acts in memory. -/
structure Acs (n0 : Nat) (A : Option Addr) (l : List Ac) (cap : Nat) (W : World) : Prop where
  cels : Cels n0 W A (acs l)
  le : l.length ≤ cap
  top : cap ≤ 9223372036854775807
theorem Acs.below {n0 : Nat} {W W' : World} {A : Option Addr} {l : List Ac} {cap : Nat} (h : Acs n0 A l cap W) (hb : Below W.heap.size W W') : Acs n0 A l cap W' := ⟨h.cels.below hb, h.le, h.top⟩
theorem Acs.at {n0 : Nat} {W : World} {A : Option Addr} {l : List Ac} {cap : Nat} (h : Acs n0 A l cap W) {k : Nat} (hk : k < l.length) : ∃ b o, A = some ⟨b, o, none⟩ ∧ b < W.heap.size ∧ W.cell? ⟨b, o + k * 3, none⟩ = some (.bool l[k].syn) ∧ W.cell? ⟨b, o + k * 3 + 1, none⟩ = some (.int .u8 (l[k].pos.toNat : Nat)) ∧ W.cell? ⟨b, o + k * 3 + 2, none⟩ = some (.int .u8 (l[k].byte.toNat : Nat)) := by
  have hl : k * 3 + 2 < (acs l).length := by rw [acs_len]; omega
  obtain ⟨b, o, e, hb, hc⟩ := h.cels.at hl
  have g : ∀ r, r < 3 → W.cell? ⟨b, o + (k * 3 + r), none⟩ = (l[k].cs)[r]? := fun r hr => by
    rw [hc (k * 3 + r) (by omega), ← acs_get l k r hk hr, List.getElem?_eq_getElem (by omega)]
  exact ⟨b, o, e, hb, g 0 (by decide), g 1 (by decide), g 2 (by decide)⟩
/-- An argument of type []Act. -/
theorem open_acts {H : Type} {enc : TypeId × Value → H} {W : World} {base : Nat} {v : Value} {d : DataW H} {p : List MemPlace} (hok : Value.okWide Try.prog W .any base 43 v) (h : DataW.Trod enc Try.prog W 0 (fun _ => true) true 43 v d p) (hr : Reach 43 d) :
    ∃ A l cap, v = .slice A l.length cap ∧ Acs W.heap.size A l cap W := by
  obtain ⟨a0, len0, cap0, rfl⟩ := okWide_slice Try.underlying43 hok
  obtain ⟨n, hn⟩ := h
  obtain ⟨A, l, cap, e, hc, -, hl, hm, -, -⟩ := open_list Ac.cs (fun _ => True) 43 46 3 (by decide) Try.underlying43 Try.cells46 (fun _ => rfl) (fun fuel cs x h _ => by
    obtain ⟨xs, n, rfl, rfl, hlen, hxl, hf⟩ := DataW.trod_struct Try.underlying46 h
    rw [Try.cells46] at hlen
    match xs, hxl, cs, hlen with
    | [y0, y1, y2], _, [v0, v1, v2], _ =>
      have g0 := hf 0 _ rfl
      have g1 := hf 1 _ rfl
      have g2 := hf 2 _ rfl
      simp [Try.cells4, Try.cells5] at g0 g1 g2
      obtain ⟨s, e0, _⟩ := DataW.trod_bool Try.underlying4 g0
      obtain ⟨k, e1, _, w1⟩ := DataW.trod_int Try.underlying5 g1
      obtain ⟨m, e2, _, w2⟩ := DataW.trod_int Try.underlying5 g2
      obtain ⟨p1, p2⟩ := u8_range w1
      obtain ⟨r1, r2⟩ := u8_range w2
      simp only [List.cons.injEq, and_true] at e0 e1 e2
      subst e0 e1 e2
      refine ⟨⟨s, UInt8.ofNat k.toNat, UInt8.ofNat m.toNat⟩, ?_, trivial⟩
      simp
      omega) hn hr
  simp only [Value.cells, List.cons.injEq, and_true] at e
  exact ⟨A, l, cap, e, hc, hl, hm⟩

/-- The writes of a script on a disk of n sectors. -/
def wl (n : Nat) (l : List Ac) : List (Int × List UInt8) := l.map fun a => (((a.pos.toNat % n : Nat) : Int), padS [a.byte])
theorem wl_len (n : Nat) (l : List Ac) : (wl n l).length = l.length := by simp [wl]
theorem wl_more (n : Nat) (l : List Ac) {k : Nat} (h : k < l.length) : (wl n l).take (k + 1) = (wl n l).take k ++ [(((l[k].pos.toNat % n : Nat) : Int), padS [l[k].byte])] := by
  rw [List.take_add_one, List.getElem?_eq_getElem (by rw [wl_len]; exact h)]
  simp [wl]
theorem wl_ok {n : Nat} (hn : 0 < n) (l : List Ac) : ∀ p ∈ wl n l, 0 ≤ p.1 ∧ p.1 < n ∧ p.2.length = 128 := by
  intro p hp
  obtain ⟨a, -, rfl⟩ := List.mem_map.1 hp
  have := Nat.mod_lt a.pos.toNat hn
  exact ⟨by simp only; omega, by simp only; omega, padS_len _⟩
abbrev Dk.put (D : Dk) (p : List (Int × List UInt8)) : Dk := ⟨D.sec, p, D.left, D.stp⟩
abbrev Dk.did (D : Dk) (p : List (Int × List UInt8)) : Dk := ⟨perf D.sec p, [], if D.left = -1 then -1 else D.left - p.length, false⟩
section
variable {D : Dk}
theorem put_runs {p : List (Int × List UInt8)} (hr : D.runs = true) (hp : ∀ x ∈ p, 0 ≤ x.1 ∧ x.1 < D.sec.length ∧ x.2.length = 128) (hl : p.length ≤ 4096) : (D.put p).runs = true := by
  rw [runs_iff] at hr ⊢
  obtain ⟨h1, h2, -, h5⟩ := hr
  exact ⟨h1, h2, ⟨hl, fun i hi => hp _ (List.getElem_mem hi)⟩, h5⟩
theorem put_sync {p : List (Int × List UInt8)} (hr : (D.put p).runs = true) (h : D.left = -1 ∨ (p.length : Int) ≤ D.left) : (D.put p).sync = (D.did p, 0) := sync_all hr h
theorem did_runs {p : List (Int × List UInt8)} (hr : (D.put p).runs = true) (h : D.left = -1 ∨ (p.length : Int) ≤ D.left) : (D.did p).runs = true := by
  have := sync_runs hr h
  rwa [put_sync hr h] at this
/-- How far the writes that are synced one by one have come. -/
def St (D : Dk) (l : List Ac) (k : Nat) (n : Int) (X : Dk) : Prop :=
  (n = 0 ∧ X = D.did ((wl D.sec.length l).take k) ∧ (D.left = -1 ∨ (k : Int) ≤ D.left)) ∨ (n = 40 ∧ (D.put (wl D.sec.length l)).sync = (X, 40))
theorem sec_pos (hr : D.runs = true) : 0 < D.sec.length := (runs_iff.1 hr).2.1.1.1
theorem take_ok (hr : D.runs = true) (l : List Ac) (k : Nat) : ∀ p ∈ (wl D.sec.length l).take k, 0 ≤ p.1 ∧ p.1 < D.sec.length ∧ p.2.length = 128 := fun p hp => wl_ok (sec_pos hr) l p (List.mem_of_mem_take hp)
theorem at_has (hr : D.runs = true) (a : Ac) : 0 ≤ ((a.pos.toNat % D.sec.length : Nat) : Int) ∧ ((a.pos.toNat % D.sec.length : Nat) : Int) < D.sec.length := by
  have := Nat.mod_lt a.pos.toNat (sec_pos hr)
  omega
theorem step_y {l : List Ac} {k : Nat} (hr : D.runs = true) (hk : k < l.length) (hl : l.length ≤ 20) : (D.put ((wl D.sec.length l).take k)).write ((l[k].pos.toNat % D.sec.length : Nat) : Int) [l[k].byte] = (D.put ((wl D.sec.length l).take (k + 1)), 0) := by
  have hl2 : ((wl D.sec.length l).take k).length = k := by rw [List.length_take, wl_len]; omega
  rw [write_ok (put_runs hr (take_ok hr l k) (by omega)) (dhas_iff.2 (at_has hr l[k])) (by simp) (by show ((wl D.sec.length l).take k).length ≠ 4096; omega)]
  rw [wl_more _ _ hk]
theorem step_x {l : List Ac} {k : Nat} (hr : D.runs = true) (hk : k < l.length) (hl : l.length ≤ 20) (hle : D.left = -1 ∨ (k : Int) ≤ D.left) :
    ∃ Y X' n, (D.did ((wl D.sec.length l).take k)).write ((l[k].pos.toNat % D.sec.length : Nat) : Int) [l[k].byte] = (Y, 0) ∧ Y.sync = (X', n) ∧ St D l (k + 1) n X' := by
  have hl2 : ((wl D.sec.length l).take k).length = k := by rw [List.length_take, wl_len]; omega
  have hl3 : ((wl D.sec.length l).take (k + 1)).length = k + 1 := by rw [List.length_take, wl_len]; omega
  have r1 := did_runs (put_runs hr (take_ok hr l k) (by omega)) (by rw [hl2]; exact hle)
  have hh : (D.did ((wl D.sec.length l).take k)).has ((l[k].pos.toNat % D.sec.length : Nat) : Int) = true := dhas_iff.2 (by rw [perf_len]; exact at_has hr l[k])
  have r2 := plus_runs (b := [l[k].byte]) r1 hh (by simp)
  obtain ⟨X', n, hq⟩ : ∃ X' n, ((D.did ((wl D.sec.length l).take k)).plus ((l[k].pos.toNat % D.sec.length : Nat) : Int) [l[k].byte]).sync = (X', n) := ⟨_, _, rfl⟩
  refine ⟨_, X', n, write_ok r1 hh (by simp) (by simp), hq, ?_⟩
  by_cases hst : D.left ≠ -1 ∧ D.left = k
  · have e1 : (if D.left = -1 then (-1 : Int) else D.left - ((wl D.sec.length l).take k).length) = 0 := by rw [if_neg hst.1, hl2]; omega
    have hp : (D.put (wl D.sec.length l)).runs = true := put_runs hr (wl_ok (sec_pos hr) l) (by rw [wl_len]; omega)
    have e2 := sync_not hp (show D.left ≠ -1 ∧ D.left < ((wl D.sec.length l).length : Int) by rw [wl_len]; omega)
    have e3 := sync_not r2 (by show (if D.left = -1 then (-1 : Int) else _) ≠ -1 ∧ (if D.left = -1 then (-1 : Int) else _) < _; rw [e1]; simp)
    have e4 : (wl D.sec.length l).getD k (0, []) = (((l[k].pos.toNat % D.sec.length : Nat) : Int), padS [l[k].byte]) := by
      rw [List.getD_eq_getElem?_getD, List.getElem?_eq_getElem (by rw [wl_len]; exact hk)]
      simp [wl]
    have e5 : ((D.did ((wl D.sec.length l).take k)).plus ((l[k].pos.toNat % D.sec.length : Nat) : Int) [l[k].byte]).sync = (D.put (wl D.sec.length l)).sync := by
      rw [e2, e3]
      simp only [e1]
      have e6 : D.left.toNat = k := by omega
      simp only [e6, e4]
      rfl
    rw [e5, e2] at hq
    cases hq
    exact .inr ⟨rfl, e2⟩
  · have h1 : D.left = -1 ∨ ((k + 1 : Nat) : Int) ≤ D.left := by omega
    have e3 := sync_all r2 (by
      show (if D.left = -1 then (-1 : Int) else _) = -1 ∨ _ ≤ (if D.left = -1 then (-1 : Int) else _)
      rw [hl2]
      split
      · exact .inl rfl
      · right; simp; omega)
    rw [e3] at hq
    cases hq
    refine .inl ⟨rfl, ?_, h1⟩
    simp only [Dk.did, hl2, wl_more _ _ hk, Dk.mk.injEq, and_true, true_and, List.nil_append]
    refine ⟨?_, ?_⟩
    · unfold perf; rw [List.foldl_append]
    · by_cases h2 : D.left = -1
      · simp [h2]
      · rw [if_neg h2, if_neg (by omega), if_neg h2]
        simp only [List.length_append, hl2, List.length_cons, List.length_nil]
        omega
theorem st_end {l : List Ac} {n : Int} {X : Dk} (hr : D.runs = true) (hl : l.length ≤ 20) (h : St D l l.length n X ∨ (n ≠ 0 ∧ ∃ k, St D l k n X)) : (D.put (wl D.sec.length l)).sync = (X, n) := by
  have key : ∀ k, n ≠ 0 → St D l k n X → (D.put (wl D.sec.length l)).sync = (X, n) := fun k hn h2 => by
    rcases h2 with ⟨h2, _⟩ | ⟨h3, h2⟩
    · exact absurd h2 hn
    · rw [h3]; exact h2
  rcases h with h | ⟨hn, k, h⟩
  · by_cases hn : n = 0
    · rcases h with ⟨rfl, h, hle⟩ | ⟨rfl, _⟩
      · rw [List.take_of_length_le (by rw [wl_len]; exact Nat.le_refl _)] at h
        rw [h]
        exact put_sync (put_runs hr (wl_ok (sec_pos hr) l) (by rw [wl_len]; omega)) (by rw [wl_len]; exact hle)
      · omega
    · exact key _ hn h
  · exact key k hn h
theorem st_start (hr : D.runs = true) (hp : D.pen = []) (l : List Ac) : St D l 0 0 D := by
  refine .inl ⟨rfl, ?_, ?_⟩
  · obtain ⟨s, p, f, t⟩ := D
    obtain ⟨h1, -⟩ := runs_iff.1 hr
    simp only at h1 hp
    subst h1 hp
    simp [Dk.did, perf]
  · have := (runs_iff.1 hr).2.2.2
    omega
theorem put_start (hp : D.pen = []) : D = D.put [] := by
  obtain ⟨s, p, f, t⟩ := D
  simp only at hp
  subst hp
  rfl
end
end Go.Proofs.Ytfhfmnlkpcmgfaa
