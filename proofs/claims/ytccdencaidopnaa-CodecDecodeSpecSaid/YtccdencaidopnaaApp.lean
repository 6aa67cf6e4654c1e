/- appendNumeral of the program appends the numeral's digits to a slice of the call's own. -/
import Derived.Test.YtccdencaidopnaaBase
import Derived.Deep.AppendLies
namespace Go.Proofs.Ytccdencaidopnaa
open Go.RowKit

/-- Bytes as cells. -/
def bs (l : List UInt8) : List Value := l.map fun c => .int .u8 c.toNat
theorem bs_append (a b : List UInt8) : bs (a ++ b) = bs a ++ bs b := by simp [bs]
theorem bs_length (a : List UInt8) : (bs a).length = a.length := by simp [bs]

/-- What was there below 'B', and every block of another type than bytes, is as it was. -/
structure Keeps (B : Nat) (w w' : World) : Prop where
  below : Below B w w'
  other : ∀ (b : Nat) (cs : Array Value) (T : TypeId), T ≠ 5 → w.heap[b]? = some (Obj.cells cs T (0, 0)) → w'.heap[b]? = some (Obj.cells cs T (0, 0))

theorem Keeps.refl (B : Nat) (w : World) : Keeps B w w := ⟨Below.refl _ _, fun _ _ _ _ h => h⟩
theorem Keeps.trans {B : Nat} {a b c : World} (h : Keeps B a b) (k : Keeps B b c) : Keeps B a c := ⟨h.below.trans k.below, fun x cs T hT hx => k.other x cs T hT (h.other x cs T hT hx)⟩
theorem Keeps.alloc {B : Nat} {a w : World} (h : Keeps B a w) (hB : B ≤ w.heap.size) (o : Obj) : Keeps B a (w.alloc o) :=
  ⟨h.below.alloc hB o, fun x cs T hT hx => by
    have h1 := h.other x cs T hT hx
    rw [Below.heap_alloc _ _ _ (Array.getElem?_eq_some_iff.1 h1).1]; exact h1⟩
theorem Keeps.drew {B : Nat} {a w : World} (h : Keeps B a w) : Keeps B a w.drew := ⟨h.below.drew, h.other⟩
theorem Keeps.drewN {B : Nat} {a w : World} (h : Keeps B a w) (n : Nat) : Keeps B a (w.drewN n) := ⟨below_drewN h.below n, h.other⟩
theorem Keeps.grown {B base : Nat} {a w w' : World} {v : Value} {n : Nat} {xs : List Value} (h : Keeps B a w) (hown : w.ownsRow base 5 1 v n xs) (hb : B ≤ base) (hg : w.grownBy w' v.ownBlock) (hB : B ≤ w.heap.size) : Keeps B a w' := by
  refine ⟨h.below.grown hg hB (fun k hk => Nat.le_trans hb (hown.lt k hk).1), fun x cs T hT hx => ?_⟩
  have h1 := h.other x cs T hT hx
  have hx' := (Array.getElem?_eq_some_iff.1 h1).1
  rw [hg.block x hx' ?_]
  · exact h1
  · intro e
    rcases hown.2 with ⟨rfl, _⟩ | ⟨g, cap, cur, rfl, _, hgg, _⟩
    · simp [Value.ownBlock] at e
    · simp [Value.ownBlock] at e
      subst e
      rw [h1] at hgg
      injection hgg with hgg
      injection hgg with _ h2
      exact hT h2

theorem Try.info5 : (Try.prog.info? 5).map (fun i => (i.zero, i.size, i.bytes)) = some (some (.int .u8 0), 1, 1) := by kernel_rfl

/-- The numeral is what is appended so far and the digits to come. -/
def Part (u : Nat) (d : List UInt8) (u' : Nat) : Prop := ∃ f, f ≤ 9 ∧ u' < 128 ^ (f + 1) ∧ numeral u = d ++ digs f u' ∧ d.length + f ≤ 9

theorem Part.start {u : Nat} (h : u < 18446744073709551616) : Part u [] u := ⟨9, Nat.le_refl _, by omega, rfl, by simp⟩
theorem Part.step {u u' : Nat} {d : List UInt8} (h : Part u d u') (hu : 128 ≤ u') : Part u (d ++ [UInt8.ofNat (u' % 128 + 128)]) (u' / 128) := by
  obtain ⟨f, hf, hl, he, hd⟩ := h
  cases f with
  | zero => simp at hl; omega
  | succ f =>
    refine ⟨f, by omega, by rw [Nat.div_lt_iff_lt_mul (by omega)]; rw [Nat.pow_succ] at hl; exact hl, ?_, by simp; omega⟩
    rw [he, digs, if_neg (by omega)]
    simp
theorem Part.last {u u' : Nat} {d : List UInt8} (h : Part u d u') (hu : u' < 128) : numeral u = d ++ [UInt8.ofNat u'] := by
  obtain ⟨f, hf, hl, he, hd⟩ := h
  cases f with
  | zero => exact he
  | succ f => rw [he, digs, if_pos hu]
theorem Part.len {u u' : Nat} {d : List UInt8} (h : Part u d u') : d.length ≤ 9 := by
  obtain ⟨f, hf, hl, he, hd⟩ := h
  omega

theorem byte_of (n : Nat) (h : n < 256) : Value.int .u8 (n : Int) = .int .u8 ((UInt8.ofNat n).toNat : Nat) := by
  rw [UInt8.toNat_ofNat_of_lt' (by simpa using h)]

def AppPost (base n : Nat) (xs : List UInt8) (ys : List UInt8) (w : World) (e : Ending) (w' : World) : Prop :=
  ∃ g cap, e = .returned (.slice (some ⟨g, 0, none⟩) (n + ys.length) cap) ∧ w'.ownsRow base 5 1 (.slice (some ⟨g, 0, none⟩) (n + ys.length) cap) (n + ys.length) (bs (xs ++ ys)) ∧ Keeps base w w'

set_option maxHeartbeats 800000 in
set_option maxRecDepth 10000 in
theorem appendNumeral_any (base n : Nat) (v : Value) (xs : List UInt8) (u : Nat) (w : World) (hu : u < 18446744073709551616) (hbase : base ≤ w.heap.size) (hn : n ≤ 8589934592)
    (hown : w.ownsRow base 5 1 v n (bs xs)) : Calls Try.prog 55 #[v, .int .u64 u] w (AppPost base n xs (numeral u) w) := by
  obtain ⟨i0, hi, hz0, hz1, hz2⟩ := info_parts Try.info5
  have HI := hide (And.intro hi (And.intro hz0 (And.intro hz1 hz2)))
  clear hi hz0 hz1 hz2
  go_enter Try.func55, Try.ntmps55
  go_wp2_with fail
  go_loopw [0, 1] (fun v' x wr => ∃ (u' : Nat) (d : List UInt8), u' < 18446744073709551616 ∧ x = .int .u64 u' ∧ Part u d u' ∧ wr.ownsRow base 5 1 v' (n + d.length) (bs (xs ++ d)) ∧ Keeps base w wr) (fun _ x _ => (intOf x).toNat)
  case atStart => exact ⟨u, [], hu, rfl, Part.start hu, by simpa using hown, Keeps.refl _ _⟩
  case round =>
    obtain ⟨u', d, hu', rfl, hpart, hown', hkeep⟩ := hrel
    have hdl := hpart.len
    have hsz := hkeep.below.size
    by_cases hlt : 128 ≤ u'
    · have hstep := hide (hpart.step hlt)
      have hbyte : Value.int .u8 ((u' : Int) % 128 + 128) = .int .u8 ((UInt8.ofNat (u' % 128 + 128)).toNat : Nat) := by rw [← byte_of _ (by omega)]; congr 1
      have HB := hide hbyte
      clear hbyte
      go_wp2_with (at_builtin; refine wpList_append_own _ rfl _ _ 27 rfl base 5 i0 (.int .u8 0) 1 1 Try.underlying27 HI.out.1 HI.out.2.1 HI.out.2.2.1 HI.out.2.2.2 rfl (by decide) _ _ _ rfl (hown'.alloc _) ⟨wr.heap.size, 0, none⟩ 1 1 [.int .u8 ((u' : Int) % 128 + 128)] rfl rfl (cell_one_new _ _ _) (by simp [Value.oneCell']) (by unfold maxLen; omega) (by omega) (by simp; omega) ?_; intro v1 w1 hown1 hg1 _)
      refine ⟨⟨u' / 128, _, by omega, by simp, hstep.out, ?_, ?_⟩, ?_⟩
      · rw [HB.out] at hown1
        rw [← List.append_assoc, bs_append, List.length_append, ← Nat.add_assoc]
        exact hown1
      · exact (hkeep.alloc (by omega) _).grown (hown'.alloc _) (Nat.le_refl _) hg1 (by simp; omega)
      · simp [intOf]; omega
    · have hlast := hide (hpart.last (by omega))
      have HB := hide (byte_of u' (by omega))
      have hlt2 : u' < 128 := by omega
      go_wp2_with (at_builtin; refine wpList_append_own _ rfl _ _ 27 rfl base 5 i0 (.int .u8 0) 1 1 Try.underlying27 HI.out.1 HI.out.2.1 HI.out.2.2.1 HI.out.2.2.2 rfl (by decide) _ _ _ rfl (hown'.alloc _) ⟨wr.heap.size, 0, none⟩ 1 1 [.int .u8 (u' : Int)] rfl rfl (cell_one_new _ _ _) (by simp [Value.oneCell']) (by unfold maxLen; omega) (by omega) (by simp; omega) ?_; intro v1 w1 hown1 hg1 _)
      go_ret
      obtain ⟨g, cap, rfl, _, _⟩ := hown1.form (by omega)
      have hl : n + (numeral u).length = n + d.length + 1 := by rw [hlast.out, List.length_append]; rfl
      refine ⟨g, cap, by rw [hl]; rfl, ?_, ?_⟩
      · rw [HB.out] at hown1
        rw [hl, hlast.out, ← List.append_assoc, bs_append]
        exact hown1
      · exact (hkeep.alloc (by omega) _).grown (hown'.alloc _) (Nat.le_refl _) hg1 (by simp; omega)
end Go.Proofs.Ytccdencaidopnaa
