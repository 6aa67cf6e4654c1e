/- recordsOn: the records on a disk, one by one. -/
import Derived.Test.YtgigccgklahddaaRng
namespace Go.Proofs.Ytgigccgklahddaa
open Go.RowKit
variable {n0 : Nat}
attribute [local go_sem] Oper.semAt_some

/-- The records from a sector on. -/
def recsFrom (ss : List (List UInt8)) : Nat → Nat → Nat → List (List UInt8)
  | 0, _, _ => []
  | f + 1, k, g =>
    if k < ss.length then
      match recB ss k with
      | none => []
      | some (b, h) => if h < g then [] else b :: recsFrom ss f (k + secN b.length) h
    else []
def recordsB (ss : List (List UInt8)) : List (List UInt8) := recsFrom ss ss.length 0 0
theorem recsFrom_end {ss : List (List UInt8)} {f k g : Nat} (h : ss.length ≤ k) : recsFrom ss f k g = [] := by
  cases f with
  | zero => rfl
  | succ f => unfold recsFrom; rw [if_neg (by omega)]
theorem contB_len {ss : List (List UInt8)} {g : Nat} : ∀ (f k : Nat) (acc : List UInt8) {b : List UInt8}, contB ss g f k acc = some b → b.length ≤ acc.length + 112 * f
  | 0, k, acc, b, h => by cases h
  | f + 1, k, acc, b, h => by
    unfold contB at h
    cases hq : readB (ss.getD k []) k with
    | none => rw [hq] at h; cases h
    | some q =>
      rw [hq] at h
      simp only at h
      have hd := readB_len hq
      split at h
      · cases h
      · split at h
        · injection h with h
          subst h
          rw [List.length_append]
          omega
        · have := contB_len f (k + 1) (acc ++ q.data) h
          rw [List.length_append] at this
          omega
theorem recB_len {ss : List (List UInt8)} {k : Nat} {b : List UInt8} {g : Nat} (h : recB ss k = some (b, g)) : b.length ≤ 112 * (ss.length + 1) := by
  unfold recB at h
  cases hq : readB (ss.getD k []) k with
  | none => rw [hq] at h; cases h
  | some p =>
    rw [hq] at h
    simp only at h
    have hd := readB_len hq
    split at h
    · cases h
    · split at h
      · injection h with h
        injection h with h1 h2
        subst h1
        omega
      · cases hc : contB ss p.gen (ss.length - (k + 1)) (k + 1) p.data with
        | none => rw [hc] at h; cases h
        | some b' =>
          rw [hc] at h
          simp only [Option.map_some, Option.some.injEq, Prod.mk.injEq] at h
          have := contB_len _ _ _ hc
          rw [h.1] at this
          have : b.length ≤ 112 + 112 * (ss.length - (k + 1)) := by omega
          omega
theorem recB_gen {ss : List (List UInt8)} {k : Nat} {b : List UInt8} {g : Nat} (h : recB ss k = some (b, g)) : g < 4294967296 := by
  have key : ∀ {s : List UInt8} {p : Piece}, readB s k = some p → p.gen < 4294967296 := fun {s p} hp => by
    unfold readB at hp
    simp only at hp
    split at hp
    · injection hp with hp
      subst hp
      exact n4_lt _ _ _ _
    · cases hp
  unfold recB at h
  cases hq : readB (ss.getD k []) k with
  | none => rw [hq] at h; cases h
  | some p =>
    rw [hq] at h
    simp only at h
    split at h
    · cases h
    · split at h
      · injection h with h
        injection h with h1 h2
        subst h2
        exact key hq
      · cases hc : contB ss p.gen (ss.length - (k + 1)) (k + 1) p.data with
        | none => rw [hc] at h; cases h
        | some b' =>
          rw [hc] at h
          simp only [Option.map_some, Option.some.injEq, Prod.mk.injEq] at h
          rw [← h.2]
          exact key hq
theorem below_one3 {B : Nat} {a w w' : World} (h : Below B a w) (hb : Below B w w') : Below B a w' := h.trans hb
theorem abides_below {β : Type} {B : Nat} {J : β → World → Prop} (h : AbidesFrom B J) {s : β} {W W' : World} (hJ : J s W) (hb : Below W.heap.size W W') : J s W' :=
  h s W W' none hJ ⟨hb.os, hb.tape, hb.output, hb.size, fun i hi _ => hb.block i hi⟩ (fun r e => by cases e)

set_option maxRecDepth 100000 in
set_option maxHeartbeats 3200000 in
theorem recsOn_gives (n : Nat) (_hn : 1 ≤ n) (Bs : Nat) (A : Option Addr) (ss : List Sec) (cap : Nat) (W0 : World) (K : World → World → Prop) (hK : ∀ W, K W0 W → SecsIn n0 A ss cap W ∧ W.cell? ⟨Bs, 0, none⟩ = some (.slice A ss.length cap))
    (hKt : ∀ A B C : World, K A B → K B C → K A C) (hKg : ∀ A B : World, Below A.heap.size A B → K A B) (hl : ∀ i (h : i < ss.length), (ss[i]).l.length = 128) (hlen : ss.length ≤ 4096) :
    Gives Fence.wide n Try.prog 58 #[.pointer (some ⟨Bs, 0, none⟩)] (fun s : Sec => #[s.v]) (fun s W => s.Fresh W ∧ s.l.length ≤ 458976) K (fun xs => secD xs = recordsB (secD ss)) 4097 W0 := by
  intro l J W hW hA hY h0
  have HI := hide hK
  have HL := hide hl
  have HY := hide hY
  have HA := hide hA
  have HKT := hide hKt
  have HKG := hide hKg
  have HSL := hide (secD_len ss)
  have HW0 := hide (hKg _ _ hW)
  clear hK hl hY hA hKt hKg hW
  refine callsIn_of_wp Try.func58 rfl trivial ?_ rfl
  simp only [Try.ntmps58, List.size_toArray, List.length_cons, List.length_nil, Nat.reduceAdd, Nat.reduceSub, Array.replicate_succ, Array.replicate_zero, List.push_toArray, List.append_toArray, List.nil_append, List.cons_append]
  gi_wp2
  gi_loopw [3, 4] (fun i g wr => ∃ (k q f : Nat) (pre : List Sec), k ≤ 10000 ∧ i = .int .i64 k ∧ g = .int .u32 q ∧ pre.length ≤ k ∧ Hid (J pre wr) ∧ Hid (K W0 wr) ∧ Hid (recordsB (secD ss) = secD pre ++ recsFrom (secD ss) f k q) ∧ Hid (ss.length ≤ k + f)) (fun i _ _ => 10000 - (intOf i).toNat)
  case atStart => exact ⟨0, 0, ss.length, [], by omega, rfl, rfl, by simp, hide h0, HW0, hide (by rw [← HSL.out]; rfl), hide (by omega)⟩
  case round =>
    obtain ⟨k, q, f, pre, hk, rfl, rfl, hpl, HJ, HW, HR, HF⟩ := hrel
    have c0 := (HI.out _ HW.out).2
    by_cases hlt : k < ss.length
    · have hlt' : (k : Int) < ss.length := by omega
      have HRA := hide (recordAt_any A ss cap k wr (HI.out _ HW.out).1 HL.out hlen hlt)
      cases hq : recB (secD ss) k with
      | none =>
        rw [hq] at HRA
        have HN := hide (show recsFrom (secD ss) f k q = [] by
          cases f with
          | zero => rfl
          | succ f => unfold recsFrom; rw [if_pos (by rw [HSL.out]; exact hlt), hq])
        clear hq
        gi_wp2_with (refine ⟨trivial, ?_⟩; gi_at_call 59; refine (callsIn_wide.2 HRA.out).mono ?_; rintro e w1 ⟨rfl, hb⟩; have HB1 := hide hb; clear hb)
        refine ⟨fun f h => (by cases h), ?_⟩
        gi_wp2
        refine bodyPost_ret (results_none rfl _ _ _) rfl ?_
        exact ⟨⟨_, rfl⟩, pre, by rw [HR.out, HN.out, List.append_nil], abides_below HA.out HJ.out HB1.out⟩
      | some p =>
        obtain ⟨b, g⟩ := p
        rw [hq] at HRA
        have HBL := hide (recB_len hq)
        by_cases hg : g < q
        · have hg' : (g : Int) < q := by omega
          have HN := hide (show recsFrom (secD ss) f k q = [] by
            cases f with
            | zero => rfl
            | succ f => unfold recsFrom; rw [if_pos (by rw [HSL.out]; exact hlt), hq]; simp only; rw [if_pos hg])
          clear hq
          gi_wp2_with (refine ⟨trivial, ?_⟩; gi_at_call 59; refine (callsIn_wide.2 HRA.out).mono ?_; rintro e w1 ⟨s, rfl, hsl, hsi, hb⟩; have HB1 := hide hb; clear hb)
          refine ⟨fun f h => (by cases h), ?_⟩
          gi_wp2
          refine bodyPost_ret (results_none rfl _ _ _) rfl ?_
          exact ⟨⟨_, rfl⟩, pre, by rw [HR.out, HN.out, List.append_nil], abides_below HA.out HJ.out HB1.out⟩
        · have hg' : (q : Int) ≤ g := by omega
          obtain ⟨f', rfl⟩ : ∃ f', f = f' + 1 := ⟨f - 1, by have := HF.out; omega⟩
          have HN := hide (show recsFrom (secD ss) (f' + 1) k q = b :: recsFrom (secD ss) f' (k + secN b.length) g by
            conv => lhs; unfold recsFrom
            rw [if_pos (by rw [HSL.out]; exact hlt), hq]
            simp only
            rw [if_neg hg])
          have HSN := hide (secN_pos b.length)
          have HSU := hide (show secN b.length ≤ 4100 by have := HBL.out; rw [HSL.out] at this; unfold secN; omega)
          clear hq
          gi_wp2_with (refine ⟨trivial, ?_⟩; gi_at_call 59; refine (callsIn_wide.2 HRA.out).mono ?_; rintro e w1 ⟨s, rfl, hsl, hsi, hb⟩; have HSLN := hide hsl; have hbl : s.l.length ≤ 458976 := (by have h1 := HBL.out; rw [HSL.out] at h1; rw [hsl]; omega); have HW1 := hide (HKT.out _ _ _ HW.out (HKG.out _ _ hb)); obtain ⟨fn, tmps, assign, body, hy, hR⟩ := HY.out pre s w1 (abides_below HA.out HJ.out hb) ⟨hsi, hbl⟩ (by omega); have HRR := hide hR; clear hb hsi hsl hR)
          refine HRR.out.mono ?_
          rintro e w3 ⟨rfl, hJ3, hk3⟩
          have HW3 := hide (HKT.out _ _ _ HW1.out hk3)
          have HX3 := hide (Blk.new w3 35 [s.v])
          have HW4 := hide (HKT.out _ _ _ HW3.out (HKG.out _ _ (below_new w3 (.cells #[s.v] 35))))
          have HOC := hide (occ_cells (some ⟨w3.heap.size, 0, none⟩) [s] 1 (w3.alloc (.cells #[s.v] 35)) (fun k h => by
            obtain rfl : k = 0 := by simpa using h
            exact ⟨_, _, rfl, by simp, HX3.out.cell 0⟩) (fun t ht => by obtain rfl : t = s := (by simpa using ht); omega) (by simp))
          rw [show usedB (secD [s]) = secN b.length by rw [show secD [s] = [s.l] from rfl, usedB_one, HSLN.out]] at HOC
          have hsn := HSN.out
          have hsu := HSU.out
          have hfl := HF.out
          gi_wp2_with (refine ⟨trivial, ?_⟩; gi_at_call 35; refine (callsIn_wide.2 HOC.out).mono ?_; rintro e w4 ⟨rfl, rfl⟩)
          go_roundw
          case rel => exact ⟨k + secN b.length, g, f', pre ++ [s], by omega, by go_num, rfl, by simp; omega, hide (abides_below HA.out hJ3 (below_new _ _)), HW4, hide (by rw [HR.out, HN.out]; simp [secD, HSLN.out]), hide (by omega)⟩
          case measure => simp [intOf]; omega
    · have hge : ¬ ((k : Int) < ss.length) := by omega
      gi_wp2
      go_end0
      exact ⟨⟨_, rfl⟩, pre, by rw [HR.out, recsFrom_end (by rw [HSL.out]; omega), List.append_nil], HJ.out⟩
end Go.Proofs.Ytgigccgklahddaa
