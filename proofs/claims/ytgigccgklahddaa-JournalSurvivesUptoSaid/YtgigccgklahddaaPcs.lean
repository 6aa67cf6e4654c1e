/- piecesOf: the pieces of a record, one by one. -/
import Derived.Test.YtgigccgklahddaaCol
import Derived.Test.YtgigccgklahddaaWr3
namespace Go.Proofs.Ytgigccgklahddaa
open Go.RowKit
variable {n0 : Nat}
attribute [local go_sem] Oper.semAt_some

/-- A piece as a value. -/
structure Pc where
  bg : Bool
  en : Bool
  s : Sec
abbrev Pc.v (p : Pc) : Value := .agg #[.bool p.bg, .bool p.en, p.s.v]
def Pc.d (p : Pc) : Bool × Bool × List UInt8 := (p.bg, p.en, p.s.l)
def pieceB (l : List UInt8) (k : Nat) : Bool × Bool × List UInt8 := (decide (k = 0), decide (k + 1 = secN l.length), (l.drop (112 * k)).take 112)
/-- A record's pieces. -/
def piecesB (l : List UInt8) : List (Bool × Bool × List UInt8) := (List.range (secN l.length)).map (pieceB l)

/-- A part of a slice. -/
def Sec.sub (s : Sec) (j m : Nat) : Sec := ⟨if s.cap = j then s.A else s.A.map (·.add j), (s.l.drop j).take m, s.cap - j⟩
theorem Sec.In.sub {s : Sec} {W : World} (h : s.In n0 W) {j m : Nat} (hj : j + m ≤ s.l.length) : (s.sub j m).In n0 W := by
  have hle := h.le
  have hcap := h.cap
  have hlen : ((s.l.drop j).take m).length = m := by rw [List.length_take, List.length_drop]; omega
  refine ⟨?_, by show ((s.l.drop j).take m).length ≤ s.cap - j; omega, by show s.cap - j ≤ _; omega, ?_⟩
  · intro hne
    have hm : 0 < m := by
      rcases Nat.eq_zero_or_pos m with rfl | h0
      · exact absurd (by simp [Sec.sub, bs]) hne
      · exact h0
    obtain ⟨b, o, e, hlt, hk, hc⟩ := h.cels (by intro e; have := congrArg List.length e; rw [bs_len] at this; simp at this; rw [this] at hj; simp at hj; omega)
    refine ⟨b, o + j, ?_, hlt, hk, fun i hi => ?_⟩
    · show (if s.cap = j then s.A else s.A.map (·.add j)) = _
      rw [if_neg (by omega), e]
      exact congrArg some (Addr.add_mid ..)
    · have hi' : i < m := by
        rw [bs_len] at hi
        have : (s.sub j m).l.length = m := hlen
        omega
      rw [Nat.add_assoc, hc (j + i) (by rw [bs_len]; omega), bs_get, bs_get]
      simp [Sec.sub]
  · intro hA
    have hA' : (if s.cap = j then s.A else s.A.map (·.add j)) = none := hA
    show s.cap - j = 0
    by_cases hc : s.cap = j
    · omega
    · rw [if_neg hc] at hA'
      have : s.A = none := by simpa using hA'
      have := h.nil this
      omega

theorem piecesOf_any (s : Sec) (w : World) :
    Calls Try.prog 64 #[s.v] w fun e w' => e = .returned (.func (.func 73) #[] #[.pointer (some ⟨w.heap.size, 0, none⟩)]) ∧ w' = w.alloc (.cells #[s.v] 35) := by
  go_enter Try.func64, Try.ntmps64
  go_wp2_with fail
  go_ret
  exact ⟨rfl, rfl⟩

set_option maxRecDepth 100000 in
set_option maxHeartbeats 3200000 in
theorem pieces_gives (n : Nat) (_hn : 1 ≤ n) (Bs : Nat) (s : Sec) (W0 : World) (K : World → World → Prop) (hK : ∀ W, K W0 W → s.In n0 W ∧ W.cell? ⟨Bs, 0, none⟩ = some s.v)
    (hKt : ∀ A B C : World, K A B → K B C → K A C) (hKg : ∀ A B : World, Below A.heap.size A B → K A B) (hl : s.l.length ≤ 1000000) :
    Gives Fence.wide n Try.prog 73 #[.pointer (some ⟨Bs, 0, none⟩)] (fun p : Pc => #[p.v]) (fun p W => p.s.In n0 W ∧ p.s.l.length ≤ 112) K (fun xs => xs.map Pc.d = piecesB s.l) (secN s.l.length) W0 := by
  intro l J W hW hA hY h0
  have HI := hide hK
  have HY := hide hY
  have HA := hide hA
  have HKT := hide hKt
  have HKG := hide hKg
  have HW0 := hide (hKg _ _ hW)
  have HLEN := hide hl
  have HX1 := hide (Blk.new W 35 [s.v])
  have HW1 := hide (hKt _ _ _ (hKg _ _ hW) (hKg _ _ (below_new W (.cells #[s.v] 35))))
  have HJ1 := hide (abides_below hA h0 (below_new W (.cells #[s.v] 35)))
  have c0 := (hK _ (hKg _ _ hW)).2
  have HOC := hide (occ_cells (some ⟨W.heap.size, 0, none⟩) [s] 1 (W.alloc (.cells #[s.v] 35)) (fun k h => by
    obtain rfl : k = 0 := by simpa using h
    exact ⟨_, _, rfl, by simp, HX1.out.cell 0⟩) (fun t ht => by obtain rfl : t = s := (by simpa using ht); omega) (by simp))
  rw [show usedB (secD [s]) = secN s.l.length by rw [show secD [s] = [s.l] from rfl, usedB_one]] at HOC
  have HSN := hide (secN_pos s.l.length)
  have HSU := hide (show secN s.l.length ≤ 10000 by unfold secN; omega)
  have HSL := hide (show s.l.length ≤ 112 * secN s.l.length ∧ 112 * (secN s.l.length - 1) ≤ s.l.length by unfold secN; omega)
  have HPD := hide (show ∀ k, pieceB s.l k = (decide (k = 0), decide (k + 1 = secN s.l.length), (s.l.drop (112 * k)).take 112) from fun k => rfl)
  have HPB := hide (show piecesB s.l = (List.range (secN s.l.length)).map (pieceB s.l) from rfl)
  clear hK hl hY hA hKt hKg hW h0
  generalize secN s.l.length = N at *
  refine callsIn_of_wp Try.func73 rfl trivial ?_ rfl
  simp only [Try.ntmps73, List.size_toArray, List.length_cons, List.length_nil, Nat.reduceAdd, Nat.reduceSub, Array.replicate_succ, Array.replicate_zero, List.push_toArray, List.append_toArray, List.nil_append, List.cons_append]
  gi_wp2_with (refine ⟨trivial, ?_⟩; gi_at_call 35; refine (callsIn_wide.2 HOC.out).mono ?_; rintro e w4 ⟨rfl, rfl⟩)
  gi_loopw [10] (fun i wr => ∃ (k : Nat) (pre : List Pc), k ≤ N ∧ i = .int .i64 k ∧ pre.length = k ∧ Hid (J pre wr) ∧ Hid (K W0 wr) ∧ Hid (pre.map Pc.d = (List.range k).map (pieceB s.l))) (fun i _ => N - (intOf i).toNat)
  case atStart => exact ⟨0, [], by omega, rfl, rfl, HJ1, HW1, hide rfl⟩
  case round =>
    clear c0
    obtain ⟨k, pre, hk, rfl, hpl, HJ, HW, HR⟩ := hrel
    by_cases hlt : k < N
    · have hlt' : (k : Int) < N := by omega
      have c0 := (HI.out _ HW.out).2
      have hsl := HSL.out
      have hsu := HSU.out
      have hln := HLEN.out
      obtain ⟨m, hm⟩ : ∃ m, m = min 112 (s.l.length - 112 * k) := ⟨_, rfl⟩
      have hjm : 112 * k + m ≤ s.l.length := by omega
      have hP : (⟨decide (k = 0), decide (k + 1 = N), s.sub (112 * k) m⟩ : Pc).d = pieceB s.l k := by
        rw [HPD.out]
        show (_, _, (s.l.drop (112 * k)).take m) = _
        congr 2
        rw [hm, ← List.length_drop, ← List.take_take, List.take_length]
      have hPI := (HI.out _ HW.out).1.sub hjm
      have hPL : (s.sub (112 * k) m).l.length = m := by
        show ((s.l.drop (112 * k)).take m).length = m
        rw [List.length_take, List.length_drop]; omega
      have hc1 := (HI.out _ HW.out).1.le
      have hc2 := (HI.out _ HW.out).1.cap
      obtain ⟨fn, tmps, assign, body, hy, hR⟩ := HY.out pre ⟨decide (k = 0), decide (k + 1 = N), s.sub (112 * k) m⟩ wr HJ.out ⟨hPI, by rw [hPL]; omega⟩ (by omega)
      have HRR := hide hR
      have e1 : ((k : Int) == 0) = decide (k = 0) := by
        by_cases h : k = 0 <;> simp [h]
      have e2 : ((k : Int) == (N : Int) - 1) = decide (k + 1 = N) := by
        by_cases h : k + 1 = N
        · rw [decide_eq_true h, beq_iff_eq]; omega
        · rw [decide_eq_false h, beq_eq_false_iff_ne]; omega
      have hmn : (min (s.l.length : Int) (((k : Int) + 1) * 112)).toNat - k * 112 = m := by omega
      have hv : (s.sub (112 * k) m).v = .slice (if s.cap = k * 112 then s.A else s.A.map (fun x => x.add (k * 112))) ((min (s.l.length : Int) (((k : Int) + 1) * 112)).toNat - k * 112) (s.cap - k * 112) := by
        show Value.slice (if s.cap = 112 * k then s.A else s.A.map (·.add (112 * k))) _ (s.cap - 112 * k) = _
        rw [hPL, hmn, Nat.mul_comm]
      have HP := hide hP
      have HPL := hide hpl
      simp only [Pc.v, hv] at hy
      clear hR hmn hv hPL hPI hP hm
      by_cases hc : s.cap = k * 112
      all_goals
        (first | (rw [if_neg hc] at hy) | (rw [if_pos hc] at hy; rw [show s.cap - k * 112 = 0 by omega] at hy))
        gi_wp2_with fail
        refine HRR.out.mono ?_
        rintro e w3 ⟨rfl, hJ3, hk3⟩
        have HJ3 := hide hJ3
        have HW3 := hide (HKT.out _ _ _ HW.out hk3)
        clear hJ3 hk3
        gi_wp2
        go_roundw
        case rel => exact ⟨k + 1, pre ++ [_], by omega, by go_num, by simp [HPL.out], HJ3, HW3, hide (by rw [List.map_append, HR.out, List.range_succ, List.map_append]; simp only [List.map_cons, List.map_nil]; rw [HP.out])⟩
        case measure => simp [intOf]; omega
    · obtain rfl : k = N := by omega
      have hlt' : ¬ ((k : Int) < k) := by omega
      gi_wp2
      go_end0
      exact ⟨⟨_, rfl⟩, pre, by rw [HPB.out, HR.out], HJ.out⟩
end Go.Proofs.Ytgigccgklahddaa
