/- DigestSumSpec. -/
import Derived.Test.YtnopibpakchejaaDoorRTag
import Derived.Test.YtnopibpakchejaaDoorHalves
namespace Go.Proofs.YtnopibpakchejaaDoor
open Go.RowKit

theorem run_neq_op {o : Oper} {a : Act} (x y : Operand) (T : TypeId) (ho : o.op = .binOp .neq 26 x y T) (X Y : List UInt8) (hx : a.eval x = dv X) (hy : a.eval y = dv Y) (h1 : X.length = 32) (h2 : Y.length = 32) (v : Bool) (hv : v = !(X == Y)) (w : World) : (execOp a.eval o).run Tryd.prog w = .ok (.value (.bool v)) w := by
  unfold execOp
  simp only [ho, hx, hy, Sem.run_bind, run_eqGuard_agg w .neq 26 x y _ _ Tryd.eqGuardType26, Result.andThen_ok, neq_dv X Y h1 h2 w, Sem.run_pure, hv]
theorem wpList_neq {ops : Array Oper} {Q : Exit → Act → World → Prop} {o : Oper} {rest : List Oper} {a : Act} {w : World} (hw : Region.wanted o (yielded ops a.tmps) = true) (x y : Operand) (T : TypeId) (ho : o.op = .binOp .neq 26 x y T) (X : List UInt8) (hx : a.eval x = dv X) (hy : a.eval y = dv X)
    (h1 : X.length = 32) (h : wpList Tryd.prog ops Q rest (a.put o.dst (.bool false)) w) : wpList Tryd.prog ops Q (o :: rest) a w :=
  wpList_of_wp hw (by unfold Oper.wp; rw [run_neq_op x y T ho X X hx hy h1 h1 false (by simp) w]; exact h)

/-- A piece that the law tries. -/
structure Pc (W : World) (v : Value) (l : List UInt8) : Prop where
  form : ∃ A c, v = .slice A l.length c ∧ Src W A l.length c l ∧ l.length ≤ c ∧ c ≤ 9223372036854775807
  few : l.length ≤ 600
theorem Pc.below {w w' : World} {v : Value} {l : List UInt8} (h : Pc w v l) (hb : Below w.heap.size w w') : Pc w' v l := by
  obtain ⟨⟨A, c, e, hs, h1, h2⟩, h3⟩ := h
  exact ⟨⟨A, c, e, hs.below hb, h1, h2⟩, h3⟩

/-- The piece that the law makes. -/
structure MI (w : World) (G N : Nat) (W : World) : Prop where
  own : ∃ m : List UInt8, m.length = N ∧ W.ownsRow G 5 1 (.slice (some ⟨G, 0, none⟩) N N) N (bc m)
  bel : Below w.heap.size w W
theorem MI.cell {w W : World} {G N k : Nat} (h : MI w G N W) (hk : k < N) : (∃ v, W.cell? ⟨G, k, none⟩ = some (.int .u8 v)) ∧ W.frozen? ⟨G, k, none⟩ = false := by
  obtain ⟨m, hm, ho⟩ := h.own
  refine ⟨⟨(((m[k]'(by omega)).toNat : Nat) : Int), ?_⟩, World.ownsRow.frozenAt ho k⟩
  rw [World.ownsRow.cellAt ho k (by omega), bc_get (by omega)]
theorem MI.set {w W : World} {G N k : Nat} (h : MI w G N W) (hG : w.heap.size ≤ G) (v : Int) (b : UInt8) (hv : v = (b.toNat : Nat)) : MI w G N (W.setCell ⟨G, k, none⟩ (.int .u8 v)) := by
  obtain ⟨m, hm, ho⟩ := h.own
  subst hv
  have hs := (World.ownsRow.stored ho k (.int .u8 (b.toNat : Nat))).1
  rw [bc_set] at hs
  exact ⟨⟨_, by simpa using hm, hs⟩, h.bel.setCell hG _⟩
theorem made5 (n : Nat) : (madeCells (Value.int .u8 0).cells (n * 1)).toList = bc (List.replicate n 0) := by
  rw [show (Value.int .u8 0).cells = #[.int .u8 0] from rfl, toList_madeCells_one, Nat.mul_one]
  simp [bc]

set_option maxRecDepth 10000 in
set_option maxHeartbeats 1000000 in
theorem sumLaw_few (s : ByteArray) (a : Option Addr) (n cap x : Nat) (l : List UInt8) (w : World) (hT : Tab w) (hS : Src w a n cap l) (hs : s.size ≤ 300) (hn : n ≤ 300) (hx : x ≤ 255) (hle : n ≤ cap) (hcap : cap ≤ 9223372036854775807) :
    Calls Tryd.prog 3 #[.slice a n cap, .string s, .int .u8 (x : Nat)] w (LawPost w) := by
  obtain ⟨i0, hi, hz0, hz1, hz2⟩ := hinfo5
  have HT := hide hT
  have HS := hide hS
  have HSA := hide (sane_any w hT)
  have c1 : decide (300 < n) = false := by simp; omega
  have c2 : decide ((300 : Int) < (n : Int)) = false := by simp; omega
  have c3 : decide ((300 : Int) < (s.size : Int)) = false := by simp; omega
  have hb2 : i0.bytes * (x + 1) ≤ 281474976710656 := by rw [hz2]; omega
  have hb3 : x + 1 ≤ maxLen := by unfold maxLen; omega
  clear hT hS
  go_enter Tryd.func3, Tryd.ntmps3
  go_wp2_with fail
  with_reducible refine HSA.out.mono ?_
  rintro e w1 ⟨rfl, hb⟩
  have HB1 := hide hb
  clear hb
  go_wp2_with (refine wpList_make_full w1 rfl (.tmp 23) (.tmp 23) 22 rfl w1.heap.size 5 i0 _ 1 Tryd.underlying22 hi hz0 hz1 .i64 .i64 _ _ (x + 1) rfl rfl (by omega) (by omega) hb2 hb3 (Nat.le_refl _) ?_; intro w2 ho hg)
  have HM : Hid (MI w w1.heap.size (x + 1) w2) := by
    rw [made5] at ho
    exact hide ⟨⟨_, by simp, ho⟩, below_one HB1.out (only_none hg)⟩
  have HG := hide HB1.out.size
  clear ho hg HB1
  generalize w1.heap.size = G at *
  go_wp2_with fail
  go_loopw [27] (fun i wr => ∃ k : Nat, k ≤ x + 1 ∧ i = .int .i64 k ∧ Hid (MI w G (x + 1) wr)) (fun i _ => x + 1 - (intOf i).toNat)
  case atStart => exact ⟨0, by omega, rfl, HM⟩
  case round =>
    clear HM
    obtain ⟨k, hk, rfl, HM⟩ := hrel
    by_cases hlt : k < x + 1
    · obtain ⟨⟨v0, hc⟩, hf⟩ := HM.out.cell hlt
      have hltI : (k : Int) < (x : Int) + 1 := by omega
      by_cases hn0 : n = 0
      · subst hn0
        have HN := hide (HM.out.set (k := k) HG.out (k : Int) (UInt8.ofNat k) (by rw [UInt8.toNat_ofNat', Nat.mod_eq_of_lt (by omega)]))
        go_wp2_with fail
        go_roundw
        case rel => exact ⟨k + 1, by omega, by go_num, HN⟩
        case measure => simp [intOf]; omega
      · have hl0 : l ≠ [] := by
          intro e
          have := HS.out.len
          rw [e] at this
          exact hn0 this
        obtain ⟨b, o, rfl, hB⟩ := HS.out.sb hl0
        have hkn : k % n < n := Nat.mod_lt _ (by omega)
        have hknl : k % n < l.length := by rw [← HS.out.len]; exact hkn
        have hbw := hB.lt (by omega)
        have hbG : ¬ b = G := by have := HG.out; omega
        have hbG' : ¬ G = b := by have := HG.out; omega
        have hcl := (hB.below HM.out.bel hbw) (k % n) hknl
        have hpos : 0 < n := by omega
        have hposI : ¬ ((n : Int) = 0) := by omega
        have HN := hide (HM.out.set (k := k) HG.out (k : Int) (UInt8.ofNat k) (by rw [UInt8.toNat_ofNat', Nat.mod_eq_of_lt (by omega)]))
        have HN2 := hide (HN.out.set (k := k) HG.out _ (l[k % n]) rfl)
        generalize l[k % n] = bt at *
        clear hB hl0
        go_wp2_with fail
        go_roundw
        case rel => exact ⟨k + 1, by omega, by go_num, HN2⟩
        case measure => simp [intOf]; omega
    · have hge : x + 1 ≤ k := by omega
      have hgeI : ¬ (k : Int) < (x : Int) + 1 := by omega
      clear hk hlt
      have HJ0 := hide (Below.refl (wr.alloc (.cells #[.slice a n cap, .slice (some ⟨G, 0, none⟩) (x + 1 : Nat) (x + 1)] 22)).heap.size (wr.alloc (.cells #[.slice a n cap, .slice (some ⟨G, 0, none⟩) (x + 1 : Nat) (x + 1)] 22)))
      have HPC := hide (show ∀ j, j < 2 → ∃ A N c l', (wr.alloc (.cells #[.slice a n cap, .slice (some ⟨G, 0, none⟩) (x + 1 : Nat) (x + 1)] 22)).cell? ⟨wr.heap.size, j, none⟩ = some (.slice A N c) ∧ Src (wr.alloc (.cells #[.slice a n cap, .slice (some ⟨G, 0, none⟩) (x + 1 : Nat) (x + 1)] 22)) A N c l' ∧ N ≤ 300 ∧ N ≤ c ∧ c ≤ 9223372036854775807 by
        intro j hj
        have hX : Blk (wr.alloc (.cells #[.slice a n cap, .slice (some ⟨G, 0, none⟩) (x + 1 : Nat) (x + 1)] 22)) wr.heap.size 22 [.slice a n cap, .slice (some ⟨G, 0, none⟩) (x + 1 : Nat) (x + 1)] := Blk.new wr 22 _
        have hbX : Below w.heap.size w (wr.alloc (.cells #[.slice a n cap, .slice (some ⟨G, 0, none⟩) (x + 1 : Nat) (x + 1)] 22)) := HM.out.bel.alloc HM.out.bel.size _
        obtain ⟨m, hm, ho⟩ := HM.out.own
        rcases j with _ | _ | j
        · exact ⟨a, n, cap, l, hX.cell 0, HS.out.below hbX, hn, hle, hcap⟩
        · exact ⟨_, x + 1, x + 1, m, hX.cell 1, ⟨hm.symm, Sb.of (row_bytes (ho.alloc _)), fun h => by cases h⟩, by omega, Nat.le_refl _, by omega⟩
        · omega)
      have HTT := hide (show Tab (wr.alloc (.cells #[.slice a n cap, .slice (some ⟨G, 0, none⟩) (x + 1 : Nat) (x + 1)] 22)) from HT.out.below (HM.out.bel.alloc HM.out.bel.size _))
      have HBW := hide (show Below w.heap.size w (wr.alloc (.cells #[.slice a n cap, .slice (some ⟨G, 0, none⟩) (x + 1 : Nat) (x + 1)] 22)) from HM.out.bel.alloc HM.out.bel.size _)
      go_wp2_with fail
      clear hgeI hge
      generalize wr.alloc (.cells #[.slice a n cap, .slice (some ⟨G, 0, none⟩) (x + 1 : Nat) (x + 1)] 22) = W0 at *
      go_loopw [53] (fun i wr => ∃ k : Nat, k ≤ 2 ∧ i = .int .i64 k ∧ Hid (Below W0.heap.size W0 wr)) (fun i _ => 2 - (intOf i).toNat)
      case atStart => exact ⟨0, by omega, rfl, HJ0⟩
      case round =>
        clear HJ0
        obtain ⟨j, hj, rfl, HJ⟩ := hrel
        by_cases hlt : j < 2
        · obtain ⟨A, N, c, l', hcell, hsrc, hN, hNc, hc63⟩ := HPC.out j hlt
          have HSR := hide hsrc
          have hltI : (j : Int) < 2 := by omega
          have hce := (World.cell?_of_block (a := ⟨_, j, none⟩) (HJ.out.block _ (cell_lt hcell))).trans hcell
          clear hsrc hcell
          go_wp2_with fail
          clear hce
          with_reducible refine (sum_is A N c l' _ (HTT.out.below HJ.out) (HSR.out.sb.below HJ.out) HSR.out.len hNc hc63 (by omega)).mono ?_
          rintro e wA ⟨rfl, hbA⟩
          have HJA := hide (below_one HJ.out hbA)
          clear hbA HJ
          go_wp2_with fail
          with_reducible refine (rsum_any A N c l' wA (HSR.out.below HJA.out) (by omega)).mono ?_
          rintro e wB ⟨rfl, hbB⟩
          have HJB := hide (below_one HJA.out hbB)
          clear hbB HJA
          have HLD := hide (sha_len l')
          generalize sha l' = D at *
          go_wp2_with (refine wpList_neq (by rfl) (.tmp 58) (.tmp 60) 26 rfl D rfl rfl HLD.out ?_)
          with_reducible refine (tagged_any s A N c l' wB (HTT.out.below HJB.out) (HSR.out.sb.below HJB.out) HSR.out.len (by omega) (by omega) HSR.out.nil).mono ?_
          rintro e wC ⟨rfl, hbC⟩
          have HJC := hide (below_one HJB.out hbC)
          clear hbC HJB
          go_wp2_with fail
          with_reducible refine (rtagged_any s A N c l' wC (HSR.out.below HJC.out) (by omega) (by omega)).mono ?_
          rintro e wE ⟨rfl, hbE⟩
          have HJE := hide (below_one HJC.out hbE)
          clear hbE HJC
          have HLT := hide (tagd_len s.data.toList l')
          generalize tagd s.data.toList l' = E at *
          go_wp2_with (refine wpList_neq (by rfl) (.tmp 65) (.tmp 68) 26 rfl E rfl rfl HLT.out ?_)
          go_roundw
          case rel => exact ⟨j + 1, by omega, by go_num, HJE⟩
          case measure => simp [intOf]; omega
        · have hge : ¬ (j : Int) < 2 := by omega
          go_wp2_with fail
          go_ret
          exact ⟨rfl, below_one HBW.out HJ.out⟩

set_option maxHeartbeats 400000 in
theorem sumLaw_walk (s : ByteArray) (a : Option Addr) (n cap : Nat) (x : Int) (l : List UInt8) (w : World) (hT : Tab w) (hS : Src w a n cap l) (hs : s.size ≤ 9223372036854775807) (hle : n ≤ cap) (hcap : cap ≤ 9223372036854775807) (hx : (Lit.int .u8 x).wf = true) :
    Calls Tryd.prog 3 #[.slice a n cap, .string s, .int .u8 x] w (LawPost w) := by
  have hr : 0 ≤ x ∧ x ≤ 255 := by
    simp only [Lit.wf, Bool.and_eq_true, decide_eq_true_eq] at hx
    exact hx
  obtain ⟨k, rfl⟩ := Int.eq_ofNat_of_zero_le hr.1
  have hk : k ≤ 255 := by omega
  clear hx hr
  have HSA := hide (sane_any w hT)
  by_cases h1 : n ≤ 300
  · by_cases h2 : s.size ≤ 300
    · exact sumLaw_few s a n cap k l w hT hS h2 h1 hk hle hcap
    · have c2 : decide ((300 : Int) < (n : Int)) = false := by simp; omega
      have c3 : decide ((300 : Int) < (s.size : Int)) = true := by simp; omega
      clear hS hT
      go_enter Tryd.func3, Tryd.ntmps3
      go_wp2_with fail
      with_reducible refine HSA.out.mono ?_
      rintro e w1 ⟨rfl, hb⟩
      have HB1 := hide hb
      clear hb
      go_wp2_with fail
      go_ret
      exact ⟨rfl, HB1.out⟩
  · have c2 : decide ((300 : Int) < (n : Int)) = true := by simp; omega
    clear hS hT
    go_enter Tryd.func3, Tryd.ntmps3
    go_wp2_with fail
    with_reducible refine HSA.out.mono ?_
    rintro e w1 ⟨rfl, hb⟩
    have HB1 := hide hb
    clear hb
    go_wp2_with fail
    go_ret
    exact ⟨rfl, HB1.out⟩
end Go.Proofs.YtnopibpakchejaaDoor
