/- admits; laws on one operation within a round. -/
import Derived.Test.YtalgceplcahgbaaDoorBeg
import Derived.Test.YtalgceplcahgbaaDoorAppD
import Derived.BigFrameIn
namespace Go.Proofs.YtalgceplcahgbaaDoor
open Go.RowKit Go.Shelf

section
variable {P : Program} {lr n : Nat} {ops : Array Oper} {Q : Exit → Act → World → Prop} {o : Oper} {rest : List Oper} {a : Act} {w : World}
/-- An operation within a round, by its law outside of rounds. -/
theorem wpListIn_of_wp (hw : Region.wanted o (yielded ops a.tmps) = true) (hd : ∀ c, o.op ≠ .defer c) (h : o.wp P a w (wpListIn (Fence.wide.inRound lr) n P ops Q rest) Q) : wpListIn (Fence.wide.inRound lr) n P ops Q (o :: rest) a w :=
  Go.BigFrame.wpListIn_want hw fun _ hK => opIn_of_wp hd hK h
theorem wpListIn_load_mid (hw : Region.wanted o (yielded ops a.tmps) = true) (ty : TypeId) (x : Operand) (ho : o.op = .load ty x) (b of : Nat) (hx : a.eval x = .pointer (some ⟨b, of, none⟩)) (cs : List Value) (d : TypeDesc) (hc : w.rangeAt b of cs)
    (hu : P.underlying ty = some d) (hr : d.isRow = true) (hi : (P.info? ty).map (·.size) = some cs.length) (h : wpListIn (Fence.wide.inRound lr) n P ops Q rest (a.put o.dst (.agg cs.toArray)) w) : wpListIn (Fence.wide.inRound lr) n P ops Q (o :: rest) a w :=
  wpListIn_of_wp hw (by rw [ho]; intro c hc; cases hc) (wp_load_mid ty x ho b of hx cs d hc hu hr hi h)
end
theorem wpListIn_neqD {lr n : Nat} {ops : Array Oper} {Q : Exit → Act → World → Prop} {o : Oper} {rest : List Oper} {a : Act} {w : World} (hw : Region.wanted o (yielded ops a.tmps) = true) (x y : Operand) (T : TypeId) (ho : o.op = .binOp .neq 26 x y T) (X Y : List UInt8) (hx : a.eval x = dv X) (hy : a.eval y = dv Y)
    (h1 : X.length = 32) (h2 : Y.length = 32) (v : Bool) (hv : v = !(X == Y)) (h : wpListIn (Fence.wide.inRound lr) n Tryd.prog ops Q rest (a.put o.dst (.bool v)) w) : wpListIn (Fence.wide.inRound lr) n Tryd.prog ops Q (o :: rest) a w :=
  wpListIn_of_wp hw (by rw [ho]; intro c hc; cases hc) (by unfold Oper.wp; rw [run_neqD x y T ho X Y hx hy h1 h2 v hv w]; exact h)

theorem admB_of {before : List Ln} {node : Int} {data : List UInt8} : admB before node data = (decide (0 ≤ node) && decide (node < 24) && decide (data.length ≤ 65536) && (before.isEmpty || decide ((before.getD 0 ⟨0, 0, [], []⟩).node = node))) := rfl
set_option maxRecDepth 20000 in
set_option maxHeartbeats 1600000 in
theorem admits_any (A D : Option Addr) (l : List Lr) (cap c : Nat) (node : Int) (data : List UInt8) (w : World) (hl : Lks w A l) (hd : data.length ≤ 9223372036854775807) :
    Calls Tryd.prog 68 #[.slice A l.length cap, .int .i64 node, .slice D data.length c] w fun e w' => e = .returned (.bool (admB (lnks l) node data)) ∧ w = w' := by
  have HL := hide hl
  clear hl
  by_cases h0 : 0 ≤ node
  · have h0' : ¬ node < 0 := by omega
    by_cases h1 : node < 24
    · have h1' : ¬ 24 ≤ node := by omega
      by_cases h2 : data.length ≤ 65536
      · have h2' : ¬ (65536 : Int) < ((data.length : Nat) : Int) := by omega
        by_cases he : l = []
        · subst he
          have HR := hide (show admB (lnks []) node data = true by rw [admB_of]; simp [h0, h1, h2, lnks])
          go_enter Tryd.func68, Tryd.ntmps68
          go_wp2_with fail
          go_ret
          exact ⟨by rw [HR.out]; rfl, rfl⟩
        · have hp : 0 < l.length := List.length_pos_iff.2 he
          have hpb : (((l.length : Nat) : Int) == 0) = false := by simp; omega
          have hp' : (0 : Int) < ((l.length : Nat) : Int) := by omega
          obtain ⟨b, o, rfl, _, hrg, _⟩ := HL.out.at hp
          have HF := hide (show ((lnks l).getD 0 ⟨0, 0, [], []⟩).node = l[0].x.node ∧ (lnks l).isEmpty = false from by
            cases l with
            | nil => simp at hp
            | cons r l => exact ⟨rfl, rfl⟩)
          have c0 : w.cell? ⟨b, o, none⟩ = some (.int .i64 l[0].x.node) := by
            have := hrg 0 _ (Lr.c0 l[0])
            simpa using this
          clear hrg
          generalize l[0].x.node = m at *
          have HR := hide (show admB (lnks l) node data = decide (m = node) by rw [admB_of, HF.out.1, HF.out.2]; simp [h0, h1, h2])
          by_cases hm : m = node
          · have HR2 := hide (show admB (lnks l) node data = true by rw [HR.out]; simp [hm])
            have hmb : (m == node) = true := by simp [hm]
            subst hm
            go_enter Tryd.func68, Tryd.ntmps68
            go_wp2_with fail
            go_ret
            exact ⟨by rw [HR2.out]; simp, rfl⟩
          · have HR2 := hide (show admB (lnks l) node data = false by rw [HR.out]; simp [hm])
            have hmb : (m == node) = false := by simpa using hm
            go_enter Tryd.func68, Tryd.ntmps68
            go_wp2_with fail
            go_ret
            exact ⟨by rw [HR2.out]; simp, rfl⟩
      · have h2' : (65536 : Int) < ((data.length : Nat) : Int) := by omega
        have HR := hide (show admB (lnks l) node data = false by rw [admB_of]; simp [h2])
        go_enter Tryd.func68, Tryd.ntmps68
        go_wp2_with fail
        go_ret
        exact ⟨by rw [HR.out]; rfl, rfl⟩
    · have h1' : 24 ≤ node := by omega
      have HR := hide (show admB (lnks l) node data = false by rw [admB_of]; simp [h1])
      go_enter Tryd.func68, Tryd.ntmps68
      go_wp2_with fail
      go_ret
      exact ⟨by rw [HR.out]; rfl, rfl⟩
  · have h0' : node < 0 := by omega
    have HR := hide (show admB (lnks l) node data = false by rw [admB_of]; simp [h0])
    go_enter Tryd.func68, Tryd.ntmps68
    go_wp2_with fail
    go_ret
    exact ⟨by rw [HR.out]; rfl, rfl⟩
end Go.Proofs.YtalgceplcahgbaaDoor
