/- Open of the program. -/
import Derived.Test.YtgigccgklahddaaOn
import Derived.Test.YtgigccgklahddaaPur
import Derived.Shelf.Abstract
namespace Go.Proofs.Ytgigccgklahddaa
open Go.RowKit Go.Shelf
variable {n0 B : Nat}
attribute [local go_sem] Oper.semAt_some

/-- Why a disk cannot be read. -/
def cdk (d : Dk) : Int := if d.valid = false then 40 else if d.stp = true then 40 else if d.pen = [] then 0 else 1
theorem cdk_no {d : Dk} (h : d.valid = false) : cdk d = 40 := by unfold cdk; rw [if_pos h]
theorem cdk_stp {d : Dk} (h : d.valid = true) (h2 : d.stp = true) : cdk d = 40 := by unfold cdk; rw [if_neg (by simp [h]), if_pos h2]
theorem cdk_pen {d : Dk} (h : d.valid = true) (h2 : d.stp = false) (h3 : d.pen ≠ []) : cdk d = 1 := by unfold cdk; rw [if_neg (by simp [h]), if_neg (by simp [h2]), if_neg h3]
theorem cdk_ok {d : Dk} (h : d.valid = true) (h2 : d.stp = false) (h3 : d.pen = []) : cdk d = 0 := by unfold cdk; rw [if_neg (by simp [h]), if_neg (by simp [h2]), if_pos h3]
attribute [irreducible] cdk

set_option maxRecDepth 100000 in
set_option maxHeartbeats 1600000 in
theorem checkDisk_any (d : Dsk) (w : World) (hi : d.In n0 w) :
    Calls Try.prog 31 #[d.v] w fun e w' => e = .returned (.int .i64 (cdk d.d)) ∧ Below w.heap.size w w' := by
  have HI := hide hi
  have HB := hide (Blk.new w 25 d.cs)
  have HW := hide (below_new w (.cells d.cs.toArray 25))
  have HC := hide (check_any d _ (hi.below HW.out))
  obtain ⟨c0, c1, c2, c3⟩ := HB.out.c4
  clear hi
  cases hv : d.d.valid with
  | false =>
    have HX := hide (cdk_no hv)
    rw [show chk d.d = 40 by simp [chk, hv]] at HC
    clear hv
    go_enter Try.func31, Try.ntmps31
    go_wp2_with fail
    refine HC.out.mono ?_
    rintro e w1 ⟨rfl, hb⟩
    have HF := hide (below_one HW.out hb)
    clear hb
    go_wp2_with fail
    go_ret
    exact ⟨by rw [HX.out]; rfl, HF.out⟩
  | true =>
    rw [show chk d.d = 0 by simp [chk, hv]] at HC
    have hs2 : d.d.stp = d.stp := rfl
    have hp2 : d.d.pen.length = d.ps.length := wrD_len d.ps
    obtain ⟨s, hs⟩ : ∃ s, d.stp = s := ⟨_, rfl⟩
    have HS := hide hs
    have hc : s = true ∨ (s = false ∧ 0 < d.ps.length) ∨ (s = false ∧ d.ps.length = 0) := by
      cases s
      · rcases Nat.eq_zero_or_pos d.ps.length with h | h
        · exact .inr (.inr ⟨rfl, h⟩)
        · exact .inr (.inl ⟨rfl, h⟩)
      · exact .inl rfl
    have HXX := hide (show cdk d.d = if s = true then 40 else if d.ps.length = 0 then 0 else 1 by
      subst hs
      cases hst : d.stp with
      | true => rw [cdk_stp hv (by rw [hs2, hst])]; rfl
      | false =>
        rw [if_neg (by simp)]
        by_cases h0 : d.ps.length = 0
        · rw [if_pos h0, cdk_ok hv (by rw [hs2, hst]) (List.eq_nil_of_length_eq_zero (by omega))]
        · rw [if_neg h0, cdk_pen hv (by rw [hs2, hst]) (fun e => h0 (by rw [← hp2, e]; rfl))])
    clear hv hs hs2 hp2
    rcases hc with rfl | ⟨rfl, h0⟩ | ⟨rfl, h0⟩
    · have HX := hide (show cdk d.d = 40 by rw [HXX.out]; rfl)
      go_enter Try.func31, Try.ntmps31
      go_wp2_with fail
      refine HC.out.mono ?_
      rintro e w1 ⟨rfl, hb⟩
      have HF := hide (below_one HW.out hb)
      obtain ⟨c0, c1, c2, c3⟩ := (HB.out.below hb HB.out.lt).c4
      rw [HS.out] at c3
      clear hb
      go_wp2_with fail
      go_ret
      exact ⟨by rw [HX.out]; rfl, HF.out⟩
    · have HX := hide (show cdk d.d = 1 by rw [HXX.out, if_neg (by simp), if_neg (by omega)])
      have h0' : (0 : Int) < (d.ps.length : Int) := by omega
      go_enter Try.func31, Try.ntmps31
      go_wp2_with fail
      refine HC.out.mono ?_
      rintro e w1 ⟨rfl, hb⟩
      have HF := hide (below_one HW.out hb)
      obtain ⟨c0, c1, c2, c3⟩ := (HB.out.below hb HB.out.lt).c4
      rw [HS.out] at c3
      clear hb
      go_wp2_with fail
      go_ret
      exact ⟨by rw [HX.out]; rfl, HF.out⟩
    · have HX := hide (show cdk d.d = 0 by rw [HXX.out, if_neg (by simp), if_pos h0])
      have h0' : ¬ ((0 : Int) < (d.ps.length : Int)) := by omega
      have H0 := hide h0
      clear h0
      go_enter Try.func31, Try.ntmps31
      go_wp2_with fail
      refine HC.out.mono ?_
      rintro e w1 ⟨rfl, hb⟩
      have HF := hide (below_one HW.out hb)
      obtain ⟨c0, c1, c2, c3⟩ := (HB.out.below hb HB.out.lt).c4
      rw [HS.out] at c3
      clear hb
      go_wp2_with fail
      go_ret
      exact ⟨by rw [HX.out]; rfl, HF.out⟩
theorem recsOn_any (A : Option Addr) (n cap : Nat) (w : World) :
    Calls Try.prog 32 #[.slice A n cap] w fun e w' => e = .returned (.func (.func 58) #[] #[.pointer (some ⟨w.heap.size, 0, none⟩)]) ∧ w' = w.alloc (.cells #[.slice A n cap] 22) := by
  go_enter Try.func32, Try.ntmps32
  go_wp2_with fail
  go_ret
  exact ⟨rfl, rfl⟩

section
variable {F : Fence} {n : Nat} {P : Program} {ops : Array Oper} {rest : List Oper} {o : Oper} {a : Act} {w : World} {Q : Exit → Act → World → Prop}
/-- A struct's cells into its block, within a fence. -/
theorem wpListIn_store_row (hgd : o.guard = none) (ty : TypeId) (x y : Operand) (ho : o.op = .store ty x y)
    (g : Nat) (cells : Array Value) (hx : a.eval x = .pointer (some ⟨g, 0, none⟩)) (hy : a.eval y = .agg cells)
    (t : TypeId) (old : Array Value) (hg : w.heap[g]? = some (.cells old t (0, 0))) (hi : (P.info? ty).map (·.size) = some cells.size)
    (hold : old.size = cells.size) (h1 : cells.all (·.oneCell') = true)
    (h : wpListIn F n P ops Q rest (a.put o.dst undef) (w.setRow g cells)) : wpListIn F n P ops Q (o :: rest) a w := by
  refine wpListIn_plain hgd fun K hK' => ?_
  have hrun := run_storeVar_row (P := P) w g t ty old cells hg hi hold h1
  unfold Oper.wpIn
  refine ⟨?_, ?_⟩
  · simp [Oper.about, ho]
  · rw [Oper.semAt_plain F _ _ (by rw [ho]; intro c hc'; cases hc')]
    simp only [execOp, ho, hx, hy, Instr.storeAt, Instr.sureAddr, Sem.run_bind, Sem.run_pure, Result.andThen_ok, hrun]
    exact hK' _ _ h
end
theorem blk_own {β : Type} (B T : Nat) (cs : List Value) : Own (fun (_ : β) W => Blk W B T cs) := fun s X Y row hs hg hrow =>
  (hg.block B hs.lt (fun e => by obtain ⟨o, ho, hc⟩ := hrow B e.symm; rw [show X.heap[B]? = _ from hs] at ho; cases ho; cases hc)).trans hs
theorem fresh_own {β : Type} (B : Nat) (s : Sec) : OwnFrom B (fun (_ : β) W => s.Fresh W) := fun t X Y row hs hg hr => by
  rcases hs with h | ⟨b, cs, h1, h2, h3⟩
  · exact .inl h
  · exact .inr ⟨b, cs, h1, (blk_own (β := Unit) _ _ _).from B () X Y row h2 hg hr, h3⟩
theorem below_putObj {B l : Nat} {W : World} {o' : Obj} (h : B ≤ l) : Below B W (W.putObj l o') :=
  ⟨rfl, rfl, rfl, by simp [World.putObj], fun i hi => World.putObj_heap_other (by omega)⟩

def Dk.jopen (d : Dk) : Jk × Int := if cdk d = 0 then (⟨recordsB d.sec, d.sec.length, (recordsB d.sec).length⟩, 0) else (Jk.zero, cdk d)
theorem recsFrom_len {ss : List (List UInt8)} : ∀ (f k g : Nat), (recsFrom ss f k g).length ≤ f
  | 0, _, _ => Nat.le_refl _
  | f + 1, k, g => by
    unfold recsFrom
    split
    · split
      · exact Nat.zero_le _
      · split
        · exact Nat.zero_le _
        · have := recsFrom_len (ss := ss) f (k + secN (by assumption : List UInt8).length) (by assumption)
          rw [List.length_cons]
          omega
    · exact Nat.zero_le _

/-- Open under way: the disk's box, the journal's, and the records that have come. -/
structure OP (d : Dsk) (w : World) (base : Nat) (many syn : Int) (A : Option Addr) (c : Nat) (pre : List Sec) (W : World) : Prop where
  box : Blk W w.heap.size 25 d.cs
  res : Blk W (w.heap.size + 1) 29 [.slice A pre.length c, .int .i64 many, .int .i64 syn]
  own : W.ownsRow base 35 1 (.slice A pre.length c) pre.length (secs pre)
  each : ∀ s ∈ pre, s.Fresh W ∧ s.l.length ≤ 458976
  bel : Below w.heap.size w W
  sz : base ≤ W.heap.size

theorem own_own {β : Type} (B base e size n : Nat) (v : Value) (xs : List Value) : OwnFrom B (fun (_ : β) W => W.ownsRow base e size v n xs) := fun t X Y row hs hg hr => by
  refine ⟨hs.1, ?_⟩
  rcases hs.2 with h | ⟨g, cap, cur, rfl, h1, h2, h3⟩
  · exact .inl h
  · exact .inr ⟨g, cap, cur, rfl, h1, (blk_own (β := Unit) g e cur.toList).from B () X Y row (by simpa [Blk] using h2) hg hr |> (by simpa [Blk] using ·), h3⟩
theorem op_own1 (d : Dsk) (w : World) (base : Nat) (many syn : Int) (A : Option Addr) (c : Nat) (pre : List Sec) (hB : w.heap.size ≤ B) : OwnFrom B (fun (_ : Unit) W => OP d w base many syn A c pre W) := fun _ X Y row hs hg hr =>
  ⟨(blk_own (β := Unit) _ _ _).from B () X Y row hs.box hg hr, (blk_own (β := Unit) _ _ _).from B () X Y row hs.res hg hr, own_own (β := Unit) B _ _ _ _ _ _ () X Y row hs.own hg hr, fun s h => ⟨fresh_own (β := Unit) B s () X Y row (hs.each s h).1 hg hr, (hs.each s h).2⟩, ownFrom_below (β := Unit) (Nat.le_refl _) hB () X Y row hs.bel hg hr, Nat.le_trans hs.sz hg.size⟩
theorem op_own (d : Dsk) (w : World) (base : Nat) (many syn : Int) (hB : w.heap.size ≤ B) : OwnFrom B (fun (pre : List Sec) W => ∃ A c, OP d w base many syn A c pre W) := fun pre X Y row ⟨A, c, hs⟩ hg hr =>
  ⟨A, c, op_own1 d w base many syn A c pre hB () X Y row hs hg hr⟩
theorem own_only {w w' : World} {base e size n X T : Nat} {v : Value} {xs cs : List Value} (h : w.ownsRow base e size v n xs) (hg : w.grownBy w' (some X)) (hX : Blk w X T cs) (hT : T ≠ e) : w'.ownsRow base e size v n xs := by
  refine ⟨h.1, ?_⟩
  rcases h.2 with h2 | ⟨g, cap, cur, rfl, h1, h2, h3⟩
  · exact .inl h2
  · refine .inr ⟨g, cap, cur, rfl, h1, ?_, h3⟩
    rw [hg.block g (h.lt g rfl).2 (fun he => by
      injection he with he
      subst he
      unfold Blk at hX
      rw [hX] at h2
      injection h2 with h2
      injection h2 with _ h2
      exact hT h2)]
    exact h2
theorem grown_cases {w w' : World} {base e size n : Nat} {v : Value} {xs : List Value} (h : w.ownsRow base e size v n xs) (hg : w.grownBy w' v.ownBlock) :
    Below w.heap.size w w' ∨ ∃ g cs, Blk w g e cs ∧ base ≤ g ∧ w.grownBy w' (some g) := by
  rcases h.2 with ⟨rfl, _⟩ | ⟨g, cap, cur, rfl, h1, h2, _⟩
  · exact .inl (only_none hg)
  · exact .inr ⟨g, cur.toList, (by simpa [Blk] using h2), h1, hg⟩
theorem own_cells {w : World} {base e size n : Nat} {v : Value} {xs : List Value} (h : w.ownsRow base e size v n xs) (j : Nat) (o : Obj) (hj : v.ownBlock = some j) (ho : w.heap[j]? = some o) : o.isCells = true := by
  rcases h.2 with ⟨rfl, _⟩ | ⟨g, cap, cur, rfl, h1, h2, _⟩
  · cases hj
  · obtain rfl : g = j := by simpa [Value.ownBlock] using hj
    rw [h2] at ho
    injection ho with ho
    subst ho
    rfl
section
variable {n0 : Nat} {d : Dsk} {w : World} {base : Nat} {many syn : Int} {A A6 : Option Addr} {c c6 : Nat} {pre : List Sec} {x : Sec} {W w6 : World}
theorem OP.count (h : OP d w base many syn A c pre W) (k : Int) : OP d w base many k A c pre ((W.setCell ⟨w.heap.size + 1, 2, none⟩ (.int .i64 k)).setRow (w.heap.size + 1) #[.slice A pre.length c, .int .i64 many, .int .i64 k]) := by
  have hg : W.grownBy ((W.setCell ⟨w.heap.size + 1, 2, none⟩ (.int .i64 k)).setRow (w.heap.size + 1) #[.slice A pre.length c, .int .i64 many, .int .i64 k]) (some (w.heap.size + 1)) := only_setRow (only_setCell (only_refl _ _) (.inl rfl) _) (.inl rfl) _
  have hz := h.sz
  exact ⟨h.box.only hg (by omega), (h.res.set 2 _).row [.slice A pre.length c, .int .i64 many, .int .i64 k], own_only h.own hg h.res (by omega), fun s hs => ⟨(h.each s hs).1.only hg h.res (by omega), (h.each s hs).2⟩, below_setRow (h.bel.setCell (by simp) _) (by omega) _, by simpa [World.setCell] using hz⟩
theorem OP.in (h : OP d w base many syn A c pre W) (hm : -9223372036854775808 ≤ many ∧ many ≤ 9223372036854775807) (hs : -9223372036854775808 ≤ syn ∧ syn ≤ 9223372036854775807) (hf : pre.length ≤ 1000000) : (Jr.mk A pre c many syn).In n0 W := by
  have hc := own_caps h.own
  refine ⟨⟨?_, fun s hs => (h.each s hs).1.in, hc.1, hc.2, ?_⟩, hm, hs, fun s hs => Nat.le_trans (h.each s hs).2 (by decide), hf⟩
  · rcases h.own.2 with ⟨h0, h1⟩ | ⟨g, cap', cur, hv, _⟩
    · have : pre = [] := by cases pre with | nil => rfl | cons a b => simp at h1
      subst this
      exact Cels.nil _ _
    · injection hv with h1 _ h3
      subst h1
      obtain ⟨cs, hcs⟩ := own_blk h.own
      exact hcs.cels (by omega)
  · intro hA
    rcases h.own.2 with ⟨h0, _⟩ | ⟨g, cap', cur, hv, _⟩
    · injection h0
    · injection hv with h1 _ h3
      rw [h1] at hA
      cases hA
theorem OP.more (h : OP d w base many syn A c pre W) (hx : x.Fresh W) (hl : x.l.length ≤ 458976) (hown : w6.ownsRow base 35 1 (.slice A6 (pre.length + 1) c6) (pre.length + 1) (secs pre ++ [x.v])) (hg : (W.alloc (.cells #[x.v] 35)).grownBy w6 (Value.slice A pre.length c).ownBlock) (hb : w.heap.size + 1 < base) :
    Below base W w6 ∧ KeepsFrom base W (w6.setCell ⟨w.heap.size + 1, 0, none⟩ (.slice A6 (pre.length + 1) c6)) ∧ Below w.heap.size W (w6.setCell ⟨w.heap.size + 1, 0, none⟩ (.slice A6 (pre.length + 1) c6)) ∧ (∀ i, w.heap.size + 1 < i → i < base → (w6.setCell ⟨w.heap.size + 1, 0, none⟩ (.slice A6 (pre.length + 1) c6)).heap[i]? = W.heap[i]?) ∧
    OP d w base many syn A6 c6 (pre ++ [x]) (w6.setCell ⟨w.heap.size + 1, 0, none⟩ (.slice A6 (pre.length + 1) c6)) := by
  have ha := below_new W (.cells #[x.v] 35)
  have hz : base ≤ (W.alloc (.cells #[x.v] 35)).heap.size := Nat.le_trans h.sz ha.size
  have hO := own_later h.own ha
  have hB : Below base W w6 := below_app (ha.mono h.sz) hO hg (Nat.le_refl _) hz
  have hR6 : Blk w6 (w.heap.size + 1) 29 [.slice A pre.length c, .int .i64 many, .int .i64 syn] := h.res.below hB hb
  have hF : ∀ s : Sec, s.Fresh W → s.Fresh w6 := fun s hs => by
    have hs' := hs.below ha
    rcases grown_cases hO hg with hb | ⟨g, cs, hG, _, hg'⟩
    · exact hs'.below hb
    · exact hs'.only hg' hG (by omega)
  have hset : w6.grownBy (w6.setCell ⟨w.heap.size + 1, 0, none⟩ (.slice A6 (pre.length + 1) c6)) (some (w.heap.size + 1)) := only_setCell (only_refl _ _) (.inl rfl) _
  have hB0 : Below w.heap.size W w6 := hB.mono (by omega)
  have hsz : w.heap.size ≤ W.heap.size := h.bel.size
  have hK1 : KeepsFrom base (W.alloc (.cells #[x.v] 35)) w6 := (KeepsOthers.of_grownBy hg (own_cells hO)).from _
  have hE : ∀ s ∈ pre ++ [x], s.Fresh (w6.setCell ⟨w.heap.size + 1, 0, none⟩ (.slice A6 (pre.length + 1) c6)) ∧ s.l.length ≤ 458976 := fun s hs => by
    rcases List.mem_append.1 hs with hs | hs
    · exact ⟨(hF s (h.each s hs).1).only hset hR6 (by omega), (h.each s hs).2⟩
    · obtain rfl : s = x := by simpa using hs
      exact ⟨(hF _ hx).only hset hR6 (by omega), hl⟩
  refine ⟨hB, (((KeepsOthers.alloc W _).from base).trans hK1).trans ((KeepsOthers.setCell w6 _ _).from base), hB0.setCell (by simp) _, fun i h1 h2 => ?_, ⟨(h.box.below hB (by omega)).apart (by simp) _, ?_, ?_, hE, h.bel.trans (hB0.setCell (by simp) _), Nat.le_trans h.sz (Nat.le_trans hB.size hset.size)⟩⟩
  · exact (heap_setCell_other w6 _ i _ (by simp only; omega)).trans (hB.block i h2)
  · have := hR6.set 0 (.slice A6 (pre.length + 1) c6)
    simpa using this
  · have := own_only hown hset hR6 (by omega)
    simpa [secs] using this
end

set_option maxRecDepth 100000 in
set_option maxHeartbeats 3200000 in
theorem open_any (d : Dsk) (w : World) (hi : d.In n0 w) : Calls Try.prog 12 #[d.v] w (JAns n0 w d.d.jopen) := by
  have HI := hide hi
  have HB0 := hide ((Blk.new w 25 d.cs).alloc (.cells #[.slice none 0 0, .int .i64 0, .int .i64 0] 29))
  have HB1 := hide (Blk.new (w.alloc (.cells d.cs.toArray 25)) 29 [.slice none 0 0, .int .i64 0, .int .i64 0])
  rw [World.size_alloc] at HB1
  have HW := hide (show Below w.heap.size w ((w.alloc (.cells d.cs.toArray 25)).alloc (.cells #[.slice none 0 0, .int .i64 0, .int .i64 0] 29)) from (below_new w _).alloc (by simp) _)
  have HC := hide (checkDisk_any d _ (hi.below HW.out))
  obtain ⟨c0, c1, c2, c3⟩ := HB0.out.c4
  clear hi
  by_cases hc : cdk d.d = 0
  · have HX := hide (show d.d.jopen = (⟨recordsB d.d.sec, d.d.sec.length, (recordsB d.d.sec).length⟩, 0) by unfold Dk.jopen; rw [if_pos hc])
    have hv : d.d.valid = true := by
      cases h : d.d.valid
      · rw [cdk_no h] at hc; exact absurd hc (by decide)
      · rfl
    rw [valid_iff] at hv
    simp only [Bool.and_eq_true] at hv
    obtain ⟨⟨hn1, hn2⟩, hsl⟩ := validSec_iff.1 hv.1.1
    rw [secD_len] at hn1 hn2
    have HN := hide (And.intro hn1 hn2)
    have HSL := hide (show ∀ i (h : i < d.ss.length), (d.ss[i]).l.length = 128 from fun i h => by
      have := hsl i (by rw [secD_len]; exact h)
      rw [secD_get] at this
      exact this)
    rw [hc] at HC
    clear hc hv hn1 hn2 hsl
    refine (callsIn_wide (n := 4)).1 ?_
    refine callsIn_of_wp_marks Try.func12 rfl trivial ?_ rfl
    simp only [Try.ntmps12, List.size_toArray, List.length_cons, List.length_nil, Nat.reduceAdd, Nat.reduceSub, Array.replicate_succ, Array.replicate_zero, List.push_toArray, List.append_toArray, List.nil_append, List.cons_append]
    gi_wp2_with (first | (refine ⟨trivial, ?_⟩; gi_at_call 31; refine (callsIn_wide.2 HC.out).mono ?_; rintro e w1 ⟨rfl, hb⟩; have HF1 := hide (below_one HW.out hb); have HR1 := hide (HB1.out.below hb HB1.out.lt); have HD1 := hide (HB0.out.below hb HB0.out.lt); clear c0 c1 c2 c3; obtain ⟨c0, c1, c2, c3⟩ := HD1.out.c4; have k1 : w1.cell? ⟨w.heap.size + 1, 1, none⟩ = some (.int .i64 0) := HR1.out.cell 1; have f1 := HR1.out.free 1; have HR2 := hide (HR1.out.set 1 (.int .i64 d.ss.length)); have HD2 := hide (HD1.out.apart (p := ⟨w.heap.size + 1, 1, none⟩) (by simp) (.int .i64 d.ss.length)); have d0 := HD2.out.c4.1; clear hb) | (refine ⟨trivial, ?_⟩; gi_at_call 32; refine (callsIn_wide.2 (recsOn_any _ _ _ _)).mono ?_; rintro e w3 ⟨rfl, rfl⟩))
    simp only [List.set_cons_zero, List.set_cons_succ] at HR2
    have HF2 := hide (HF1.out.setCell (p := ⟨w.heap.size + 1, 1, none⟩) (by simp) (.int .i64 d.ss.length))
    have hs2 : (w1.setCell ⟨w.heap.size + 1, 1, none⟩ (.int .i64 d.ss.length)).heap.size = w1.heap.size := by simp [World.setCell]
    have hlt1 : w.heap.size + 1 < w1.heap.size := HR1.out.lt
    generalize w1.setCell ⟨w.heap.size + 1, 1, none⟩ (.int .i64 d.ss.length) = w2 at HR2 HD2 HF2 d0 hs2 ⊢
    have HBS := hide (show (w2.alloc (.cells #[.slice d.sa d.ss.length d.sc] 22)).cell? ⟨w1.heap.size, 0, none⟩ = some (.slice d.sa d.ss.length d.sc) by
      have := (Blk.new w2 22 [.slice d.sa d.ss.length d.sc]).cell 0
      rw [hs2] at this
      exact this)
    have HOP0 : Hid (OP d w (w2.alloc (.cells #[.slice d.sa d.ss.length d.sc] 22)).heap.size d.ss.length 0 none 0 [] (w2.alloc (.cells #[.slice d.sa d.ss.length d.sc] 22))) := hide ⟨HD2.out.alloc _, HR2.out.alloc _, ⟨by simp [secs], .inl ⟨rfl, rfl⟩⟩, fun s hs => (by cases hs), HF2.out.alloc HF2.out.size _, Nat.le_refl _⟩
    have hsz0 : w1.heap.size < (w2.alloc (.cells #[.slice d.sa d.ss.length d.sc] 22)).heap.size := by simp; omega
    have HWK := hide (show Below w.heap.size w (w2.alloc (.cells #[.slice d.sa d.ss.length d.sc] 22)) from HF2.out.alloc HF2.out.size _)
    clear c0 c1 c2 c3 k1 f1 d0 HR1 HD1 HF1 HR2 HD2 HF2 HC HB0 HB1 HW
    generalize w2.alloc (.cells #[.slice d.sa d.ss.length d.sc] 22) = W0 at *
    refine wp_rangeR rfl (by omega) (gf := 58) (lb := #[.pointer (some ⟨w1.heap.size, 0, none⟩)]) rfl trivial (enters_of Try.func58 (by kernel_rfl) rfl)
      (recsOn_gives (n0 := n0) (4 - 1) (by omega) w1.heap.size d.sa d.ss d.sc W0 (fun A B => (w.heap.size ≤ A.heap.size → Below w.heap.size A B) ∧ (A.cell? ⟨w1.heap.size, 0, none⟩ = some (.slice d.sa d.ss.length d.sc) → B.cell? ⟨w1.heap.size, 0, none⟩ = some (.slice d.sa d.ss.length d.sc)) ∧ A.heap.size ≤ B.heap.size)
        (fun W h => ⟨HI.out.sec.below (HWK.out.trans (h.1 HWK.out.size)), h.2.1 HBS.out⟩) (fun A B C h k => ⟨fun q => (h.1 q).trans (k.1 (Nat.le_trans q h.2.2)), fun q => k.2.1 (h.2.1 q), Nat.le_trans h.2.2 k.2.2⟩) (fun A B h => ⟨fun q => h.mono q, fun q => (World.cell?_of_block (a := ⟨w1.heap.size, 0, none⟩) (h.block _ (cell_lt q))).trans q, h.size⟩) HSL.out HN.out.2)
      (fun h k => ⟨fun q => (h.1 q).trans (k.1 (Nat.le_trans q h.2.2)), fun q => k.2.1 (h.2.1 q), Nat.le_trans h.2.2 k.2.2⟩)
      (fun W l o o' hl _ _ => ⟨fun _ => below_putObj (by omega), fun q => (World.cell?_of_block (a := ⟨w1.heap.size, 0, none⟩) (World.putObj_heap_other (by simp only; omega))).trans q, by simp [World.putObj]⟩) (Below.refl _ _) (fun _ => rfl)
      (fun pre W => ∃ A c, OP d w W0.heap.size d.ss.length 0 A c pre W) (op_own d w _ _ _ (by omega)) (fun x => OwnFrom.and (fresh_own _ x) (ownFrom_pure _ _)) ⟨none, 0, HOP0.out⟩ ?a1 ?hassign ?hbody ?hdone
    case hassign =>
      intro l x W K hK
      gi_wp2
      exact hK
    case hbody =>
      rintro l pre x W ⟨A, c, hOP⟩ ⟨hxf, hxl⟩ hlen
      have HO := hide hOP
      have HXF := hide hxf
      have HXL := hide hxl
      have k0 : W.cell? ⟨w.heap.size + 1, 0, none⟩ = some (.slice A pre.length c) := hOP.res.cell 0
      have HOW := hide (own_later hOP.own (below_new W (.cells #[x.v] 35)))
      have hzW : W0.heap.size ≤ (W.alloc (.cells #[x.v] 35)).heap.size := by have := hOP.sz; simp; omega
      have HNC := hide (show ∀ j u, [x.v][j]? = some u → (W.alloc (.cells #[x.v] 35)).cell? ((⟨W.heap.size, 0, none⟩ : Addr).add j) = some u from fun j u hu => new_cells W 35 [x.v] _ rfl j u hu)
      obtain ⟨i35, hi0, hz0, hz1, hz2⟩ := hinfo35
      have HIN := hide (And.intro hi0 (And.intro hz0 (And.intro hz1 hz2)))
      clear hOP hxf hxl hi0 hz0 hz1 hz2
      gi_wp2_with (gi_at_builtin; refine wpListIn_append_own _ rfl (.tmp 20) (.tmp 22) 22 rfl W0.heap.size 35 i35 _ 1 24 Try.underlying22 HIN.out.1 HIN.out.2.1 HIN.out.2.2.1 HIN.out.2.2.2 rfl (by omega) _ pre.length (secs pre) rfl HOW.out ⟨W.heap.size, 0, none⟩ 1 1 [x.v] rfl rfl HNC.out (by simp [Value.oneCell']) (by unfold maxLen; omega) (by omega) hzW ?_; intro v' w6 hown hg _; obtain ⟨A6, c6, rfl⟩ := own_form hown; have HOWN := hide hown; have HGR := hide (show (W.alloc (.cells #[x.v] 35)).grownBy w6 (Value.slice A pre.length c).ownBlock from hg); have HR6 := hide ((HO.out.res.alloc (.cells #[x.v] 35)).app HOW.out hg (by omega)); have k1 : w6.cell? ⟨w.heap.size + 1, 0, none⟩ = some (.slice A pre.length c) := HR6.out.cell 0; have f1 := HR6.out.free 0; clear hown hg)
      obtain ⟨m0, m1, m2, m4, m3⟩ := HO.out.more HXF.out HXL.out HOWN.out HGR.out (by omega)
      exact ⟨m1, ⟨fun _ => m2, fun q => (m0.cell (p := ⟨w1.heap.size, 0, none⟩) hsz0).trans q, m0.size⟩, A6, c6, m3⟩
    case hdone =>
      rintro D xs W hD hS ⟨A, c, hOP⟩ hK
      have HO := hide hOP
      have HDK := hide hK
      have HXS := hide hS
      have hDl : D < W.heap.size := (Array.getElem?_eq_some_iff.1 hK).1
      have k0 : W.cell? ⟨w.heap.size + 1, 0, none⟩ = some (.slice A xs.length c) := hOP.res.cell 0
      have k1 : W.cell? ⟨w.heap.size + 1, 1, none⟩ = some (.int .i64 d.ss.length) := hOP.res.cell 1
      have k2 : W.cell? ⟨w.heap.size + 1, 2, none⟩ = some (.int .i64 0) := hOP.res.cell 2
      have f2 := hOP.res.free 2
      have HR3 := hide (hOP.res.set 2 (.int .i64 xs.length))
      simp only [List.set_cons_zero, List.set_cons_succ] at HR3
      have q0 := HR3.out.cell 0
      have q1 := HR3.out.cell 1
      have q2 := HR3.out.cell 2
      simp only [List.getElem?_cons_zero, List.getElem?_cons_succ] at q0 q1 q2
      clear hOP hK hS
      gi_wp2_with (refine wpListIn_store_row rfl 29 (.tmp 2) (.tmp 29) rfl (w.heap.size + 1) #[.slice A xs.length c, .int .i64 d.ss.length, .int .i64 xs.length] rfl rfl 29 _ HR3.out Try.size29 rfl (one29 _ _ _ _ _) ?_)
      have hOP1 := HO.out.count (xs.length : Int)
      have hne : w.heap.size + 1 ≠ D := by omega
      have hK1 : ((W.setCell ⟨w.heap.size + 1, 2, none⟩ (.int .i64 xs.length)).setRow (w.heap.size + 1) #[.slice A xs.length c, .int .i64 d.ss.length, .int .i64 xs.length]).heap[D]? = some (.deferred (some [])) := (setRow_other _ _ _ _ (Ne.symm hne)).trans ((heap_setCell_other _ _ _ _ (Ne.symm hne)).trans HDK.out)
      generalize (W.setCell ⟨w.heap.size + 1, 2, none⟩ (.int .i64 xs.length)).setRow (w.heap.size + 1) #[.slice A xs.length c, .int .i64 d.ss.length, .int .i64 xs.length] = W1 at hOP1 hK1 ⊢
      have hOP2 := (op_own1 d w W0.heap.size d.ss.length xs.length A c xs (B := D) (by omega)).putObj (s := ()) (.deferred none) hOP1 (Nat.le_refl _) hK1 rfl
      refine ⟨by simp, .inl ⟨_, _, rfl, run_takeDeferred hK1, ?_⟩⟩
      refine ⟨_, results_cell_row_tmp rfl _ _ (w.heap.size + 1) 29 #[.slice A xs.length c, .int .i64 d.ss.length, .int .i64 xs.length] (0, 0) _ (.int .i64 0) rfl rfl hOP2.res Try.underlying29 rfl Try.size29, ?_⟩
      have hxl : xs.length ≤ d.ss.length := by
        rw [← secD_len xs, HXS.out, ← secD_len d.ss]
        exact recsFrom_len _ _ _
      have hns := HN.out.2
      refine ⟨⟨A, xs, c, d.ss.length, xs.length⟩, by rw [HX.out], ?_, hOP2.in (by omega) (by omega) (by omega), hOP2.bel⟩
      rw [HX.out, Jr.k]
      have e1 : recordsB d.d.sec = secD xs := HXS.out.symm
      have e2 : d.d.sec.length = d.ss.length := secD_len _
      rw [e1, e2, secD_len]
  · have HX := hide (show d.d.jopen = (Jk.zero, cdk d.d) by unfold Dk.jopen; rw [if_neg hc])
    have hc' : (cdk d.d != 0) = true := by simpa using hc
    generalize cdk d.d = m at *
    go_enter Try.func12, Try.ntmps12
    go_wp2_with fail
    refine HC.out.mono ?_
    rintro e w1 ⟨rfl, hb⟩
    have HF := hide (below_one HW.out hb)
    have HR1 := hide (HB1.out.below hb HB1.out.lt)
    clear hb
    go_wp2_with (refine wpList_store_row rfl 29 (.tmp 2) (.tmp 9) rfl (w.heap.size + 1) #[.slice none 0 0, .int .i64 0, .int .i64 0] rfl rfl 29 _ HR1.out Try.size29 rfl (one29 _ _ _ _ _) ?_)
    exact bodyPost_ret (v := .tuple #[Jr.zero.v, .int .i64 m]) (results_cell_row_tmp rfl _ _ (w.heap.size + 1) 29 #[.slice none 0 0, .int .i64 0, .int .i64 0] (0, 0) _ (.int .i64 m) rfl rfl (setRow_heap _ _ _ _ _ _ HR1.out) Try.underlying29 rfl Try.size29) rfl (JAns.zero HX.out (below_setRow HF.out (by omega) _))
end Go.Proofs.Ytgigccgklahddaa
