/- slices.Chunk over digests, by 2: what comes are the pairs, in order. -/
import Derived.Test.YthjfeodclphgaaaDoorFr
import Derived.Test.YthjfeodclphgaaaDoorBrg
namespace Go.Proofs.YthjfeodclphgaaaDoor
open Go.RowKit Go.Shelf

attribute [local go_sem] Oper.semAt_some

/-- How many stand together at the place j. -/
def two (len j : Nat) : Nat := if 2 * j + 1 < len then 2 else 1
/-- What comes: pair j. -/
def encD (b off len : Nat) {m : Nat} (j : Fin m) : Array Value := #[.slice (some ⟨b, off + 2 * j.1 * 32, none⟩) (two len j.1) (two len j.1)]

set_option maxRecDepth 100000 in
set_option maxHeartbeats 1000000 in
theorem chunkD_in (n : Nat) (hn : 1 ≤ n) (l Bs Bn S n₀ b off len m cap : Nat) (hm : m = (len + 1) / 2) (hlen : len ≤ 1000000) (hcap : len ≤ cap) (hc63 : cap ≤ 9223372036854775807)
    (hs : Bs < n₀ ∧ Bs ≠ S) (hn' : Bn < n₀ ∧ Bn ≠ S) (J Jx : List (Fin m) → World → Prop)
    (hY : ∀ pre x W, J pre W → pre.length < m → YieldAt Fence.wide (n - 1) Tryd.prog l (encD b off len x) W fun e W' =>
      (e = .returned (.bool true) ∧ J (pre ++ [x]) W' ∧ Kx S n₀ W W') ∨ (e = .returned (.bool false) ∧ Jx (pre ++ [x]) W'))
    (B0 : Nat) (hJ : AbidesFrom B0 J) (W : World) (hBs : W.cell? ⟨Bs, 0, none⟩ = some (.slice (some ⟨b, off, none⟩) len cap)) (hBn : W.cell? ⟨Bn, 0, none⟩ = some (.int .i64 2)) (h0 : J [] W) :
    CallsIn Fence.wide n Tryd.prog 98 #[.func (.yield l) #[] #[], .pointer (some ⟨Bs, 0, none⟩), .pointer (some ⟨Bn, 0, none⟩)] W fun e W' => (∃ v, e = .returned v) ∧
      ((∃ ys, ys = ups m ∧ J ys W') ∨ (∃ pre, (∃ k, k ≤ m ∧ pre = ups k) ∧ Jx pre W')) := by
  refine callsIn_of_wp Tryd.func98 rfl trivial ?_ rfl
  simp only [Tryd.ntmps98, List.size_toArray, List.length_cons, List.length_nil, Nat.reduceAdd, Nat.reduceSub, Array.replicate_succ, Array.replicate_zero, List.push_toArray, List.append_toArray, List.nil_append, List.cons_append]
  gi_wp2
  gi_loopw [4] (fun i wr => ∃ k : Nat, k ≤ m ∧ i = .int .i64 (2 * (k : Int)) ∧ J (ups k) wr ∧ Kx S n₀ W wr) (fun i _ => 2 * m - (intOf i).toNat)
  case atStart => exact ⟨0, Nat.zero_le _, rfl, by simpa [ups] using h0, Kx.refl _ _ _⟩
  case round =>
    obtain ⟨k, hk, rfl, hJs, hK⟩ := hrel
    have c1 : wr.cell? ⟨Bs, 0, none⟩ = some (.slice (some ⟨b, off, none⟩) len cap) := (World.cell?_of_block (a := ⟨Bs, 0, none⟩) (hK.2 Bs hs.1 hs.2)).trans hBs
    have c2 : wr.cell? ⟨Bn, 0, none⟩ = some (.int .i64 2) := (World.cell?_of_block (a := ⟨Bn, 0, none⟩) (hK.2 Bn hn'.1 hn'.2)).trans hBn
    by_cases hlt : k < m
    · have hlt' : 2 * (k : Int) < (len : Int) := by omega
      by_cases h2 : 2 * k + 1 < len
      · have HE := hide (show two len k = 2 from if_pos h2)
        gi_wp2
        gi_quiet (fail)
        have hJn : J (ups k) (wr.drewN nq) := hJ _ wr _ none hJs ⟨rfl, rfl, rfl, Nat.le_refl _, fun _ _ _ => rfl⟩ (fun r e => by cases e)
        have hKn : Kx S n₀ W (wr.drewN nq) := hK
        generalize wr.drewN nq = w1 at *
        obtain ⟨fn, tmps, assign, body, hy, hR⟩ := hY (ups k) ⟨k, hlt⟩ w1 hJn (by rw [ups_len hk]; exact hlt)
        unfold encD at hy
        dsimp only at hy
        rw [HE.out] at hy
        clear c1 c2
        have c1 : w1.cell? ⟨Bs, 0, none⟩ = some (.slice (some ⟨b, off, none⟩) len cap) := (World.cell?_of_block (a := ⟨Bs, 0, none⟩) (hKn.2 Bs hs.1 hs.2)).trans hBs
        gi_wp2
        refine hR.mono ?_
        rintro e W3 (⟨rfl, hJ3, hk3⟩ | ⟨rfl, hJx3⟩)
        · have hK3 := hKn.trans hk3
          have c2 : W3.cell? ⟨Bn, 0, none⟩ = some (.int .i64 2) := (World.cell?_of_block (a := ⟨Bn, 0, none⟩) (hK3.2 Bn hn'.1 hn'.2)).trans hBn
          gi_wp2
          go_roundw
          case rel => exact ⟨k + 1, by omega, by go_num, by rw [ups_succ hlt]; exact hJ3, hK3⟩
          case measure => simp [intOf]; omega
        · gi_wp2
          refine bodyPost_ret (results_none rfl _ _ _) rfl ?_
          exact ⟨⟨_, rfl⟩, .inr ⟨_, ⟨k + 1, by omega, (ups_succ hlt).symm⟩, hJx3⟩⟩
      · have HE := hide (show two len k = 1 from if_neg h2)
        have e1 : len - 2 * k = 1 := by omega
        gi_wp2
        gi_quiet (fail)
        have hJn : J (ups k) (wr.drewN nq) := hJ _ wr _ none hJs ⟨rfl, rfl, rfl, Nat.le_refl _, fun _ _ _ => rfl⟩ (fun r e => by cases e)
        have hKn : Kx S n₀ W (wr.drewN nq) := hK
        generalize wr.drewN nq = w1 at *
        obtain ⟨fn, tmps, assign, body, hy, hR⟩ := hY (ups k) ⟨k, hlt⟩ w1 hJn (by rw [ups_len hk]; exact hlt)
        unfold encD at hy
        dsimp only at hy
        rw [HE.out] at hy
        clear c1 c2
        have c1 : w1.cell? ⟨Bs, 0, none⟩ = some (.slice (some ⟨b, off, none⟩) len cap) := (World.cell?_of_block (a := ⟨Bs, 0, none⟩) (hKn.2 Bs hs.1 hs.2)).trans hBs
        gi_wp2
        refine hR.mono ?_
        rintro e W3 (⟨rfl, hJ3, hk3⟩ | ⟨rfl, hJx3⟩)
        · have hK3 := hKn.trans hk3
          have c2 : W3.cell? ⟨Bn, 0, none⟩ = some (.int .i64 2) := (World.cell?_of_block (a := ⟨Bn, 0, none⟩) (hK3.2 Bn hn'.1 hn'.2)).trans hBn
          gi_wp2
          go_roundw
          case rel => exact ⟨k + 1, by omega, by go_num, by rw [ups_succ hlt]; exact hJ3, hK3⟩
          case measure => simp [intOf]; omega
        · gi_wp2
          refine bodyPost_ret (results_none rfl _ _ _) rfl ?_
          exact ⟨⟨_, rfl⟩, .inr ⟨_, ⟨k + 1, by omega, (ups_succ hlt).symm⟩, hJx3⟩⟩
    · have hge : (len : Int) ≤ 2 * (k : Int) := by omega
      gi_wp2
      go_end0
      obtain rfl : k = m := by omega
      exact ⟨⟨_, rfl⟩, .inl ⟨_, rfl, hJs⟩⟩
/-- Digests as a slice. -/
theorem chunkD_stops (n : Nat) (hn : 1 ≤ n) (Bs Bn S n₀ b off len m cap : Nat) (hm : m = (len + 1) / 2) (hlen : len ≤ 1000000) (hcap : len ≤ cap) (hc63 : cap ≤ 9223372036854775807) (w : World)
    (hs : Bs < n₀ ∧ Bs ≠ S) (hn' : Bn < n₀ ∧ Bn ≠ S) (hw : Bs < w.heap.size ∧ Bn < w.heap.size)
    (hBs : w.cell? ⟨Bs, 0, none⟩ = some (.slice (some ⟨b, off, none⟩) len cap)) (hBn : w.cell? ⟨Bn, 0, none⟩ = some (.int .i64 2)) :
    SeqStopsK Fence.wide n Tryd.prog 98 #[.pointer (some ⟨Bs, 0, none⟩), .pointer (some ⟨Bn, 0, none⟩)] (encD b off len (m := m)) (Kx S n₀) (fun ys => ys = ups m) (fun pre => ∃ k, k ≤ m ∧ pre = ups k) m w := fun l J Jx W hW hJ _ hY h0 => by
  have c1 := (hW.cell (p := ⟨Bs, 0, none⟩) hw.1).trans hBs
  have c2 := (hW.cell (p := ⟨Bn, 0, none⟩) hw.2).trans hBn
  exact chunkD_in n hn l Bs Bn S n₀ b off len m cap hm hlen hcap hc63 hs hn' J Jx hY _ hJ W c1 c2 h0

set_option maxHeartbeats 400000 in
theorem chunkD_any (a : Option Addr) (len cap : Nat) (w : World) :
    Calls Tryd.prog 85 #[.slice a len cap, .int .i64 2] w fun e w' => e = .returned (.func (.func 98) #[] #[.pointer (some ⟨w.heap.size, 0, none⟩), .pointer (some ⟨w.heap.size + 1, 0, none⟩)]) ∧ w' = (w.alloc (.cells #[.slice a len cap] 30)).alloc (.cells #[.int .i64 2] 3) := by
  go_enter Tryd.func85, Tryd.ntmps85
  go_wp2_with fail
  go_ret
  exact ⟨rfl, rfl⟩
end Go.Proofs.YthjfeodclphgaaaDoor

/- What is kept in loops over functions, and how they are left; pairs. -/
namespace Go.Proofs.YthjfeodclphgaaaDoor
open Go.RowKit Go.Shelf
section
variable {β : Type} {B : Nat}
theorem keep_cells {X Y : World} {row : Option Nat} {g T : Nat} {cs : Array Value} {fr : Nat × Nat} (h : X.heap[g]? = some (.cells cs T fr)) (hg : X.grownBy Y row) (hr : ∀ r, row = some r → B ≤ r ∧ ∃ o : Obj, X.heap[r]? = some o ∧ o.isCells = false) : Y.heap[g]? = some (.cells cs T fr) :=
  (hg.block g (Array.getElem?_eq_some_iff.1 h).1 fun e => by
    obtain ⟨_, ob, ho, hw⟩ := hr g e.symm
    rw [h] at ho; cases ho; cases hw).trans h
theorem row_own {base e size n : Nat} {v : Value} {xs : List Value} : OwnFrom B (fun (_ : β) W => W.ownsRow base e size v n xs) := fun _ X Y row h hg hr => by
  refine ⟨h.1, h.2.imp id ?_⟩
  rintro ⟨g, cap, cur, e1, e2, e3, e4⟩
  exact ⟨g, cap, cur, e1, e2, keep_cells (B := B) e3 hg hr, e4⟩
theorem blk_own {X T : Nat} {cs : List Value} : OwnFrom B (fun (_ : β) W => Blk W X T cs) := fun _ _ _ _ h hg hr => keep_cells (B := B) h hg hr
theorem below_own {w : World} (hB : w.heap.size ≤ B) : OwnFrom B (fun (_ : β) W => Below w.heap.size w W) := fun _ _ _ _ h hg hr =>
  h.grown hg h.size fun k e => Nat.le_trans hB (hr k e).1
end
theorem own_cells {W : World} {base e size n : Nat} {v : Value} {xs : List Value} (h : W.ownsRow base e size v n xs) : ∀ (j : Nat) (o : Obj), v.ownBlock = some j → W.heap[j]? = some o → o.isCells = true := by
  intro j o hj ho
  rcases h.2 with ⟨rfl, _⟩ | ⟨g, cap, cur, rfl, _, hg, _⟩
  · cases hj
  · have : g = j := by simpa [Value.ownBlock] using hj
    subst this
    rw [hg] at ho; cases ho; rfl
theorem others_below {W W' : World} (h : Below W.heap.size W W') : KeepsOthers W W' :=
  KeepsOthers.of_grownBy (row := none) (only_of_below h none) fun j o e => by cases e
theorem Kx.below {S n : Nat} {W W' : World} (h : Below W.heap.size W W') (hn : n ≤ W.heap.size) : Kx S n W W' := ⟨h.size, fun k hk _ => h.block k (by omega)⟩
theorem Kx.own {S n e size m : Nat} {W W' : World} {v : Value} {xs : List Value} (hg : W.grownBy W' v.ownBlock) (ho : W.ownsRow n e size v m xs) (hn : n ≤ W.heap.size) : Kx S n W W' :=
  ⟨hg.size, fun k hk _ => hg.block k (by omega) fun e => by have := (ho.lt k e.symm).1; omega⟩
theorem Kx.set {S n : Nat} (W : World) (v : Value) : Kx S n W (W.setCell ⟨S, 0, none⟩ v) := ⟨by simp [World.setCell], fun k _ hne => heap_setCell_other W ⟨S, 0, none⟩ k v hne⟩
theorem leaves_one {fn : Func} {R : Ending → World → Prop} {n : Nat} (tmps : Array Value) (D : Nat) (W : World) (v : Value) (h1 : W.heap[D]? = some (.deferred (some [])))
    (hr : (results fn tmps).run Tryd.prog (W.putObj D (.deferred none)) = .ok v (W.putObj D (.deferred none))) (hR : R (.returned v) (W.putObj D (.deferred none))) :
    LeavesInM Fence.wide n Tryd.prog fn tmps R [{ target := .collected D, args := #[] }] .returning W :=
  ⟨by simp, .inl ⟨_, _, rfl, run_takeDeferred h1, ⟨v, hr, hR⟩⟩⟩
/-- A result that lies in a box of one cell. -/
theorem results_one {P : Program} {fn : Func} {p : Tmp} {ty : TypeId} {d : TypeDesc} (h : fn.results = #[.cell p ty]) (tmps : Array Value) (w : World) (g T : Nat) (v : Value)
    (hp : tmps.getD p undef = .pointer (some ⟨g, 0, none⟩)) (hg : Blk w g T [v]) (hu : P.underlying ty = some d) (hd : (match d with | .struct _ | .array _ _ => true | _ => false) = false) :
    (results fn tmps).run P w = .ok v w := by
  have hp' : tmps[p]?.getD undef = .pointer (some ⟨g, 0, none⟩) := by simpa using hp
  have hc : w.cell? ⟨g, 0, none⟩ = some v := (hg.cell 0).trans rfl
  have hl : (loadVar ty ⟨g, 0, none⟩).run P w = .ok v w := by
    simp [loadVar, run_isAgg_plain hu hd w, go_sem, hc]
  simp [results, h, hp', asAddr, hl]
/-- What stands at the place j of the next row. -/
def pairAt (L : List (List UInt8)) (j : Nat) : List UInt8 := (pairsL sha tagN L).getD j []
theorem pairAt_two {L : List (List UInt8)} {j : Nat} (h : 2 * j + 1 < L.length) : pairAt L j = sha (nodeT tagN (L[2 * j]'(by omega)) (L[2 * j + 1])) := by
  unfold pairAt
  rw [pairsL_get sha tagN L j (by omega), if_pos h, List.getD_eq_getElem?_getD, List.getD_eq_getElem?_getD, List.getElem?_eq_getElem h, List.getElem?_eq_getElem (by omega : 2 * j < L.length)]
  rfl
theorem pairAt_one {L : List (List UInt8)} {j : Nat} (h : 2 * j < L.length) (h2 : ¬ 2 * j + 1 < L.length) : pairAt L j = L[2 * j] := by
  unfold pairAt
  rw [pairsL_get sha tagN L j (by omega), if_neg h2, List.getD_eq_getElem?_getD, List.getElem?_eq_getElem h]
  rfl
theorem pairs_ups (L : List (List UInt8)) (m : Nat) (hm : m = (L.length + 1) / 2) : ((ups m : List (Fin m)).map fun j => pairAt L j.1) = pairsL sha tagN L := by
  apply List.ext_getElem
  · rw [List.length_map, ups_len (Nat.le_refl _), pairsL_len, hm]
  · intro i h1 h2
    simp only [List.getElem_map]
    have e : ((ups m : List (Fin m))[i]'(by simpa using h1)).1 = i := by simp [ups]
    rw [e]
    unfold pairAt
    rw [List.getD_eq_getElem?_getD, List.getElem?_eq_getElem h2]
    rfl
theorem pairAt_len {L : List (List UInt8)} (hd : D32 L) {j : Nat} (h : 2 * j < L.length) : (pairAt L j).length = 32 := by
  by_cases h2 : 2 * j + 1 < L.length
  · rw [pairAt_two h2]; exact sha_len _
  · rw [pairAt_one h h2]; exact hd _ (List.getElem_mem h)
theorem pairs_32 {L : List (List UInt8)} (hd : D32 L) : D32 (pairsL sha tagN L) := by
  intro d h
  obtain ⟨i, hi, rfl⟩ := List.getElem_of_mem h
  have e : pairAt L i = (pairsL sha tagN L)[i] := by
    unfold pairAt
    rw [List.getD_eq_getElem?_getD, List.getElem?_eq_getElem hi]
    rfl
  rw [← e]
  exact pairAt_len hd (by rw [pairsL_len] at hi; omega)
theorem together_at (L : List (List UInt8)) (b o j cap : Nat) (w : World) (hT : Tab w) (hd : D32 L) (hB : Bs w b o L.flatten) (hj : 2 * j < L.length) :
    Calls Tryd.prog 86 #[.slice (some ⟨b, o + 2 * j * 32, none⟩) (two L.length j) cap] w fun e w' => e = .returned (dv (pairAt L j)) ∧ Below w.heap.size w w' := by
  have h1 := bs_range (bs_one hd hB (2 * j) hj)
  have hb : b < w.heap.size := hB.lt (by rw [hd.flat]; omega)
  rw [show o + 32 * (2 * j) = o + 2 * j * 32 by omega] at h1
  by_cases h2 : 2 * j + 1 < L.length
  · have h3 := bs_range (bs_one hd hB (2 * j + 1) h2)
    rw [show o + 32 * (2 * j + 1) = o + 2 * j * 32 + 32 by omega] at h3
    rw [pairAt_two h2, show two L.length j = 2 from if_pos h2]
    exact together_two _ _ b _ cap w hT (hd _ (List.getElem_mem _)) (hd _ (List.getElem_mem _)) h1 h3 hb
  · rw [pairAt_one hj h2, show two L.length j = 1 from if_neg h2]
    exact together_one _ b _ cap w (hd _ (List.getElem_mem _)) h1 hb
end Go.Proofs.YthjfeodclphgaaaDoor

/- nextRow. -/
namespace Go.Proofs.YthjfeodclphgaaaDoor
open Go.RowKit Go.Shelf
attribute [local go_sem] Oper.semAt_some
theorem own_set {W : World} {base e size n X : Nat} {v u : Value} {xs : List Value} (h : W.ownsRow base e size v n xs) (hX : X < base) : (W.setCell ⟨X, 0, none⟩ u).ownsRow base e size v n xs := by
  refine ⟨h.1, h.2.imp id ?_⟩
  rintro ⟨g, cap, cur, e1, e2, e3, e4⟩
  exact ⟨g, cap, cur, e1, e2, (heap_setCell_other W ⟨X, 0, none⟩ g u (by simp only; omega)).trans e3, e4⟩
theorem own_put {W : World} {base e size n D : Nat} {v : Value} {xs : List Value} {ds : List Deferred} {o : Obj} (h : W.ownsRow base e size v n xs) (hD : W.heap[D]? = some (.deferred (some ds))) : (W.putObj D o).ownsRow base e size v n xs := by
  refine ⟨h.1, h.2.imp id ?_⟩
  rintro ⟨g, cap, cur, e1, e2, e3, e4⟩
  exact ⟨g, cap, cur, e1, e2, (World.putObj_heap_other (fun e => by rw [e, hD] at e3; cases e3)).trans e3, e4⟩
theorem own_low {W : World} {base base' e size n : Nat} {v : Value} {xs : List Value} (h : W.ownsRow base e size v n xs) (hb : base' ≤ base) : W.ownsRow base' e size v n xs := by
  refine ⟨h.1, h.2.imp id ?_⟩
  rintro ⟨g, cap, cur, e1, e2, e3⟩
  exact ⟨g, cap, cur, e1, Nat.le_trans hb e2, e3⟩
/-- The pairs at places. -/
def prL (L : List (List UInt8)) {m : Nat} (pre : List (Fin m)) : List (List UInt8) := pre.map fun j => pairAt L j.1
theorem prL_add (L : List (List UInt8)) {m : Nat} (pre : List (Fin m)) (x : Fin m) : prL L (pre ++ [x]) = prL L pre ++ [pairAt L x.1] := by simp [prL]
/-- What lies in memory between two rounds. -/
def NxI (w : World) (L : List (List UInt8)) {m : Nat} (pre : List (Fin m)) (W : World) : Prop :=
  ∃ (A : Option Addr) (c : Nat), Blk W w.heap.size 30 [.slice A pre.length c] ∧ W.ownsRow (w.heap.size + 3) 26 32 (.slice A pre.length c) pre.length (bc (prL L pre).flatten) ∧ Below w.heap.size w W ∧ w.heap.size + 3 ≤ W.heap.size
theorem nxI_own {w : World} {L : List (List UInt8)} {m B : Nat} (hB : w.heap.size + 3 ≤ B) : OwnFrom B (NxI w L (m := m)) := fun pre X Y row h hg hr => by
  obtain ⟨A, c, h1, h2, h3, h4⟩ := h
  exact ⟨A, c, blk_own (β := Unit) (B := B) () X Y row h1 hg hr, row_own (β := Unit) (B := B) () X Y row h2 hg hr, below_own (β := Unit) (B := B) (by omega) () X Y row h3 hg hr, Nat.le_trans h4 hg.size⟩
set_option maxRecDepth 100000 in
set_option maxHeartbeats 1600000 in
theorem nextRow_any (b o cap : Nat) (L : List (List UInt8)) (w : World) (hT : Tab w) (hd : D32 L) (hL : Bs w b o L.flatten) (h1 : 1 ≤ L.length) (hn : L.length ≤ 100000) (hcap : L.length ≤ cap) (hc63 : cap ≤ 9223372036854775807) :
    Calls Tryd.prog 68 #[.slice (some ⟨b, o, none⟩) L.length cap] w (RowP (pairsL sha tagN L) w) := by
  have HT := hide hT
  have HL := hide (And.intro hd hL)
  obtain ⟨m, hm⟩ : ∃ m, m = (L.length + 1) / 2 := ⟨_, rfl⟩
  have HM := hide hm
  have hb : b < w.heap.size := hL.lt (by rw [hd.flat]; omega)
  have HRP := hide (pairs_ups L m hm)
  clear hT hd hL hm
  refine (callsIn_wide (n := 4)).1 ?_
  refine callsIn_of_wp_marks Tryd.func68 rfl trivial ?_ rfl
  simp only [Tryd.ntmps68, List.size_toArray, List.length_cons, List.length_nil, Nat.reduceAdd, Nat.reduceSub, Array.replicate_succ, Array.replicate_zero, List.push_toArray, List.append_toArray, List.nil_append, List.cons_append]
  gi_wp2_with (refine ⟨trivial, ?_⟩; gi_at_call 85; refine (callsIn_wide.2 (chunkD_any _ _ _ _)).mono ?_; rintro e w' ⟨rfl, rfl⟩)
  have HW := hide (show NxI w L ([] : List (Fin m)) (((w.alloc (.cells #[.slice none 0 0] 30)).alloc (.cells #[.slice (some ⟨b, o, none⟩) L.length cap] 30)).alloc (.cells #[.int .i64 2] 3)) ∧
      (((w.alloc (.cells #[.slice none 0 0] 30)).alloc (.cells #[.slice (some ⟨b, o, none⟩) L.length cap] 30)).alloc (.cells #[.int .i64 2] 3)).heap.size = w.heap.size + 3 ∧
      (((w.alloc (.cells #[.slice none 0 0] 30)).alloc (.cells #[.slice (some ⟨b, o, none⟩) L.length cap] 30)).alloc (.cells #[.int .i64 2] 3)).cell? ⟨w.heap.size + 1, 0, none⟩ = some (.slice (some ⟨b, o, none⟩) L.length cap) ∧
      (((w.alloc (.cells #[.slice none 0 0] 30)).alloc (.cells #[.slice (some ⟨b, o, none⟩) L.length cap] 30)).alloc (.cells #[.int .i64 2] 3)).cell? ⟨w.heap.size + 2, 0, none⟩ = some (.int .i64 2) from by
    have b0 := Blk.new w 30 [.slice none 0 0]
    have b1 := Blk.new (w.alloc (.cells #[.slice none 0 0] 30)) 30 [.slice (some ⟨b, o, none⟩) L.length cap]
    have b2 := Blk.new ((w.alloc (.cells #[.slice none 0 0] 30)).alloc (.cells #[.slice (some ⟨b, o, none⟩) L.length cap] 30)) 3 [.int .i64 2]
    simp only [World.size_alloc] at b1 b2
    refine ⟨⟨none, 0, (b0.alloc _).alloc _, ⟨rfl, .inl ⟨rfl, rfl⟩⟩, ((below_new w _).alloc (by simp) _).alloc (by simp; omega) _, by simp⟩, by simp, ((b1.alloc _).cell 0).trans rfl, (b2.cell 0).trans rfl⟩)
  change Code.wpIn _ _ _ _ _ _ (((w.alloc (.cells #[.slice none 0 0] 30)).alloc (.cells #[.slice (some ⟨b, o, none⟩) L.length cap] 30)).alloc (.cells #[.int .i64 2] 3))
  generalize ((w.alloc (.cells #[.slice none 0 0] 30)).alloc (.cells #[.slice (some ⟨b, o, none⟩) L.length cap] 30)).alloc (.cells #[.int .i64 2] 3) = W0 at *
  refine wpIn_rangeFunc_ownG rfl (by omega) (gf := 98) (lb := #[.pointer (some ⟨w.heap.size + 1, 0, none⟩), .pointer (some ⟨w.heap.size + 1 + 1, 0, none⟩)]) rfl trivial (enters_of Tryd.func98 (by kernel_rfl) rfl)
    (chunkD_stops (4 - 1) (by omega) (w.heap.size + 1) (w.heap.size + 2) w.heap.size (w.heap.size + 3) b o L.length m cap HM.out (by omega) hcap hc63 W0 ⟨by omega, by omega⟩ ⟨by omega, by omega⟩ (by rw [HW.out.2.1]; omega) HW.out.2.2.1 HW.out.2.2.2)
    (fun h k => h.trans k) (fun W lb o o' hlb _ _ _ => Kx.put W lb o' (by rw [HW.out.2.1] at hlb; omega)) (Below.refl _ _) (fun _ => rfl)
    (NxI w L (m := m)) (fun _ _ _ => False) (nxI_own (by rw [HW.out.2.1]; omega)) (fun _ _ _ _ _ hs _ _ => hs) HW.out.1
    (fun x => { tmps := #[.slice (some ⟨b, o, none⟩) L.length cap, undef, .pointer (some ⟨w.heap.size, 0, none⟩), .slice (some ⟨b, o + 2 * x.1 * 32, none⟩) (two L.length x.1) (two L.length x.1), .slice (some ⟨b, o, none⟩) L.length cap, .func (.func 98) #[] #[.pointer (some ⟨w.heap.size + 1, 0, none⟩), .pointer (some ⟨w.heap.size + 1 + 1, 0, none⟩)], .slice (some ⟨b, o + 2 * x.1 * 32, none⟩) (two L.length x.1) (two L.length x.1), undef, undef, undef, undef, undef, undef], defers := [] }) ?assign ?body ?done ?stop
  case assign =>
    intro lr x W K hK
    simp only [encD]
    gi_wp2
    exact hK
  case body =>
    rintro lr pre x W ⟨A, c, h1, h2, h3, h4⟩ hlen
    have HI := hide (And.intro h1 (And.intro h2 (And.intro h3 h4)))
    have hx : 2 * x.1 < L.length := by have := HM.out; omega
    have hm1 : m ≤ 100000 := by have := HM.out; omega
    have HDL := hide (pairAt_len HL.out.1 hx)
    have HTG := hide (together_at L b o x.1 (two L.length x.1) W.drew (HT.out.below h3.drew) HL.out.1 ((HL.out.2.below h3 hb).move (w' := W.drew) rfl) hx)
    have HADD := hide (prL_add L pre x)
    have hcell : W.drew.cell? ⟨w.heap.size, 0, none⟩ = some (.slice A pre.length c) := (h1.cell 0).trans rfl
    have hlt0 : w.heap.size < W.drew.heap.size := h1.lt
    clear h1 h2 h3 h4
    gi_wp2
    refine wpIn_region_plan4 (fun W' => W'.cell? ⟨w.heap.size, 0, none⟩ = some (.slice A pre.length c)) (.take 0 (.take 1 (.run 2 (.run 3 (.run 4 (.last 5 .done)))))) (by kernel_rfl) (by kernel_rfl) hcell ?_
    (refine plan4_take (o := ?_) (v := ?_) (by simp only [List.getElem?_toArray, List.getElem?_cons_zero]; rfl) (yields_run (by rfl) ?_) ?_; rotate_left; (focus (intro w' hw'; skip; go_simp <;> with_reducible rfl)); (simp only [Act.put, List.setIfInBounds_toArray, List.set_cons_zero, List.set_cons_succ]))
    (refine plan4_take (o := ?_) (v := ?_) (by simp only [List.getElem?_toArray, List.getElem?_cons_succ, List.getElem?_cons_zero]; rfl) (yields_run (by rfl) ?_) ?_; rotate_left; (focus (intro w' hw'; skip; go_simp <;> with_reducible rfl)); (simp only [Act.put, List.setIfInBounds_toArray, List.set_cons_zero, List.set_cons_succ]))
    refine plan4_run (o := ?_) (by simp only [List.getElem?_toArray, List.getElem?_cons_succ, List.getElem?_cons_zero]; rfl) ?_
    intro R HR
    go_wp2_with fail
    with_reducible refine HTG.out.mono ?_
    rintro e w5 ⟨rfl, h5⟩
    have H5 := hide h5
    clear h5 HTG
    go_wp2_with fail
    refine HR.out _ _ (((Below.cell (p := ⟨w.heap.size, 0, none⟩) H5.out hlt0)).trans hcell) ?_
    clear HR
    refine plan4_run (o := ?_) (by simp only [List.getElem?_toArray, List.getElem?_cons_succ, List.getElem?_cons_zero]; rfl) ?_
    intro R HR
    generalize pairAt L x.1 = d at *
    have hbl : (bc d).length = 32 := by rw [bc_len]; exact HDL.out
    go_wp2_with fail
    rw [fold_dv d HDL.out]
    have HBN := hide (Blk.new w5 26 (bc d))
    have HB6 := hide (below_one H5.out (below_new w5 (.cells (bc d).toArray 26)))
    refine HR.out _ _ (((Below.cell (p := ⟨w.heap.size, 0, none⟩) HB6.out hlt0)).trans hcell) ?_
    clear HR
    refine plan4_run (o := ?_) (by simp only [List.getElem?_toArray, List.getElem?_cons_succ, List.getElem?_cons_zero]; rfl) ?_
    intro R HR
    have HBW := hide (show Below W.heap.size W (w5.alloc (.cells (bc d).toArray 26)) from ((Below.refl _ W).drew).trans HB6.out)
    have HO6 := hide (own_below HI.out.2.1 HBW.out)
    have hsz0 : w.heap.size ≤ (w5.alloc (.cells (bc d).toArray 26)).heap.size := by have := HI.out.2.2.2; have := HBW.out.size; omega
    have hsz6 := Nat.le_trans HI.out.2.2.2 HB6.out.size
    refine wpList_plain rfl ?_
    intro K' hK'
    refine wp_app26 (.tmp 7) (.tmp 10) rfl (w.heap.size + 3) _ pre.length (prL L pre) rfl HO6.out (some ⟨w5.heap.size, 0, none⟩) 1 1 [d] rfl (DSrc.one_of HBN.out HDL.out) (by omega) hsz6 (pre.length + 1) ((prL L pre) ++ [d]) rfl rfl ?_
    intro v7 w7 hown hg
    refine hK' _ _ ?_
    have HO7 := hide hown
    have HG7 := hide hg
    clear hown hg
    obtain ⟨A7, c7, rfl⟩ := own_form0 HO7.out
    have HC7 := hide (show w7.cell? ⟨w.heap.size, 0, none⟩ = some (.slice A pre.length c) from (World.cell?_of_block (a := ⟨w.heap.size, 0, none⟩) (HG7.out.block w.heap.size (Nat.lt_of_lt_of_le hlt0 HB6.out.size) (fun e => by have := (HO6.out.lt _ e.symm).1; omega))).trans (((Below.cell (p := ⟨w.heap.size, 0, none⟩) HB6.out hlt0)).trans hcell))
    refine HR.out _ _ HC7.out ?_
    clear HR
    refine plan4_last (o := ?_) (by simp only [List.getElem?_toArray, List.getElem?_cons_succ, List.getElem?_cons_zero]; rfl) ?_
    intro R HR
    have HB7 := hide (show Blk w7 w.heap.size 30 [.slice A pre.length c] from (HG7.out.block w.heap.size (Nat.lt_of_lt_of_le hlt0 HB6.out.size) (fun e => by have := (HO6.out.lt _ e.symm).1; omega)).trans (HI.out.1.below HBW.out hlt0))
    have f7 := HB7.out.free 0
    have c7' := HC7.out
    go_wp2_with fail
    refine HR.out _ _ ?_
    clear HR
    refine plan4_doneC ?_
    refine ⟨KeepsOthers.from ?_ _, ?_, ?_⟩
    · exact (((KeepsOthers.refl W).trans (others_below (HBW.out))).trans (KeepsOthers.of_grownBy HG7.out (own_cells HO6.out))).trans (KeepsOthers.setCell _ _ _)
    · exact ((Kx.below (HBW.out) HI.out.2.2.2).trans (Kx.own HG7.out HO6.out hsz6)).trans (Kx.set _ _)
    · exact ⟨A7, c7, by rw [List.length_append]; exact HB7.set 0 _, by rw [HADD.out, List.length_append]; exact own_set HO7.out (by omega), (((HI.out.2.2.1.trans (HBW.out.mono HI.out.2.2.1.size)).grown HG7.out hsz0 (fun k hk => by have := (HO6.out.lt k hk).1; omega)).setCell (Nat.le_refl _) _), by simp [World.setCell]; exact Nat.le_trans hsz6 HG7.out.size⟩
  case done =>
    rintro D ys W hD rfl ⟨A, c, h1, h2, h3, h4⟩ hK
    rw [show prL L (ups m) = pairsL sha tagN L from HRP.out] at h2
    have hlen : (ups m : List (Fin m)).length = (pairsL sha tagN L).length := by rw [ups_len (Nat.le_refl _), pairsL_len]; exact HM.out
    rw [hlen] at h1 h2
    have hz : w.heap.size < D := by have := HW.out.2.1; omega
    have HI := hide (And.intro h1 (And.intro h2 (And.intro h3 (And.intro h4 hK))))
    have c1 := (h1.cell 0).trans (List.getElem?_cons_zero ..)
    have f1 := h1.free 0
    clear h1 h2 h3 h4 hK hlen hD
    generalize pairsL sha tagN L = R at *
    gi_wp2
    have hB2 : Blk (W.setCell ⟨w.heap.size, 0, none⟩ (.slice A R.length c)) w.heap.size 30 [.slice A R.length c] := HI.out.1.set 0 _
    have hK2 : (W.setCell ⟨w.heap.size, 0, none⟩ (.slice A R.length c)).heap[D]? = some (.deferred (some [])) := (heap_setCell_other W ⟨w.heap.size, 0, none⟩ D _ (by simp only; omega)).trans HI.out.2.2.2.2
    have hB3 : Blk ((W.setCell ⟨w.heap.size, 0, none⟩ (.slice A R.length c)).putObj D (.deferred none)) w.heap.size 30 [.slice A R.length c] := (World.putObj_heap_other (by omega)).trans hB2
    refine leaves_one _ D _ (.slice A R.length c) hK2 (results_one rfl _ _ w.heap.size 30 _ rfl hB3 Tryd.underlying30 rfl) ⟨A, c, rfl, ?_, below_put (HI.out.2.2.1.setCell (Nat.le_refl _) _) (by omega) _⟩
    exact own_low (own_put (own_set HI.out.2.1 (by omega)) hK2) (by omega)
  case stop =>
    rintro D c pre W _ _ h _
    exact h.elim
end Go.Proofs.YthjfeodclphgaaaDoor

/- Root. -/
namespace Go.Proofs.YthjfeodclphgaaaDoor
open Go.RowKit Go.Shelf
def sNone : ByteArray := { data := #[110, 111, 110, 101] }
/-- The root. -/
def rootB (pl : List Lf) : List UInt8 := if pl.length = 0 then tagd [110, 111, 110, 101] [] else rootR sha tagN (rowF pl)
theorem rootR_len {L : List (List UInt8)} (hd : D32 L) (h : 1 ≤ L.length) : (rootR sha tagN L).length = 32 := by
  by_cases h1 : L.length ≤ 1
  · rw [rootR_one sha tagN h1]
    match L, h, h1 with
    | [d], _, _ => exact hd d (List.mem_singleton.2 rfl)
    | _ :: _ :: _, _, h => simp at h
  · rw [rootR_more sha tagN (by omega)]
    have := pairsL_len sha tagN L
    exact rootR_len (pairs_32 hd) (by omega)
termination_by L.length
decreasing_by omega
theorem rootB_len (pl : List Lf) : (rootB pl).length = 32 := by
  unfold rootB
  split
  · exact tagd_len _ _
  · exact rootR_len (rowF_32 pl) (by rw [rowF_len]; omega)
set_option maxRecDepth 20000 in
set_option maxHeartbeats 1600000 in
theorem root_nil (PA : Option Addr) (pc : Nat) (w : World) (hT : Tab w) : Calls Tryd.prog 38 #[.slice PA 0 pc] w fun e w' => e = .returned (dv (tagd [110, 111, 110, 101] [])) ∧ Below w.heap.size w w' := by
  have HR := hide (Blk.new w 26 (List.replicate 32 (.int .u8 0)))
  have HB := hide (below_new w (.cells (List.replicate 32 (.int .u8 0)).toArray 26))
  have HC := hide (tagged_any sNone none 0 0 [] (w.alloc (.cells (List.replicate 32 (.int .u8 0)).toArray 26)) (hT.below HB.out) (fun h => absurd rfl h) rfl (by decide) (by decide) (fun _ => rfl))
  have HS := hide (dv_size _ (tagd_len [110, 111, 110, 101] []))
  have HZ := hide (show (Tryd.prog.info? 26).map (·.size) = some ((bc (tagd [110, 111, 110, 101] [])).toArray).size by rw [HS.out]; exact Tryd.size26)
  have HO := hide (all_oneCell_toArray (bc_one (tagd [110, 111, 110, 101] [])))
  have HE := hide (show sNone.data.toList = [110, 111, 110, 101] from rfl)
  rw [HE.out] at HC
  clear hT
  generalize tagd [110, 111, 110, 101] [] = d at *
  go_enter Tryd.func38, Tryd.ntmps38
  go_wp2_with fail
  refine HC.out.mono ?_
  rintro e w2 ⟨rfl, hb⟩
  have HB2 := hide (below_one HB.out hb)
  have HR2 := hide (HR.out.below hb HR.out.lt)
  clear hb
  go_wp2_with (refine wpList_store_row rfl 26 (.tmp 2) (.tmp 7) rfl w.heap.size _ rfl rfl 26 _ HR2.out HZ.out (by rw [HS.out]; rfl) HO.out ?_)
  refine bodyPost_ret (v := dv d) (results_cell_row rfl _ _ w.heap.size 26 _ (0, 0) _ rfl (setRow_heap _ _ _ _ _ _ HR2.out) Tryd.underlying26 rfl HZ.out) rfl ⟨rfl, below_setRow HB2.out (Nat.le_refl _) _⟩
set_option maxRecDepth 20000 in
set_option maxHeartbeats 1600000 in
theorem root_some (PA : Option Addr) (pl : List Lf) (pc : Nat) (w : World) (hT : Tab w) (hl : LvIn w PA pl) (h1 : 1 ≤ pl.length) (hn : pl.length ≤ 70000) :
    Calls Tryd.prog 38 #[.slice PA pl.length pc] w fun e w' => e = .returned (dv (rootR sha tagN (rowF pl))) ∧ Below w.heap.size w w' := by
  have HT := hide hT
  have HR := hide (Blk.new w 26 (List.replicate 32 (.int .u8 0)))
  have HB := hide (below_new w (.cells (List.replicate 32 (.int .u8 0)).toArray 26))
  have HC := hide (firstRow_any PA pl pc (w.alloc (.cells (List.replicate 32 (.int .u8 0)).toArray 26)) (hT.below HB.out) (hl.below HB.out) hn)
  have HRL := hide (show (rowF pl).length = pl.length ∧ D32 (rowF pl) from ⟨rowF_len pl, rowF_32 pl⟩)
  have hne' : ((pl.length : Int) == 0) = false := by simp only [beq_eq_false_iff_ne, ne_eq]; omega
  have HRR := hide (rootR_len HRL.out.2 (by rw [HRL.out.1]; exact h1))
  clear hT hl
  generalize rowF pl = row at *
  generalize hr0 : rootR sha tagN row = r0 at *
  have HR0 := hide hr0
  clear hr0
  have HS := hide (dv_size _ HRR.out)
  have HZ := hide (show (Tryd.prog.info? 26).map (·.size) = some ((bc r0).toArray).size by rw [HS.out]; exact Tryd.size26)
  have HO := hide (all_oneCell_toArray (bc_one r0))
  go_enter Tryd.func38, Tryd.ntmps38
  go_wp2_with fail
  refine HC.out.mono ?_
  rintro e w2 ⟨A, c, rfl, h3, h4⟩
  obtain ⟨A', c', e', hds⟩ := own_dsrc h3 HRL.out.2 rfl
  cases e'
  have HD := hide hds
  have HB2 := hide (below_one HB.out h4)
  have HR2 := hide (HR.out.below h4 HR.out.lt)
  clear h3 h4 hds HC
  go_wp2_with fail
  go_loopw [3] (fun v wr => ∃ (L : List (List UInt8)) (A : Option Addr) (c : Nat), v = .slice A L.length c ∧ 1 ≤ L.length ∧ L.length ≤ 70000 ∧ Hid (rootR sha tagN L = r0) ∧ Hid (DSrc wr A L.length c L) ∧ Hid (Blk wr w.heap.size 26 (List.replicate 32 (.int .u8 0)) ∧ Below w.heap.size w wr)) (fun v _ => match v with | .slice _ n _ => n | _ => 0)
  case atStart => exact ⟨row, A, c, rfl, by have := HRL.out.1; omega, by have := HRL.out.1; omega, HR0, HD, hide ⟨HR2.out, HB2.out⟩⟩
  case round =>
    obtain ⟨L, A, c, rfl, hL1, hL2, HRO, HDS, HBB⟩ := hrel
    by_cases hlt : 1 < L.length
    · have hlt' : (1 : Int) < (L.length : Int) := by omega
      obtain ⟨b, o, rfl, hB⟩ := HDS.out.ds.at HDS.out.d32 hL1
      have HN := hide (nextRow_any b o c L wr (HT.out.below HBB.out.2) HDS.out.d32 hB hL1 (by omega) HDS.out.le HDS.out.top)
      have HRO2 := hide ((rootR_more sha tagN hlt).symm.trans HRO.out)
      have HP := hide (And.intro (pairsL_len sha tagN L) (pairs_32 HDS.out.d32))
      clear hB HRO
      generalize pairsL sha tagN L = L2 at *
      go_wp2_with fail
      with_reducible refine HN.out.mono ?_
      rintro e w3 ⟨A3, c3, rfl, h3, h4⟩
      obtain ⟨A', c', e', hds⟩ := own_dsrc h3 HP.out.2 rfl
      cases e'
      have HD3 := hide hds
      have HB3 := hide (And.intro (HBB.out.1.below h4 HBB.out.1.lt) (below_one HBB.out.2 h4))
      have hp := HP.out.1
      have hp1 : 1 ≤ L2.length := by omega
      have hp2 : L2.length ≤ 70000 := by omega
      have hp3 : L2.length < L.length := by omega
      clear hp h3 h4 hds HN
      go_wp2_with fail
      go_roundw
      case rel => exact ⟨L2, A3, c3, rfl, hp1, hp2, HRO2, HD3, HB3⟩
      case measure => exact hp3
    · have hlt' : ¬ (1 : Int) < (L.length : Int) := by omega
      obtain ⟨d, rfl⟩ : ∃ d, L = [d] := List.length_eq_one_iff.1 (by omega)
      have HRO2 := hide (show d = r0 by have := HRO.out; rw [rootR_one sha tagN (by simp)] at this; exact this)
      obtain rfl := HRO2.out
      obtain ⟨b, o, rfl, hB⟩ := HDS.out.ds.at HDS.out.d32 (by simp)
      have HG := hide (show wr.rangeAt b o (bc d) from by simpa using bs_range hB)
      have hc1 := HDS.out.le
      have hc2 := HDS.out.top
      clear HRO HRO2 hB HDS HD HR0
      go_wp2_with (first | (refine wpList_load_mid rfl 26 (.tmp 16) rfl b o rfl (bc d) _ HG.out Tryd.underlying26 rfl HZ.out ?_) | (refine wpList_store_row rfl 26 (.tmp 2) (.tmp 17) rfl w.heap.size _ rfl rfl 26 _ HBB.out.1 HZ.out (by rw [HS.out]; rfl) HO.out ?_))
      refine bodyPost_ret (v := dv d) (results_cell_row rfl _ _ w.heap.size 26 _ (0, 0) _ rfl (setRow_heap _ _ _ _ _ _ HBB.out.1) Tryd.underlying26 rfl HZ.out) rfl ⟨rfl, below_setRow HBB.out.2 (Nat.le_refl _) _⟩
theorem root_any (PA : Option Addr) (pl : List Lf) (pc : Nat) (w : World) (hT : Tab w) (hl : LvIn w PA pl) (hn : pl.length ≤ 70000) :
    Calls Tryd.prog 38 #[.slice PA pl.length pc] w fun e w' => e = .returned (dv (rootB pl)) ∧ Below w.heap.size w w' := by
  unfold rootB
  by_cases h : pl.length = 0
  · rw [if_pos h, h]; exact root_nil PA pc w hT
  · rw [if_neg h]; exact root_some PA pl pc w hT hl (by omega) hn
end Go.Proofs.YthjfeodclphgaaaDoor
