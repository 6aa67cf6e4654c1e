/- What Prove has collected after some rounds; memory between its rounds. -/
import Derived.Test.YthjfeodclphgaaaDoorLn
namespace Go.Proofs.YthjfeodclphgaaaDoor
open Go.RowKit Go.Shelf
/-- The row after k rows. -/
def rowK : List (List UInt8) → Nat → List (List UInt8)
  | L, 0 => L
  | L, k + 1 => rowK (pairsL sha tagN L) k
theorem rowK_add : ∀ (k : Nat) (L : List (List UInt8)), rowK L (k + 1) = pairsL sha tagN (rowK L k)
  | 0, _ => rfl
  | k + 1, L => rowK_add k (pairsL sha tagN L)
def colR : List (List UInt8) → List (Nat × Bool) → List (List UInt8)
  | _, [] => []
  | L, x :: xs => (if x.2 then [] else [L.getD (nb x.1) []]) ++ colR (pairsL sha tagN L) xs
theorem colR_add : ∀ (pre : List (Nat × Bool)) (L : List (List UInt8)) (x : Nat × Bool), colR L (pre ++ [x]) = colR L pre ++ (if x.2 then [] else [(rowK L pre.length).getD (nb x.1) []])
  | [], L, x => by simp [colR, rowK]
  | y :: pre, L, x => by
    simp only [List.cons_append, colR, List.length_cons, rowK, colR_add pre (pairsL sha tagN L) x, List.append_assoc]
theorem colR_way : ∀ (k : Nat) (L : List (List UInt8)) (i : Nat), L.length ≤ k → colR L (wayL L.length i) = proveR sha tagN L i
  | k, L, i, hk => by
    by_cases h1 : L.length ≤ 1
    · rw [wayL_one h1, proveR_one sha tagN h1]; rfl
    · cases k with
      | zero => omega
      | succ k =>
        rw [wayL_more (by omega), proveR_more sha tagN (by omega), ← colR_way k (pairsL sha tagN L) (i / 2) (by rw [pairsL_len]; omega), pairsL_len]
        rfl
theorem way_at : ∀ (pre : List (Nat × Bool)) (n i : Nat) (x : Nat × Bool) (rest : List (Nat × Bool)), i < n → wayL n i = pre ++ x :: rest → ∃ m q, 1 < m ∧ m ≤ n ∧ q < m ∧ x = (q, aloneB m q) ∧ wayL m q = x :: rest
  | [], n, i, x, rest, hi, h => by
    by_cases h1 : n ≤ 1
    · rw [wayL_one h1] at h; cases h
    · refine ⟨n, i, by omega, Nat.le_refl _, hi, ?_, h⟩
      rw [wayL_more (by omega)] at h
      injection h with h _
      exact h.symm
  | y :: pre, n, i, x, rest, hi, h => by
    by_cases h1 : n ≤ 1
    · rw [wayL_one h1] at h; cases h
    · rw [wayL_more (by omega)] at h
      injection h with _ h
      obtain ⟨m, q, h2, h3, h4, h5, h6⟩ := way_at pre _ _ x rest (by omega) h
      exact ⟨m, q, h2, by omega, h4, h5, h6⟩
theorem row_at : ∀ (pre : List (Nat × Bool)) (L : List (List UInt8)) (i : Nat) (x : Nat × Bool) (rest : List (Nat × Bool)), i < L.length → wayL L.length i = pre ++ x :: rest →
    1 < (rowK L pre.length).length ∧ (rowK L pre.length).length ≤ L.length ∧ x.1 < (rowK L pre.length).length ∧ x.2 = aloneB (rowK L pre.length).length x.1
  | [], L, i, x, rest, hi, h => by
    obtain ⟨h1, h2⟩ : 1 < L.length ∧ x = (i, aloneB L.length i) := by
      by_cases h1 : L.length ≤ 1
      · rw [wayL_one h1] at h; cases h
      · rw [wayL_more (by omega)] at h
        injection h with h _
        exact ⟨by omega, h.symm⟩
    subst h2
    exact ⟨h1, Nat.le_refl _, hi, rfl⟩
  | y :: pre, L, i, x, rest, hi, h => by
    by_cases h1 : L.length ≤ 1
    · rw [wayL_one h1] at h; cases h
    · rw [wayL_more (by omega)] at h
      injection h with _ h
      have hl := pairsL_len sha tagN L
      rw [← hl] at h
      obtain ⟨h2, h3, h4, h5⟩ := row_at pre (pairsL sha tagN L) (i / 2) x rest (by omega) h
      exact ⟨h2, Nat.le_trans h3 (by omega), h4, h5⟩
theorem rowK_32 : ∀ (k : Nat) (L : List (List UInt8)), D32 L → D32 (rowK L k)
  | 0, _, h => h
  | k + 1, _, h => rowK_32 k _ (pairs_32 h)
theorem colR_len : ∀ (pre : List (Nat × Bool)) (L : List (List UInt8)), (colR L pre).length = cntL pre
  | [], _ => rfl
  | x :: pre, L => by
    rw [colR, List.length_append, colR_len pre]
    unfold cntL
    cases h : x.2 <;> simp [h]
    omega
/-- append, and where its answer lies. -/
theorem wp_app26x {w : World} {o : Oper} {a : Act} {K : Act → World → Prop} {Q : Exit → Act → World → Prop} (s x : Operand) (ho : o.op = .call { callee := .builtin .append, args := #[s, x], argTypes := #[30, 30] })
    (base n cap : Nat) (P : Option Addr) (xs : List (List UInt8)) (hs : a.eval s = .slice P n cap) (hown : w.ownsRow base 26 32 (.slice P n cap) n (bc xs.flatten)) (A : Option Addr) (m c : Nat) (l : List (List UInt8)) (hx : a.eval x = .slice A m c) (hS : DSrc w A m c l)
    (hb : n + m ≤ 1000000) (hbase : base ≤ w.heap.size) (N : Nat) (L : List (List UInt8)) (hN : N = n + m) (hL : L = xs ++ l)
    (h : ∀ P' cap' w', w'.ownsRow base 26 32 (.slice P' N cap') N (bc L.flatten) → w.grownBy w' (Value.slice P n cap).ownBlock → (∀ k, (Value.slice P' N cap').ownBlock = some k → (Value.slice P n cap).ownBlock = some k ∨ w.heap.size ≤ k) → K (a.put o.dst (.slice P' N cap')) w') : o.wp Tryd.prog a w K Q := by
  rcases hown.2 with ⟨e, h0⟩ | ⟨g, cap1, cur, e, h1⟩
  · injection e with e1 e2 e3
    subst e1; subst e2; subst e3
    have hown2 : w.ownsRow w.heap.size 26 32 (.slice none 0 0) 0 (bc xs.flatten) := ⟨hown.1, .inl ⟨rfl, rfl⟩⟩
    refine wp_app26 s x ho w.heap.size _ 0 xs hs hown2 A m c l hx hS hb (Nat.le_refl _) N L hN hL ?_
    intro v' w' h2 h3
    obtain ⟨P', c', rfl⟩ := own_form0 h2
    exact h P' c' w' (own_low h2 hbase) h3 fun k hk => .inr (h2.lt k hk).1
  · injection e with e1 e2 e3
    subst e1; subst e3
    refine wp_app26f s x ho base g n cap xs hs hown A m c l hx hS hb hbase N L hN hL ?_
    intro g' cap' w' h2 h3 h4
    refine h _ cap' w' h2 h3 fun k hk => ?_
    have hk' : g' = k := by simpa [Value.ownBlock] using hk
    subst hk'
    rcases h4 with rfl | rfl
    · exact .inl rfl
    · exact .inr (Nat.le_refl _)
theorem results_one_tmp {P : Program} {fn : Func} {p u : Tmp} {ty : TypeId} {d : TypeDesc} (h : fn.results = #[.cell p ty, .tmp u]) (tmps : Array Value) (w : World) (g T : Nat) (v x : Value)
    (hp : tmps.getD p undef = .pointer (some ⟨g, 0, none⟩)) (hx : tmps.getD u undef = x) (hg : Blk w g T [v]) (hu : P.underlying ty = some d) (hd : (match d with | .struct _ | .array _ _ => true | _ => false) = false) :
    (results fn tmps).run P w = .ok (.tuple #[v, x]) w := by
  have hp' : tmps[p]?.getD undef = .pointer (some ⟨g, 0, none⟩) := by simpa using hp
  have hx' : tmps[u]?.getD undef = x := by simpa using hx
  have hc : w.cell? ⟨g, 0, none⟩ = some v := (hg.cell 0).trans rfl
  have hl : (loadVar ty ⟨g, 0, none⟩).run P w = .ok v w := by
    simp [loadVar, run_isAgg_plain hu hd w, go_sem, hc]
  simp [results, h, hp', hx', asAddr, hl]
theorem bs_own {β : Type} {B b o : Nat} {l : List UInt8} : OwnFrom B (fun (_ : β) W => Bs W b o l) := fun _ _ _ _ h hg hr i hi => cell_kept (h i hi) hg fun r e => (hr r e).2
end Go.Proofs.YthjfeodclphgaaaDoor

/- Prove. -/
namespace Go.Proofs.YthjfeodclphgaaaDoor
open Go.RowKit Go.Shelf
attribute [local go_sem] Oper.semAt_some
set_option maxRecDepth 20000 in
theorem prove_no (PA : Option Addr) (n pc : Nat) (i : Int) (w : World) (h : leafB (n : Nat) i = false) :
    Calls Tryd.prog 36 #[.slice PA n pc, .int .i64 i] w fun e w' => e = .returned (.tuple #[.slice none 0 0, .int .i64 1]) ∧ Below w.heap.size w w' := by
  have HL := hide (isLeaf_any (n : Nat) i (w.alloc (.cells #[.slice none 0 0] 30)))
  rw [h] at HL
  have HB := hide (below_new w (.cells #[.slice none 0 0] 30))
  have HK := hide (Blk.new w 30 [.slice none 0 0])
  clear h
  go_enter Tryd.func36, Tryd.ntmps36
  go_wp2_with fail
  refine HL.out.mono ?_
  rintro e w' ⟨rfl, rfl⟩
  go_wp2_with fail
  refine bodyPost_ret (v := .tuple #[.slice none 0 0, .int .i64 1]) (results_one_tmp rfl _ _ w.heap.size 30 _ _ rfl rfl HK.out Tryd.underlying30 rfl) rfl ⟨rfl, HB.out⟩
/-- What lies in memory between two rounds. -/
def PvI (w : World) (X : Nat) (L : List (List UInt8)) (pre : List (Nat × Bool)) (W : World) : Prop :=
  ∃ (P : Option Addr) (c b o cr : Nat), Blk W w.heap.size 30 [.slice P (cntL pre) c] ∧ W.ownsRow (X + 3) 26 32 (.slice P (cntL pre) c) (cntL pre) (bc (colR L pre).flatten) ∧
    Blk W X 30 [.slice (some ⟨b, o, none⟩) (rowK L pre.length).length cr] ∧ Bs W b o (rowK L pre.length).flatten ∧ (rowK L pre.length).length ≤ cr ∧ cr ≤ 9223372036854775807 ∧
    (Value.slice P (cntL pre) c).ownBlock ≠ some b ∧ b ≠ w.heap.size ∧ b ≠ X ∧ w.heap.size < X ∧ Below w.heap.size w W ∧ X + 3 ≤ W.heap.size
theorem pvI_own {w : World} {X : Nat} {L : List (List UInt8)} {B : Nat} (hB : w.heap.size ≤ B) : OwnFrom B (PvI w X L) := fun pre Y Z row h hg hr => by
  obtain ⟨P, c, b, o, cr, h1, h2, h3, h4, h5, h6, h7, h8, h9, h10, h11, h12⟩ := h
  exact ⟨P, c, b, o, cr, blk_own (β := Unit) (B := B) () Y Z row h1 hg hr, row_own (β := Unit) (B := B) () Y Z row h2 hg hr, blk_own (β := Unit) (B := B) () Y Z row h3 hg hr, bs_own (β := Unit) (B := B) () Y Z row h4 hg hr, h5, h6, h7, h8, h9, h10, below_own (β := Unit) (B := B) hB () Y Z row h11 hg hr, Nat.le_trans h12 hg.size⟩
theorem pvI_alloc {w : World} {X : Nat} {L : List (List UInt8)} {pre : List (Nat × Bool)} {W : World} (h : PvI w X L pre W) (ob : Obj) : PvI w X L pre (W.alloc ob) :=
  pvI_own (Nat.le_refl _) pre W (W.alloc ob) none h (only_of_below (below_new W ob) none) fun r e => by cases e
/-- What the region's loads find. -/
def PvS (s X Y b o : Nat) (v r : Value) (p : Int) (al : Bool) (d : List UInt8) (W : World) : Prop :=
  W.cell? ⟨s, 0, none⟩ = some v ∧ W.cell? ⟨X, 0, none⟩ = some r ∧ W.cell? ⟨Y, 0, none⟩ = some (.int .i64 p) ∧ W.cell? ⟨Y, 1, none⟩ = some (.bool al) ∧ W.rangeAt b o (bc d)
theorem PvS.below {s X Y b o : Nat} {v r : Value} {p : Int} {al : Bool} {d : List UInt8} {W W' : World} (h : PvS s X Y b o v r p al d W) (hb : Below W.heap.size W W') (hl : s < W.heap.size ∧ X < W.heap.size ∧ Y < W.heap.size ∧ b < W.heap.size) : PvS s X Y b o v r p al d W' :=
  ⟨(hb.cell (p := ⟨s, 0, none⟩) hl.1).trans h.1, (hb.cell (p := ⟨X, 0, none⟩) hl.2.1).trans h.2.1, (hb.cell (p := ⟨Y, 0, none⟩) hl.2.2.1).trans h.2.2.1, (hb.cell (p := ⟨Y, 1, none⟩) hl.2.2.1).trans h.2.2.2.1, range_below h.2.2.2.2 hb hl.2.2.2⟩
theorem PvS.grown {s X Y b o : Nat} {v r : Value} {p : Int} {al : Bool} {d : List UInt8} {W W' : World} {row : Option Nat} (h : PvS s X Y b o v r p al d W) (hg : W.grownBy W' row) (h1 : row = some s → False) (h2 : row = some X → False) (h3 : row = some Y → False) (h4 : row ≠ some b)
    (l1 : s < W.heap.size) (l2 : X < W.heap.size) (l3 : Y < W.heap.size) (l4 : b < W.heap.size) : PvS s X Y b o v r p al d W' := by
  have k1 := hg.block s l1 (fun e => h1 e.symm)
  have k2 := hg.block X l2 (fun e => h2 e.symm)
  have k3 := hg.block Y l3 (fun e => h3 e.symm)
  have k4 := hg.block b l4 (fun e => h4 e.symm)
  exact ⟨(World.cell?_of_block (a := ⟨s, 0, none⟩) k1).trans h.1, (World.cell?_of_block (a := ⟨X, 0, none⟩) k2).trans h.2.1, (World.cell?_of_block (a := ⟨Y, 0, none⟩) k3).trans h.2.2.1, (World.cell?_of_block (a := ⟨Y, 1, none⟩) k3).trans h.2.2.2.1, fun j v hv => (World.cell?_of_block (a := ⟨b, o + j, none⟩) k4).trans (h.2.2.2.2 j v hv)⟩
theorem own_type {W : World} {base e size n Y T : Nat} {v : Value} {xs cs : List Value} (h : W.ownsRow base e size v n xs) (hv : v.ownBlock = some Y) (hY : Blk W Y T cs) (hT : T ≠ e) : False := by
  rcases h.2 with ⟨rfl, _⟩ | ⟨g, cap, cur, rfl, _, hg, _⟩
  · cases hv
  · have : g = Y := by simpa [Value.ownBlock] using hv
    subst this
    unfold Blk at hY
    rw [hg] at hY
    injection hY with hY
    injection hY with _ hY _
    exact hT hY.symm
theorem Blk.apart' {w : World} {X T s : Nat} {cs : List Value} (h : Blk w X T cs) (hne : X ≠ s) (v : Value) : Blk (w.setCell ⟨s, 0, none⟩ v) X T cs := h.apart (by simpa using hne) v
set_option maxRecDepth 100000 in
set_option maxHeartbeats 3200000 in
theorem prove_yes (PA : Option Addr) (pl : List Lf) (pc : Nat) (i : Nat) (w : World) (hT : Tab w) (hl : LvIn w PA pl) (hi : i < pl.length) (hn : pl.length ≤ 65536) :
    Calls Tryd.prog 36 #[.slice PA pl.length pc, .int .i64 (i : Nat)] w fun e w' => ∃ (A : Option Addr) (cap : Nat), e = .returned (.tuple #[.slice A (proveR sha tagN (rowF pl) i).length cap, .int .i64 0]) ∧
      w'.ownsRow w.heap.size 26 32 (.slice A (proveR sha tagN (rowF pl) i).length cap) (proveR sha tagN (rowF pl) i).length (bc (proveR sha tagN (rowF pl) i).flatten) ∧ Below w.heap.size w w' := by
  have HLB := hide (show leafB (pl.length : Nat) (i : Nat) = true by unfold leafB; simp; omega)
  have HL := hide (isLeaf_any (pl.length : Nat) (i : Nat) (w.alloc (.cells #[.slice none 0 0] 30)))
  rw [HLB.out] at HL
  have HB := hide (below_new w (.cells #[.slice none 0 0] 30))
  have HK := hide (Blk.new w 30 [.slice none 0 0])
  have HF := hide (firstRow_any PA pl pc (w.alloc (.cells #[.slice none 0 0] 30)) (hT.below HB.out) (hl.below HB.out) (by omega))
  have HT := hide hT
  have HCL := hide (colR_way pl.length (rowF pl) i (by rw [rowF_len]; exact Nat.le_refl _))
  have HRL := hide (And.intro (rowF_len pl) (rowF_32 pl))
  have HWL := hide (wayL_len 16 pl.length i (by omega))
  clear hT hl
  generalize rowF pl = L at *
  generalize proveR sha tagN L i = R at *
  have hLn : L.length = pl.length := HRL.out.1
  generalize pl.length = n at *
  have HLn := hide hLn
  clear hLn
  refine (callsIn_wide (n := 4)).1 ?_
  refine callsIn_of_wp_marks Tryd.func36 rfl trivial ?_ rfl
  simp only [Tryd.ntmps36, List.size_toArray, List.length_cons, List.length_nil, Nat.reduceAdd, Nat.reduceSub, Array.replicate_succ, Array.replicate_zero, List.push_toArray, List.append_toArray, List.nil_append, List.cons_append]
  gi_wp2_with fail
  refine ⟨trivial, ?_⟩
  refine (callsIn_wide.2 HL.out).mono ?_
  rintro e w' ⟨rfl, rfl⟩
  gi_wp2_with fail
  refine ⟨trivial, ?_⟩
  refine (callsIn_wide.2 HF.out).mono ?_
  rintro e w2 ⟨A, c, rfl, h3, h4⟩
  obtain ⟨A', c', e', hds⟩ := own_dsrc h3 HRL.out.2 rfl
  cases e'
  obtain ⟨b, o, rfl, hB⟩ := hds.ds.at hds.d32 (by have := HLn.out; omega)
  have HD := hide (And.intro hB (And.intro hds.le hds.top))
  have hbb := (h3.lt b rfl).1
  have HB2 := hide (And.intro (below_one HB.out h4) (HK.out.below h4 HK.out.lt))
  have hz2 : w.heap.size < w2.heap.size := Nat.lt_of_lt_of_le HK.out.lt h4.size
  simp only [World.size_alloc] at hbb
  clear h3 h4 hds hB HF HL HLB
  gi_wp2_with fail
  refine ⟨trivial, ?_⟩
  refine (callsIn_wide.2 (steps_any _ _ _)).mono ?_
  rintro e w' ⟨rfl, rfl⟩
  gi_wp2_with fail
  have hbl2 : b < w2.heap.size := HD.out.1.lt (by have := HRL.out.2.flat; have := HLn.out; omega)
  have HW := hide (show PvI w w2.heap.size L [] (((w2.alloc (.cells #[.slice (some ⟨b, o, none⟩) L.length c] 30)).alloc (.cells #[.int .i64 (n : Nat)] 3)).alloc (.cells #[.int .i64 (i : Nat)] 3)) ∧ (((w2.alloc (.cells #[.slice (some ⟨b, o, none⟩) L.length c] 30)).alloc (.cells #[.int .i64 (n : Nat)] 3)).alloc (.cells #[.int .i64 (i : Nat)] 3)).heap.size = w2.heap.size + 3 ∧ (((w2.alloc (.cells #[.slice (some ⟨b, o, none⟩) L.length c] 30)).alloc (.cells #[.int .i64 (n : Nat)] 3)).alloc (.cells #[.int .i64 (i : Nat)] 3)).cell? ⟨w2.heap.size + 1, 0, none⟩ = some (.int .i64 (n : Nat)) ∧ (((w2.alloc (.cells #[.slice (some ⟨b, o, none⟩) L.length c] 30)).alloc (.cells #[.int .i64 (n : Nat)] 3)).alloc (.cells #[.int .i64 (i : Nat)] 3)).cell? ⟨w2.heap.size + 1 + 1, 0, none⟩ = some (.int .i64 (i : Nat)) from by
    have b0 := Blk.new w2 30 [.slice (some ⟨b, o, none⟩) L.length c]
    have b1 := Blk.new (w2.alloc (.cells #[.slice (some ⟨b, o, none⟩) L.length c] 30)) 3 [.int .i64 (n : Nat)]
    have b2 := Blk.new ((w2.alloc (.cells #[.slice (some ⟨b, o, none⟩) L.length c] 30)).alloc (.cells #[.int .i64 (n : Nat)] 3)) 3 [.int .i64 (i : Nat)]
    simp only [World.size_alloc] at b1 b2
    have hbel : Below w2.heap.size w2 (((w2.alloc (.cells #[.slice (some ⟨b, o, none⟩) L.length c] 30)).alloc (.cells #[.int .i64 (n : Nat)] 3)).alloc (.cells #[.int .i64 (i : Nat)] 3)) := ((below_new w2 _).alloc (by simp) _).alloc (by simp; omega) _
    refine ⟨⟨none, 0, b, o, c, HB2.out.2.below hbel hz2, ⟨rfl, .inl ⟨rfl, rfl⟩⟩, (b0.alloc _).alloc _, HD.out.1.below hbel hbl2, HD.out.2.1, HD.out.2.2, (by intro e; cases e), by omega, by omega, hz2, below_one HB2.out.1 hbel, by simp⟩, by simp, ((b1.alloc _).cell 0).trans rfl, (b2.cell 0).trans rfl⟩)
  change Code.wpIn _ _ _ _ _ _ (((w2.alloc (.cells #[.slice (some ⟨b, o, none⟩) L.length c] 30)).alloc (.cells #[.int .i64 (n : Nat)] 3)).alloc (.cells #[.int .i64 (i : Nat)] 3))
  generalize ((w2.alloc (.cells #[.slice (some ⟨b, o, none⟩) L.length c] 30)).alloc (.cells #[.int .i64 (n : Nat)] 3)).alloc (.cells #[.int .i64 (i : Nat)] 3) = W0 at *
  generalize w2.heap.size = X at *
  clear HD HB2 HB HK hbl2 hbb
  have hwX := hz2
  refine wp_rangeS rfl (by omega) (gf := 84) (lb := #[.pointer (some ⟨X + 1, 0, none⟩), .pointer (some ⟨X + 1 + 1, 0, none⟩)]) rfl trivial (enters_of Tryd.func84 (by kernel_rfl) rfl)
    (steps_gives (4 - 1) (by omega) (X + 1) (X + 1 + 1) n i hn hi W0 (by rw [HW.out.2.1]; omega) HW.out.2.2.1 HW.out.2.2.2) (Below.refl _ _) (fun _ => rfl)
    (PvI w X L) (fun _ _ _ => False) (pvI_own (by rw [HW.out.2.1]; omega)) (fun _ _ _ _ _ hs _ _ => hs) HW.out.1
    (fun pre x a W => PvI w X L pre W ∧ AxS (X + 3) (fun Y => { tmps := #[.slice PA n pc, .int .i64 (i : Nat), undef, undef, .pointer (some ⟨w.heap.size, 0, none⟩), .int .i64 0, .pointer (some ⟨X, 0, none⟩), .pointer (some ⟨Y, 0, none⟩), .slice PA n pc, .int .i64 (n : Nat), .int .i64 (i : Nat), .bool true, .bool false, .slice PA n pc, .slice (some ⟨b, o, none⟩) L.length c, .slice PA n pc, .int .i64 (n : Nat), .int .i64 (i : Nat), .func (.func 84) #[] #[.pointer (some ⟨X + 1, 0, none⟩), .pointer (some ⟨X + 1 + 1, 0, none⟩)], .agg #[.int .i64 (x.1 : Nat), .bool x.2], undef, undef, undef, undef, undef, undef, undef, undef, undef, undef, undef, undef, undef, undef], defers := [] }) x a W)
    (fun pre x a' s A B row hs hg hr => ⟨pvI_own (by rw [HW.out.2.1]; omega) pre A B row hs.1 hg hr, axS_own x a' s A B row hs.2 hg hr⟩) ?assign ?body ?done ?stop
  case assign =>
    intro lr pre x W K hI hK
    simp only [encS]
    have HI := hide hI
    have HKK := hide hK
    clear hI hK
    gi_wp2
    refine HKK.out _ _ ((KeepsOthers.alloc W _).from _) ⟨?_, ?_⟩
    · obtain ⟨P, c, b, o, cr, h1, h2, h3, h4, h5, h6, h7, h8, h9, h10, h11, h12⟩ := HI.out
      exact pvI_alloc HI.out _
    · obtain ⟨P, c, b, o, cr, h1, h2, h3, h4, h5, h6, h7, h8, h9, h10, h11, h12⟩ := HI.out
      exact ⟨W.heap.size, rfl, Blk.new W 82 [.int .i64 (x.1 : Nat), .bool x.2], h12⟩
  case body =>
    rintro lr pre x a' W ⟨rest, hwy⟩ ⟨hI, Y, rfl, hX, hX2⟩
    obtain ⟨P, cp, b1, o1, cr, h1, h2, h3, h4, h5, h6, h7, h8, h9, h10, h11, h12⟩ := hI
    have HI := hide (And.intro h1 (And.intro h2 (And.intro h3 (And.intro h4 (And.intro h7 (And.intro h11 h12))))))
    have HHX := hide hX
    have c1 : W.cell? ⟨Y, 1, none⟩ = some (.bool x.2) := (hX.cell 1).trans rfl
    have hcl : cntL pre ≤ 100 := by have := cntL_le pre; have := HWL.out; rw [hwy] at this; simp at this; omega
    have HAD := hide (cntL_add pre x)
    have HCA := hide (colR_add pre L x)
    rw [← HLn.out] at hwy hi
    obtain ⟨r1, r2, r3, r4⟩ := row_at pre L i x rest hi hwy
    have r2' : (rowK L pre.length).length ≤ 65536 := by have := HLn.out; omega
    have HM := hide (show rowK L pre.length = rowK L pre.length ∧ D32 (rowK L pre.length) ∧ (rowK L pre.length).length ≤ cr ∧ cr ≤ 9223372036854775807 from ⟨rfl, rowK_32 pre.length L HRL.out.2, h5, h6⟩)
    have HLP := hide (show (pre ++ [x]).length = pre.length + 1 by simp)
    clear hX h1 h2 h3 h4 h5 h6 h7 h11 h12 hwy r2
    obtain ⟨M, hM⟩ : ∃ M, rowK L pre.length = M := ⟨_, rfl⟩
    rw [hM] at HI HM HCA r1 r2' r3 r4
    replace HM := hide HM.out.2
    have HM0 := hide hM
    clear hM
    obtain ⟨p, al⟩ := x
    simp only at c1 HHX HAD HCA r3 r4 HLP
    cases al with
    | true =>
      have HCT := hide (show cntL (pre ++ [(p, true)]) = cntL pre by rw [HAD.out]; simp)
      have HCR := hide (show colR L (pre ++ [(p, true)]) = colR L pre by rw [HCA.out]; simp)
      have HH := hide (And.intro HI.out.2.1 (And.intro HI.out.1 HI.out.2.2))
      clear r4 HAD HCA
      have c6 : W.cell? ⟨X, 0, none⟩ = some (.slice (some ⟨b1, o1, none⟩) M.length cr) := (HH.out.2.2.1.cell 0).trans rfl
      have HN := hide (nextRow_any b1 o1 cr M W (HT.out.below HH.out.2.2.2.2.2.1) HM.out.1 HH.out.2.2.2.1 (by omega) (by omega) HM.out.2.1 HM.out.2.2)
      have HP := hide (And.intro (pairsL_len sha tagN M) (pairs_32 HM.out.1))
      have HRK := hide (rowK_add pre.length L)
      rw [HM0.out] at HRK
      generalize pairsL sha tagN M = M2 at *
      gi_wp2_with fail
      refine ⟨trivial, ?_⟩
      refine (CallsIn.inRound lr (callsIn_wide.2 HN.out)).mono ?_
      rintro e w7 ⟨A7, c7, rfl, h3, h4⟩
      obtain ⟨A', c', e', hds⟩ := own_dsrc h3 HP.out.2 rfl
      cases e'
      obtain ⟨b7, o7, rfl, hB7⟩ := hds.ds.at hds.d32 (by have := HP.out.1; omega)
      have HD7 := hide (And.intro hB7 (And.intro hds.le hds.top))
      have hb7 : W.heap.size ≤ b7 := (h3.lt b7 rfl).1
      have HB7 := hide h4
      have HX7 := hide (HH.out.2.2.1.below h4 HH.out.2.2.1.lt)
      have f7 := HX7.out.free 0
      have c7x : w7.cell? ⟨X, 0, none⟩ = some (.slice (some ⟨b1, o1, none⟩) M.length cr) := (HX7.out.cell 0).trans rfl
      have hXW := HH.out.2.2.1.lt
      have hz6 := HH.out.2.2.2.2.2.2
      clear h3 h4 hds hB7 HN c6
      gi_wp2_with fail
      refine ⟨?_, P, cp, b7, o7, c7, ?_, ?_, ?_, ?_, ?_, ?_, ?_, ?_, ?_, ?_, ?_, ?_⟩
      · exact ((others_below HB7.out).trans (KeepsOthers.setCell _ _ _)).from _
      · rw [HCT.out]; exact Blk.apart' (HH.out.2.1.below HB7.out HH.out.2.1.lt) (by omega) _
      · rw [HCT.out, HCR.out]; exact own_set (own_below HH.out.1 HB7.out) (by omega)
      · rw [HLP.out, HRK.out]; exact HX7.out.set 0 _
      · rw [HLP.out, HRK.out]; exact HD7.out.1.move (heap_setCell_other w7 ⟨X, 0, none⟩ b7 _ (by simp only; omega))
      · rw [HLP.out, HRK.out]; exact HD7.out.2.1
      · exact HD7.out.2.2
      · rw [HCT.out]; intro e; have := (HH.out.1.lt b7 e).2; omega
      · omega
      · omega
      · exact hwX
      · exact ((HH.out.2.2.2.2.2.1.trans (HB7.out.mono HH.out.2.2.2.2.2.1.size)).setCell (show w.heap.size ≤ X by omega) _)
      · simp [World.setCell]; have := HB7.out.size; omega
    | false =>
      have hnb : nb p < M.length := by have := r4; unfold aloneB at this; simp at this; exact this
      have HDM := hide (bs_one HM.out.1 HI.out.2.2.2.1 (nb p) hnb)
      have HDL := hide (HM.out.1 _ (List.getElem_mem hnb))
      have HGD := hide (show M.getD (nb p) [] = M[nb p] by rw [List.getD_eq_getElem?_getD, List.getElem?_eq_getElem hnb]; rfl)
      generalize M[nb p] = d at *
      have HCT := hide (show cntL (pre ++ [(p, false)]) = cntL pre + 1 by rw [HAD.out]; simp)
      have HCR := hide (show colR L (pre ++ [(p, false)]) = colR L pre ++ [d] by rw [HCA.out, HGD.out]; simp)
      have HZD := hide (show (Tryd.prog.info? 26).map (·.size) = some ((bc d).toArray).size by rw [dv_size _ HDL.out]; exact Tryd.size26)
      have HNB := hide (nb_any p false W.drew (by omega))
      have hb1W : b1 < W.heap.size := HI.out.2.2.2.1.lt (by rw [HM.out.1.flat]; omega)
      have hs1 : w.heap.size < W.drew.heap.size ∧ X < W.drew.heap.size ∧ Y < W.drew.heap.size ∧ b1 < W.drew.heap.size := ⟨HI.out.1.lt, HI.out.2.2.1.lt, HHX.out.lt, hb1W⟩
      have HS1 := hide (show PvS w.heap.size X Y b1 (o1 + nb p * 32) (.slice P (cntL pre) cp) (.slice (some ⟨b1, o1, none⟩) M.length cr) (p : Nat) false d W.drew from ⟨(HI.out.1.cell 0).trans rfl, (HI.out.2.2.1.cell 0).trans rfl, (HHX.out.cell 0).trans rfl, (HHX.out.cell 1).trans rfl, bs_range (by rw [Nat.mul_comm]; exact HDM.out)⟩)
      have hnb' : (nb p : Int) < (M.length : Int) := by omega
      have HYT := HHX.out
      have HOY : (Value.slice P (cntL pre) cp).ownBlock = some Y → False := fun e => own_type HI.out.2.1 e HYT (by decide)
      have HYT := hide HYT
      clear r4 HAD HCA HGD HDM
      gi_wp2
      refine wpIn_region_plan4 (PvS w.heap.size X Y b1 (o1 + nb p * 32) (.slice P (cntL pre) cp) (.slice (some ⟨b1, o1, none⟩) M.length cr) (p : Nat) false d) (.take 0 (.take 1 (.take 2 (.run 3 (.take 4 (.take 5 (.run 6 (.run 7 (.last 8 .done))))))))) (by kernel_rfl) (by kernel_rfl) HS1.out ?_
      (refine plan4_take (o := ?_) (v := ?_) (by simp only [List.getElem?_toArray, List.getElem?_cons_zero]; rfl) (yields_run (by rfl) ?_) ?_; rotate_left; (focus (intro w' hw'; obtain ⟨s0, s1, s2, s3, -⟩ := hw'; go_simp <;> with_reducible rfl)); (simp only [Act.put, List.setIfInBounds_toArray, List.set_cons_zero, List.set_cons_succ]))
      (refine plan4_take (o := ?_) (v := ?_) (by simp only [List.getElem?_toArray, List.getElem?_cons_succ, List.getElem?_cons_zero]; rfl) (yields_run (by rfl) ?_) ?_; rotate_left; (focus (intro w' hw'; obtain ⟨s0, s1, s2, s3, -⟩ := hw'; go_simp <;> with_reducible rfl)); (simp only [Act.put, List.setIfInBounds_toArray, List.set_cons_zero, List.set_cons_succ]))
      (refine plan4_take (o := ?_) (v := ?_) (by simp only [List.getElem?_toArray, List.getElem?_cons_succ, List.getElem?_cons_zero]; rfl) (yields_run (by rfl) ?_) ?_; rotate_left; (focus (intro w' hw'; obtain ⟨s0, s1, s2, s3, -⟩ := hw'; go_simp <;> with_reducible rfl)); (simp only [Act.put, List.setIfInBounds_toArray, List.set_cons_zero, List.set_cons_succ]))
      refine plan4_run (o := ?_) (by simp only [List.getElem?_toArray, List.getElem?_cons_succ, List.getElem?_cons_zero]; rfl) ?_
      intro R HR
      go_wp2_with fail
      with_reducible refine HNB.out.mono ?_
      rintro e w5 ⟨rfl, h5⟩
      have H5 := hide h5
      clear h5 HNB
      go_wp2_with fail
      refine HR.out _ _ (HS1.out.below H5.out hs1) ?_
      clear HR
      (refine plan4_take (o := ?_) (v := ?_) (by simp only [List.getElem?_toArray, List.getElem?_cons_succ, List.getElem?_cons_zero]; rfl) (yields_run (by rfl) ?_) ?_; rotate_left; (focus (intro w' hw'; skip; go_simp <;> with_reducible rfl)); (simp only [Act.put, List.setIfInBounds_toArray, List.set_cons_zero, List.set_cons_succ]))
      (refine plan4_take (o := ?_) (by simp only [List.getElem?_toArray, List.getElem?_cons_succ, List.getElem?_cons_zero]; rfl) (yieldsIf_load_mid (by rfl) 26 (.tmp 27) rfl b1 (o1 + nb p * 32) rfl (bc d) _ (fun _ h => h.2.2.2.2) Tryd.underlying26 rfl HZD.out) ?_; (simp only [Act.put, List.setIfInBounds_toArray, List.set_cons_zero, List.set_cons_succ]))
      refine plan4_run (o := ?_) (by simp only [List.getElem?_toArray, List.getElem?_cons_succ, List.getElem?_cons_zero]; rfl) ?_
      intro R HR
      have hbl : (bc d).length = 32 := by rw [bc_len]; exact HDL.out
      go_wp2_with fail
      rw [fold_dv d HDL.out]
      have HBN := hide (Blk.new w5 26 (bc d))
      have HB6 := hide (below_one H5.out (below_new w5 (.cells (bc d).toArray 26)))
      have HS6 := hide (HS1.out.below HB6.out hs1)
      have HBW := hide (show Below W.heap.size W (w5.alloc (.cells (bc d).toArray 26)) from ((Below.refl _ W).drew).trans HB6.out)
      refine HR.out _ _ HS6.out ?_
      clear HR
      refine plan4_run (o := ?_) (by simp only [List.getElem?_toArray, List.getElem?_cons_succ, List.getElem?_cons_zero]; rfl) ?_
      intro R HR
      have HO6 := hide (own_below HI.out.2.1 HBW.out)
      have hsz6 := Nat.le_trans HI.out.2.2.2.2.2.2 HBW.out.size
      refine wpList_plain rfl ?_
      intro K' hK'
      refine wp_app26x (.tmp 23) (.tmp 29) rfl (X + 3) (cntL pre) cp P (colR L pre) rfl HO6.out (some ⟨w5.heap.size, 0, none⟩) 1 1 [d] rfl (DSrc.one_of HBN.out HDL.out) (by omega) (by omega) (cntL pre + 1) (colR L pre ++ [d]) rfl rfl ?_
      intro P7 c7 w7 hown hg hap
      refine hK' _ _ ?_
      have HO7 := hide hown
      have HG7 := hide hg
      have HAP := hide (fun (k : Nat) (hk : (Value.slice P7 (cntL pre + 1) c7).ownBlock = some k) (hk2 : k < W.heap.size) => (hap k hk).resolve_right (by have := HBW.out.size; omega))
      clear hown hg hap
      have HS7 := hide (HS6.out.grown HG7.out (fun e => by have := (HO6.out.lt _ e).1; omega) (fun e => by have := (HO6.out.lt _ e).1; omega) (fun e => HOY e) HI.out.2.2.2.2.1 (Nat.lt_of_lt_of_le hs1.1 HB6.out.size) (Nat.lt_of_lt_of_le hs1.2.1 HB6.out.size) (Nat.lt_of_lt_of_le hs1.2.2.1 HB6.out.size) (Nat.lt_of_lt_of_le hs1.2.2.2 HB6.out.size))
      refine HR.out _ _ HS7.out ?_
      clear HR
      refine plan4_last (o := ?_) (by simp only [List.getElem?_toArray, List.getElem?_cons_succ, List.getElem?_cons_zero]; rfl) ?_
      intro R HR
      have HB7 := hide (show Blk w7 w.heap.size 30 [.slice P (cntL pre) cp] from (HG7.out.block w.heap.size (Nat.lt_of_lt_of_le HI.out.1.lt HBW.out.size) (fun e => by have := (HO6.out.lt _ e.symm).1; omega)).trans (HI.out.1.below HBW.out HI.out.1.lt))
      have f7 := HB7.out.free 0
      have c7' := HS7.out.1
      go_wp2_with fail
      refine HR.out _ _ ?_
      clear HR
      refine plan4_doneC ?_
      have HH := hide (show (w7.setCell ⟨w.heap.size, 0, none⟩ (.slice P7 (cntL pre + 1) c7)).ownsRow (X + 3) 26 32 (.slice P7 (cntL pre + 1) c7) (cntL pre + 1) (bc (colR L pre ++ [d]).flatten) ∧ Blk (w7.setCell ⟨w.heap.size, 0, none⟩ (.slice P7 (cntL pre + 1) c7)) w.heap.size 30 [.slice P7 (cntL pre + 1) c7] ∧ Blk (w7.setCell ⟨w.heap.size, 0, none⟩ (.slice P7 (cntL pre + 1) c7)) X 30 [.slice (some ⟨b1, o1, none⟩) M.length cr] ∧ Bs (w7.setCell ⟨w.heap.size, 0, none⟩ (.slice P7 (cntL pre + 1) c7)) b1 o1 M.flatten ∧ (Value.slice P7 (cntL pre + 1) c7).ownBlock ≠ some b1 ∧ Below w.heap.size w (w7.setCell ⟨w.heap.size, 0, none⟩ (.slice P7 (cntL pre + 1) c7)) ∧ X + 3 ≤ (w7.setCell ⟨w.heap.size, 0, none⟩ (.slice P7 (cntL pre + 1) c7)).heap.size from by
        refine ⟨own_set HO7.out (by omega), HB7.out.set 0 _, ?_, ?_, ?_, ?_, ?_⟩
        · exact Blk.apart' (show Blk w7 X 30 [.slice (some ⟨b1, o1, none⟩) M.length cr] from (HG7.out.block X (Nat.lt_of_lt_of_le HI.out.2.2.1.lt HBW.out.size) (fun e => by have := (HO6.out.lt _ e.symm).1; omega)).trans (HI.out.2.2.1.below HBW.out HI.out.2.2.1.lt)) (by omega) _
        · exact (((HI.out.2.2.2.1.below HBW.out hb1W).move (HG7.out.block b1 (Nat.lt_of_lt_of_le hb1W HBW.out.size) (fun e => HI.out.2.2.2.2.1 e.symm)))).move (heap_setCell_other w7 ⟨w.heap.size, 0, none⟩ b1 _ (by simp only; omega))
        · intro e; exact HI.out.2.2.2.2.1 (HAP.out b1 e hb1W)
        · exact ((HI.out.2.2.2.2.2.1.trans (HBW.out.mono HI.out.2.2.2.2.2.1.size)).grown HG7.out (by have := HBW.out.size; omega) (fun k hk => by have := (HO6.out.lt k hk).1; omega)).setCell (Nat.le_refl _) _
        · simp [World.setCell]; have := HG7.out.size; omega)
      have HKF := hide (show KeepsOthers W (w7.setCell ⟨w.heap.size, 0, none⟩ (.slice P7 (cntL pre + 1) c7)) from (((KeepsOthers.refl W).trans (others_below HBW.out)).trans (KeepsOthers.of_grownBy HG7.out (own_cells HO6.out))).trans (KeepsOthers.setCell _ _ _))
      clear HB7 HO7 HG7 HAP HS7 HS6 HBN HB6 HBW HO6 c7' f7 H5
      revert HH HKF
      generalize w7.setCell ⟨w.heap.size, 0, none⟩ (.slice P7 (cntL pre + 1) c7) = W8
      intro HH HKF
      have c6 : W8.cell? ⟨X, 0, none⟩ = some (.slice (some ⟨b1, o1, none⟩) M.length cr) := (HH.out.2.2.1.cell 0).trans rfl
      have HN := hide (nextRow_any b1 o1 cr M W8 (HT.out.below HH.out.2.2.2.2.2.1) HM.out.1 HH.out.2.2.2.1 (by omega) (by omega) HM.out.2.1 HM.out.2.2)
      have HP := hide (And.intro (pairsL_len sha tagN M) (pairs_32 HM.out.1))
      have HRK := hide (rowK_add pre.length L)
      rw [HM0.out] at HRK
      generalize pairsL sha tagN M = M2 at *
      gi_wp2_with fail
      refine ⟨trivial, ?_⟩
      refine (CallsIn.inRound lr (callsIn_wide.2 HN.out)).mono ?_
      rintro e w7 ⟨A7, c9, rfl, h3, h4⟩
      obtain ⟨A', c', e', hds⟩ := own_dsrc h3 HP.out.2 rfl
      cases e'
      obtain ⟨b7, o7, rfl, hB7⟩ := hds.ds.at hds.d32 (by have := HP.out.1; omega)
      have HD7 := hide (And.intro hB7 (And.intro hds.le hds.top))
      have hb7 : W8.heap.size ≤ b7 := (h3.lt b7 rfl).1
      have HB7 := hide h4
      have HX7 := hide (HH.out.2.2.1.below h4 HH.out.2.2.1.lt)
      have f7 := HX7.out.free 0
      have c7x : w7.cell? ⟨X, 0, none⟩ = some (.slice (some ⟨b1, o1, none⟩) M.length cr) := (HX7.out.cell 0).trans rfl
      have hXW := HH.out.2.2.1.lt
      have hz6 := HH.out.2.2.2.2.2.2
      clear h3 h4 hds hB7 HN c6
      gi_wp2_with fail
      refine ⟨?_, P7, c7, b7, o7, c9, ?_, ?_, ?_, ?_, ?_, ?_, ?_, ?_, ?_, ?_, ?_, ?_⟩
      · exact (HKF.out.trans ((others_below HB7.out).trans (KeepsOthers.setCell _ _ _))).from _
      · rw [HCT.out]; exact Blk.apart' (HH.out.2.1.below HB7.out HH.out.2.1.lt) (by omega) _
      · rw [HCT.out, HCR.out]; exact own_set (own_below HH.out.1 HB7.out) (by omega)
      · rw [HLP.out, HRK.out]; exact HX7.out.set 0 _
      · rw [HLP.out, HRK.out]; exact HD7.out.1.move (heap_setCell_other w7 ⟨X, 0, none⟩ b7 _ (by simp only; omega))
      · rw [HLP.out, HRK.out]; exact HD7.out.2.1
      · exact HD7.out.2.2
      · rw [HCT.out]; intro e; have := (HH.out.1.lt b7 e).2; omega
      · omega
      · omega
      · exact hwX
      · exact ((HH.out.2.2.2.2.2.1.trans (HB7.out.mono HH.out.2.2.2.2.2.1.size)).setCell (show w.heap.size ≤ X by omega) _)
      · simp [World.setCell]; have := HB7.out.size; omega
  case done =>
    rintro D ys W hD rfl ⟨P, cp, b1, o1, cr, h1, h2, h3, h4, h5, h6, h7, h8, h9, h10, h11, h12⟩ hK
    have hcl : cntL (wayL n i) = R.length := by rw [← colR_len (wayL n i) L, ← HCL.out, HLn.out]
    have hcr : colR L (wayL n i) = R := by rw [← HCL.out, HLn.out]
    rw [hcl] at h1 h2
    rw [hcr] at h2
    have hz : w.heap.size < D := by have := HW.out.2.1; omega
    have HI := hide (And.intro h1 (And.intro h2 (And.intro h11 hK)))
    have c1 : W.cell? ⟨w.heap.size, 0, none⟩ = some (.slice P R.length cp) := (h1.cell 0).trans rfl
    have f1 := h1.free 0
    clear h1 h2 h3 h4 h5 h6 h7 h8 h9 h10 h11 h12 hK hD hcl hcr
    gi_wp2
    have hB2 : Blk (W.setCell ⟨w.heap.size, 0, none⟩ (.slice P R.length cp)) w.heap.size 30 [.slice P R.length cp] := HI.out.1.set 0 _
    have hK2 : (W.setCell ⟨w.heap.size, 0, none⟩ (.slice P R.length cp)).heap[D]? = some (.deferred (some [])) := (heap_setCell_other W ⟨w.heap.size, 0, none⟩ D _ (by simp only; omega)).trans HI.out.2.2.2
    have hB3 : Blk ((W.setCell ⟨w.heap.size, 0, none⟩ (.slice P R.length cp)).putObj D (.deferred none)) w.heap.size 30 [.slice P R.length cp] := (World.putObj_heap_other (by omega)).trans hB2
    refine leaves_one _ D _ (.tuple #[.slice P R.length cp, .int .i64 0]) hK2 (results_one_tmp rfl _ _ w.heap.size 30 _ _ rfl rfl hB3 Tryd.underlying30 rfl) ⟨P, cp, rfl, ?_, below_put (HI.out.2.2.1.setCell (Nat.le_refl _) _) (by omega) _⟩
    exact own_low (own_put (own_set HI.out.2.1 (by omega)) hK2) (by omega)
  case stop =>
    rintro D c pre W _ _ h _
    exact h.elim
end Go.Proofs.YthjfeodclphgaaaDoor
