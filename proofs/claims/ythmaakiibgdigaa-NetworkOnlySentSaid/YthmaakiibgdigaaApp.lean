/- What 'append' and slice expressions do with slices of anything. -/
import Derived.Test.YthmaakiibgdigaaCmp
import Derived.ArgAppend
import Derived.Deep.AppendLies
import Derived.Deep.Upon
namespace Go.Proofs.Ythmaakiibgdigaa
open Go.RowKit

section
variable {P : Program} {w : World} {o : Oper} {a : Act} {K : Act → World → Prop} {Q : Exit → Act → World → Prop}
/-- What 'append' leaves: the row with the news behind it. -/
theorem wp_app (s x : Operand) (t : TypeId) (ho : o.op = .call { callee := .builtin .append, args := #[s, x], argTypes := #[t, t] })
    (base : Nat) (e : TypeId) (i : TypeInfo) (z : Value) (size bytes : Nat) (ht : P.underlying t = some (.slice e)) (hi : P.info? e = some i ∧ i.zero = some z ∧ i.size = size ∧ i.bytes = bytes) (hzs : z.cells.size = size) (hsz : 0 < size)
    (v : Value) (n : Nat) (xs : List Value) (hs : a.eval s = v) (hown : w.ownsRow base e size v n xs)
    (A : Option Addr) (m c : Nat) (news : List Value) (hx : a.eval x = .slice A m c) (hA : A = none → m = 0 ∧ c = 0) (hl : news.length = m * size) (hnews : ∀ ad, A = some ad → ∀ j u, news[j]? = some u → w.cell? (ad.add j) = some u) (h1 : ∀ u ∈ news, u.oneCell' = true)
    (h63 : n + m ≤ maxLen) (hbytes : (n + m) * bytes ≤ 140737488355328) (hbase : base ≤ w.heap.size)
    (h : ∀ A' cap w', w'.ownsRow base e size (.slice A' (n + m) cap) (n + m) (xs ++ news) → w.grownBy w' v.ownBlock → K (a.put o.dst (.slice A' (n + m) cap)) w') : o.wp P a w K Q := by
  cases A with
  | none =>
    obtain ⟨rfl, rfl⟩ := hA rfl
    have hn : news = [] := List.length_eq_zero_iff.1 (by simpa using hl)
    subst hn
    have hr := run_append_owned_none (P := P) (w := w) base t o.type e i size ht hi.1 v n xs hown
    obtain ⟨A', cap, rfl⟩ := own_form hown
    have h' := h A' cap w (by simpa using hown) ⟨rfl, rfl, rfl, Nat.le_refl _, fun _ _ _ => rfl⟩
    unfold Oper.wp execOp
    simp only [ho, resolve, invoke, builtin, Sem.run_bind, Sem.run_pure, Result.andThen_ok, List.map_toArray, List.map_cons, List.map_nil, hs, hx, hr]
    exact h'
  | some ad =>
    refine wp_append_own w s x t ho base e i z size bytes ht hi.1 hi.2.1 hi.2.2.1 hi.2.2.2 hzs hsz v n xs hs hown ad m c news hx hl (hnews ad rfl) h1 h63 hbytes hbase ?_
    intro v' w' h2 h3 _
    obtain ⟨A', cap, rfl⟩ := own_form h2
    exact h A' cap w' h2 h3
theorem wpList_app {ops : Array Oper} {rest : List Oper} (hgd : o.guard = none) (s x : Operand) (t : TypeId) (ho : o.op = .call { callee := .builtin .append, args := #[s, x], argTypes := #[t, t] })
    (base : Nat) (e : TypeId) (i : TypeInfo) (z : Value) (size bytes : Nat) (ht : P.underlying t = some (.slice e)) (hi : P.info? e = some i ∧ i.zero = some z ∧ i.size = size ∧ i.bytes = bytes) (hzs : z.cells.size = size) (hsz : 0 < size)
    (v : Value) (n : Nat) (xs : List Value) (hs : a.eval s = v) (hown : w.ownsRow base e size v n xs)
    (A : Option Addr) (m c : Nat) (news : List Value) (hx : a.eval x = .slice A m c) (hA : A = none → m = 0 ∧ c = 0) (hl : news.length = m * size) (hnews : ∀ ad, A = some ad → ∀ j u, news[j]? = some u → w.cell? (ad.add j) = some u) (h1 : ∀ u ∈ news, u.oneCell' = true)
    (h63 : n + m ≤ maxLen) (hbytes : (n + m) * bytes ≤ 140737488355328) (hbase : base ≤ w.heap.size)
    (h : ∀ A' cap w', w'.ownsRow base e size (.slice A' (n + m) cap) (n + m) (xs ++ news) → w.grownBy w' v.ownBlock → wpList P ops Q rest (a.put o.dst (.slice A' (n + m) cap)) w') : wpList P ops Q (o :: rest) a w :=
  wpList_plain hgd fun _ hK => wp_app s x t ho base e i z size bytes ht hi hzs hsz v n xs hs hown A m c news hx hA hl hnews h1 h63 hbytes hbase fun A' cap w' h2 h3 => hK _ _ (h A' cap w' h2 h3)
end

/-- The address of a part of a slice. -/
def subA (A : Option Addr) (lo mx s : Nat) : Option Addr := if mx = lo then A else A.map (·.add (lo * s))
section
variable {α : Type} {f : α → List Value} {ok : Nat → Prop} {s : Sl α} {W : World} {k : Nat}
theorem fl_take (hf : ∀ x, (f x).length = k) : ∀ (l : List α) (n : Nat), (l.take n).flatMap f = (l.flatMap f).take (n * k)
  | [], n => by simp
  | x :: l, 0 => by simp
  | x :: l, n + 1 => by
    have e1 : (f x).take (n * k + k) = f x := List.take_of_length_le (by rw [hf]; omega)
    have e2 : n * k + k - k = n * k := by omega
    rw [List.take_succ_cons, List.flatMap_cons, List.flatMap_cons, fl_take hf l n, Nat.succ_mul, List.take_append, hf, e1, e2]
theorem fl_drop (hf : ∀ x, (f x).length = k) : ∀ (l : List α) (n : Nat), (l.drop n).flatMap f = (l.flatMap f).drop (n * k)
  | [], n => by simp
  | x :: l, 0 => by simp
  | x :: l, n + 1 => by
    have e1 : (f x).drop (n * k + k) = [] := List.drop_of_length_le (by rw [hf]; omega)
    have e2 : n * k + k - k = n * k := by omega
    rw [List.drop_succ_cons, List.flatMap_cons, fl_drop hf l n, Nat.succ_mul, List.drop_append, hf, e1, e2, List.nil_append]
theorem subA_none {A : Option Addr} {lo mx s : Nat} (h : subA A lo mx s = none) : A = none := by
  unfold subA at h
  split at h
  · exact h
  · cases A with
    | none => rfl
    | some a => cases h
/-- A part of a slice. -/
theorem SlIn.sub (h : SlIn f ok s W) (hf : ∀ x, (f x).length = k) {lo hi mx : Nat} (h1 : lo ≤ hi) (h2 : hi ≤ s.l.length) (h3 : hi ≤ mx) (h4 : mx ≤ s.cap) : SlIn f ok ⟨subA s.A lo mx k, (s.l.take hi).drop lo, mx - lo⟩ W := by
  have hl : ((s.l.take hi).drop lo).length = hi - lo := by simp; omega
  refine ⟨fun hne => ?_, by rw [hl]; show hi - lo ≤ mx - lo; omega, Nat.le_trans (Nat.sub_le _ _) (Nat.le_trans h4 h.top), fun hA => ?_⟩
  · have hne0 : s.l.flatMap f ≠ [] := by
      intro e
      apply hne
      show ((s.l.take hi).drop lo).flatMap f = []
      rw [fl_drop hf, fl_take hf, e]
      simp
    obtain ⟨b, o, e, hb, ho, hc⟩ := h.cels hne0
    have hpos : lo < hi := by
      rcases Nat.lt_or_ge lo hi with h5 | h5
      · exact h5
      · exfalso
        apply hne
        show ((s.l.take hi).drop lo).flatMap f = []
        rw [List.length_eq_zero_iff.1 (show ((s.l.take hi).drop lo).length = 0 by omega)]
        rfl
    refine ⟨b, o + lo * k, ?_, hb, ho, fun i hi' => ?_⟩
    · show subA s.A lo mx k = _
      unfold subA
      rw [if_neg (by omega), e]
      simp [Addr.add]
    · have hi2 : i < (((s.l.take hi).drop lo).flatMap f).length := hi'
      have e2 : (((s.l.take hi).drop lo).flatMap f) = ((s.l.flatMap f).take (hi * k)).drop (lo * k) := by rw [fl_drop hf, fl_take hf]
      have hi3 : lo * k + i < (s.l.flatMap f).length := by
        have := hi2
        rw [e2, List.length_drop, List.length_take] at this
        omega
      have h5 := hc (lo * k + i) hi3
      rw [Nat.add_assoc, h5]
      have h6 : (((s.l.take hi).drop lo).flatMap f)[i]? = (s.l.flatMap f)[lo * k + i]? := by
        have := hi2
        rw [e2, List.length_drop, List.length_take] at this
        rw [e2, List.getElem?_drop, List.getElem?_take, if_pos (by omega)]
      rw [List.getElem?_eq_getElem hi2, List.getElem?_eq_getElem hi3] at h6
      exact h6.symm
  · have := h.nil (subA_none hA)
    show mx - lo = 0
    omega
theorem run_slice3 {P : Program} (t e : TypeId) (i : TypeInfo) (ht : P.underlying t = some (.slice e)) (hi : P.info? e = some i) (A : Option Addr) (n c m : Nat) (h : m ≤ c) (w : World) :
    (Instr.sliceAt t (.slice A n c) none (some (.int .i64 (m : Int))) (some (.int .i64 (m : Int)))).run P w = .ok (.slice (subA A 0 m i.size) m m) w := by
  have he : P.elem t = e := by unfold Program.elem; rw [ht]
  have ht' : P.underlying t = some (.slice (P.elem t)) := by rw [he]; exact ht
  rw [run_sliceAt_slice _ _ _ _ _ _ ht', run_slice_hm _ _ _ _ _ ht' _ _ _ _ (by omega) (by omega) (by omega), he]
  simp [sizeOf, typeInfo, hi, sliced, subA]
theorem run_slice1 {P : Program} (t e : TypeId) (i : TypeInfo) (ht : P.underlying t = some (.slice e)) (hi : P.info? e = some i) (A : Option Addr) (n c m : Nat) (h : m ≤ n) (w : World) :
    (Instr.sliceAt t (.slice A n c) (some (.int .i64 (m : Int))) none none).run P w = .ok (.slice (subA A m c i.size) (n - m) (c - m)) w := by
  have he : P.elem t = e := by unfold Program.elem; rw [ht]
  have ht' : P.underlying t = some (.slice (P.elem t)) := by rw [he]; exact ht
  rw [run_sliceAt_slice _ _ _ _ _ _ ht', run_slice_l _ _ _ _ _ ht' _ _ (by omega) (by omega), he]
  simp [sizeOf, typeInfo, hi, sliced, subA]
theorem run_slice2 {P : Program} (t e : TypeId) (i : TypeInfo) (ht : P.underlying t = some (.slice e)) (hi : P.info? e = some i) (A : Option Addr) (n c m : Nat) (h : m ≤ c) (w : World) :
    (Instr.sliceAt t (.slice A n c) none (some (.int .i64 (m : Int))) none).run P w = .ok (.slice (subA A 0 c i.size) m c) w := by
  have he : P.elem t = e := by unfold Program.elem; rw [ht]
  have ht' : P.underlying t = some (.slice (P.elem t)) := by rw [he]; exact ht
  rw [run_sliceAt_slice _ _ _ _ _ _ ht', run_slice_h _ _ _ _ _ ht' _ _ (by omega) (by omega), he]
  simp [sizeOf, typeInfo, hi, sliced, subA]
end
section
variable {P : Program} {α : Type} {f : α → List Value} {ok : Nat → Prop} {k : Nat} {w : World} {o : Oper} {a : Act} {Q : Exit → Act → World → Prop}
/-- An append to a slice without spare memory. -/
theorem wpList_app_full {ops : Array Oper} {rest : List Oper} (hg : o.guard = none) (s x : Operand) (t : TypeId) (hop : o.op = .call { callee := .builtin .append, args := #[s, x], argTypes := #[t, t] })
    (e : TypeId) (i : TypeInfo) (z : Value) (bytes : Nat) (ht : P.underlying t = some (.slice e)) (hi : P.info? e = some i ∧ i.zero = some z ∧ i.size = k ∧ i.bytes = bytes) (hzs : z.cells.size = k) (hk : 0 < k)
    (hf : ∀ x, (f x).length = k) (h1 : ∀ x, ∀ u ∈ f x, u.oneCell' = true) (S X : Sl α) (n c : Nat) (hn : n = S.l.length) (m : Nat) (hm : m = X.l.length) (hs : a.eval s = .slice S.A n n) (hx : a.eval x = .slice X.A m c)
    (hS : SlIn f ok ⟨S.A, S.l, n⟩ w) (hX : SlIn f ok ⟨X.A, X.l, c⟩ w) (hok : ∀ b, w.heap.size ≤ b → ok b) (hml : n + m ≤ maxLen) (hbytes : (n + m) * bytes ≤ 140737488355328)
    (hK : ∀ (A' : Option Addr) (c' : Nat) w', SlIn f ok ⟨A', S.l ++ X.l, c'⟩ w' → Below w.heap.size w w' → wpList P ops Q rest (a.put o.dst (.slice A' (n + m) c')) w') : wpList P ops Q (o :: rest) a w := by
  subst hn hm
  have hone : ∀ u ∈ X.l.flatMap f, u.oneCell' = true := fun u hu => by
    obtain ⟨x, _, h⟩ := List.mem_flatMap.1 hu
    exact h1 x u h
  by_cases h0 : X.l.length = 0
  · refine wpList_plain hg fun K hK' => ?_
    have hXn : X.l = [] := List.length_eq_zero_iff.1 h0
    have hsrc : Src P i.size t (.slice X.A 0 c) 0 [] w := by
      cases hA : X.A with
      | none =>
        have := hX.nil hA
        simp only at this
        subst this
        exact ⟨.inl ⟨_, ht⟩, fun w' => by simp [Builtin.lenOf], by simp [Builtin.firstCells], by simp [Builtin.firstCells], by simp, by simp⟩
      | some ad => exact Src.ofSlice w ht ad 0 c [] (by simp) (by simp) (by simp)
    have hr := run_append_nothing (P := P) w t t o.type e i ht hi.1 S.A S.l.length S.l.length (Nat.le_refl _) (.slice X.A 0 c) hsrc
    unfold Oper.wp
    rw [h0] at hx
    simp [execOp, hop, resolve, invoke, builtin, hs, hx, hr, Result.andThen]
    have h2 := hK S.A S.l.length w (by rw [hXn, List.append_nil]; exact hS) (Below.refl _ _)
    rw [h0, Nat.add_zero] at h2
    exact hK' _ _ h2
  · obtain ⟨ad, eA⟩ : ∃ ad, X.A = some ad := by
      cases hA : X.A with
      | none => exfalso; have h2 := hX.nil hA; have h3 := hX.le; simp only at h2 h3; omega
      | some ad => exact ⟨ad, rfl⟩
    refine wpList_append_grows w hg s x t hop e i z k bytes ht hi.1 hi.2.1 hi.2.2.1 hi.2.2.2 hzs hk S.A S.l.length S.l.length (S.l.flatMap f) hs (fun h => by have h2 := hS.nil h; simp only at h2; exact ⟨h2, h2⟩) (fl_len f k hf _) hS.cels.opt ad X.l.length c (X.l.flatMap f) (by rw [hx, eA]) (fl_len f k hf _) (fun j u hu => hX.cels.opt ad eA j u hu) hone (by omega) hml hbytes ?_
    intro v' w' hown hgr
    obtain ⟨A', c', rfl⟩ := own_form hown
    refine hK A' c' w' ?_ ⟨hgr.os, hgr.tape, hgr.output, hgr.size, fun i hi => hgr.block i hi (by simp)⟩
    rw [← List.flatMap_append] at hown
    exact own_in hown (by simp) hok
end
theorem results_cell_row_tmp {P : Program} {fn : Func} {p u : Tmp} {ty : TypeId} (h : fn.results = #[.cell p ty, .tmp u]) (tmps : Array Value) (w : World) (g : Nat) (t : TypeId) (cs : Array Value) (fr : Nat × Nat) (d : TypeDesc) (x : Value)
    (hp : tmps.getD p undef = .pointer (some ⟨g, 0, none⟩)) (hx : tmps.getD u undef = x) (hg : w.heap[g]? = some (.cells cs t fr))
    (hu : P.underlying ty = some d) (hd : (match d with | .struct _ | .array _ _ => true | _ => false) = true) (hi : (P.info? ty).map (·.size) = some cs.size) :
    (results fn tmps).run P w = .ok (.tuple #[.agg cs, x]) w := by
  rw [results_cell_tmp h, hp, hx]
  simp [asAddr, run_loadVar_row w g t ty cs fr d hg hu hd hi]
theorem Try.size25 : (Try.prog.info? 25).map (·.size) = some 2 := by kernel_rfl
theorem Try.size28 : (Try.prog.info? 28).map (·.size) = some 3 := by kernel_rfl
theorem Try.info28 : (Try.prog.info? 28).map (fun i => (i.zero, i.size, i.bytes)) = some (some (.agg #[.int .i64 0, .int .i64 0, .slice none 0 0]), 3, 40) := by kernel_rfl
theorem Try.info55 : (Try.prog.info? 55).map (fun i => (i.zero, i.size, i.bytes)) = some (some (.agg #[.int .i64 0, .int .i64 0]), 2, 16) := by kernel_rfl
theorem hinfo28 : ∃ i0, Try.prog.info? 28 = some i0 ∧ i0.zero = some (.agg #[.int .i64 0, .int .i64 0, .slice none 0 0]) ∧ i0.size = 3 ∧ i0.bytes = 40 := by
  obtain ⟨i0, hi, hz0, hz1, hz2⟩ := info_parts Try.info28
  exact ⟨i0, hi, hz0, hz1, hz2⟩
theorem hinfo55 : ∃ i0, Try.prog.info? 55 = some i0 ∧ i0.zero = some (.agg #[.int .i64 0, .int .i64 0]) ∧ i0.size = 2 ∧ i0.bytes = 16 := by
  obtain ⟨i0, hi, hz0, hz1, hz2⟩ := info_parts Try.info55
  exact ⟨i0, hi, hz0, hz1, hz2⟩
theorem one25 (a : Option Addr) (n c : Nat) (b : Option Addr) (m d : Nat) : (#[Value.slice a n c, .slice b m d]).all (·.oneCell') = true := by simp [Value.oneCell']
theorem one28 (x y : Int) (b : Option Addr) (m d : Nat) : (#[Value.int .i64 x, .int .i64 y, .slice b m d]).all (·.oneCell') = true := by simp [Value.oneCell']
theorem pk_one (p : Pkt) : ∀ u ∈ Pkt.cs p, u.oneCell' = true := by intro u hu; simp [Pkt.cs] at hu; rcases hu with rfl | rfl | rfl <;> rfl
theorem pr_one (p : Int × Int) : ∀ u ∈ prC p, u.oneCell' = true := by intro u hu; simp [prC] at hu; rcases hu with rfl | rfl <;> rfl
end Go.Proofs.Ythmaakiibgdigaa
