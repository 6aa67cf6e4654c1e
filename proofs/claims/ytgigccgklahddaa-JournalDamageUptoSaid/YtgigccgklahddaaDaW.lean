/- JournalDamage: the walk. -/
import Derived.Test.YtgigccgklahddaaSte
import Derived.Test.YtgigccgklahddaaJsm
import Derived.Test.YtgigccgklahddaaOpu
namespace Go.Proofs.Ytgigccgklahddaa
open Go.RowKit


theorem and_one (n : U32) : (n &&& 1#32 = 0#32 ∧ n.toNat % 2 = 0) ∨ (n &&& 1#32 = 1#32 ∧ n.toNat % 2 = 1) := by
  have e : (n &&& 1#32).toNat = n.toNat % 2 := by
    rw [BitVec.toNat_and]
    exact Nat.and_one_is_mod _
  rcases Nat.mod_two_eq_zero_or_one n.toNat with h | h
  · exact .inl ⟨BitVec.eq_of_toNat_eq (by rw [e, h]; rfl), h⟩
  · exact .inr ⟨BitVec.eq_of_toNat_eq (by rw [e, h]; rfl), h⟩
theorem shr_inj {a b : U32} (h : a >>> 1 = b >>> 1) (h2 : a.toNat % 2 = b.toNat % 2) : a = b := by
  have e := congrArg BitVec.toNat h
  simp only [BitVec.toNat_ushiftRight, Nat.shiftRight_eq_div_pow, Nat.pow_one] at e
  exact BitVec.eq_of_toNat_eq (by omega)
theorem xor_can {a b c : U32} (h : a ^^^ c = b ^^^ c) : a = b := by
  have e := congrArg (· ^^^ c) h
  simpa [BitVec.xor_assoc] using e
theorem shr_top (a : U32) : (a >>> 1).getLsbD 31 = false := by
  rw [BitVec.getLsbD_ushiftRight]
  exact BitVec.getLsbD_of_ge _ _ (by decide)
theorem not_mix {a b : U32} (h : a >>> 1 = (b >>> 1) ^^^ 3988292384#32) : False := by
  have e := congrArg (fun z : U32 => z.getLsbD 31) h
  simp only [BitVec.getLsbD_xor, shr_top] at e
  revert e
  decide
theorem bit_inj {a b : U32} (h : crcBit a = crcBit b) : a = b := by
  unfold crcBit at h
  have m0 : 3988292384#32 * 0#32 = 0#32 := by decide
  have m1 : 3988292384#32 * 1#32 = 3988292384#32 := by decide
  have z : ∀ x : U32, x ^^^ 0#32 = x := fun x => BitVec.xor_zero
  rcases and_one a with ⟨ha, ha2⟩ | ⟨ha, ha2⟩ <;> rcases and_one b with ⟨hb, hb2⟩ | ⟨hb, hb2⟩
  · rw [show (1 : U32) = 1#32 from rfl, ha, hb, m0, z, z] at h; exact shr_inj h (ha2.trans hb2.symm)
  · rw [show (1 : U32) = 1#32 from rfl, ha, hb, m0, m1, z] at h; exact (not_mix h).elim
  · rw [show (1 : U32) = 1#32 from rfl, ha, hb, m0, m1, z] at h; exact (not_mix h.symm).elim
  · rw [show (1 : U32) = 1#32 from rfl, ha, hb, m1] at h; exact shr_inj (xor_can h) (ha2.trans hb2.symm)
theorem crcN_inj : ∀ (n : Nat) {a b : U32}, crcN n a = crcN n b → a = b
  | 0, _, _, h => h
  | n + 1, _, _, h => crcN_inj n (bit_inj h)
theorem byte_inj {a b : U32} {c : UInt8} (h : crcByte a c = crcByte b c) : a = b := xor_can (crcN_inj 8 h)
theorem wb_inj {c d : UInt8} (h : wb c = wb d) : c = d := by
  have e := congrArg BitVec.toNat h
  rw [← Int.natCast_inj, ← bv_byte, ← bv_byte] at e
  exact UInt8.toNat_inj.1 (by omega)
theorem byte_inj2 {a : U32} {c d : UInt8} (h : crcByte a c = crcByte a d) : c = d := by
  have e := crcN_inj 8 h
  refine wb_inj (xor_can (c := a) ?_)
  rwa [BitVec.xor_comm, BitVec.xor_comm (wb d)]
theorem fold_inj : ∀ (l : List UInt8) {a b : U32}, l.foldl crcByte a = l.foldl crcByte b → a = b
  | [], _, _, h => h
  | _ :: l, _, _, h => byte_inj (fold_inj l h)
/-- One changed byte changes the checksum. -/
theorem crc_one {l : List UInt8} {i : Nat} {v : UInt8} (hi : i < l.length) (h : crc (l.set i v) = crc l) : v = l[i] := by
  have hc : crcL (l.set i v) = crcL l := by
    have e := congrArg (fun z : U32 => ~~~ z) h
    unfold crc at e
    simpa using e
  unfold crcL at hc
  have e1 : l = l.take i ++ l[i] :: l.drop (i + 1) := by rw [List.getElem_cons_drop, List.take_append_drop]
  have e2 : l.set i v = l.take i ++ v :: l.drop (i + 1) := List.set_eq_take_append_cons_drop.trans (if_pos hi)
  rw [e2] at hc
  conv at hc => rhs; rw [e1]
  rw [List.foldl_append, List.foldl_append, List.foldl_cons, List.foldl_cons] at hc
  exact byte_inj2 (fold_inj _ hc)
theorem b4_in {m n : Nat} (hm : m < 4294967296) (hn : n < 4294967296) (h : b4 m = b4 n) : m = n := by
  have e1 := n4_b4 hm
  have e2 := n4_b4 hn
  unfold b4 at h
  simp only [List.cons.injEq, and_true] at h
  rw [← e1, ← e2, h.1, h.2.1, h.2.2.1, h.2.2.2]
theorem set_same {l : List UInt8} {i : Nat} {v : UInt8} (hi : i < l.length) (h : l.set i v = l) : v = l[i] := by
  have e : (l.set i v)[i]? = l[i]? := by rw [h]
  rw [List.getElem?_set_self hi, List.getElem?_eq_getElem hi] at e
  injection e
/-- A sector with one byte changed is read as nothing. -/
theorem spoilt {s : List UInt8} {k i : Nat} {v : UInt8} {p : Piece} (h : readB s k = some p) (hs : s.length = 128) (hi : i < s.length) (hv : v ≠ s[i]) : readB (s.set i v) k = none := by
  cases hq : readB (s.set i v) k with
  | none => rfl
  | some q =>
    exfalso
    have a1 := read_sec_eq h
    have a2 := read_sec_eq hq
    have a3 := (read_facts h hs).1
    have a4 := (read_facts hq (by rw [List.length_set]; exact hs)).1
    have lb := bodyB_len (bg := p.begins) (en := p.ends) (n := k) a3
    have lb2 := bodyB_len (bg := q.begins) (en := q.ends) (n := k) a4
    unfold secB at a1 a2
    generalize bodyB p.begins p.ends p.data k = B at *
    generalize bodyB q.begins q.ends q.data k = B' at *
    have hc : (crc B).toNat < 4294967296 := (crc B).isLt
    have hc2 : (crc B').toNat < 4294967296 := (crc B').isLt
    have l4 : ∀ n, (b4 n).length = 4 := b4_len
    subst a1
    rw [List.set_append] at a2
    by_cases h1 : i < (b4 p.gen).length
    · rw [if_pos h1] at a2
      obtain ⟨e1, e2⟩ := List.append_inj a2 (by rw [List.length_set, l4, l4])
      obtain ⟨e3, e4⟩ := List.append_inj e2 (by rw [l4, l4])
      obtain ⟨e5, e6⟩ := List.append_inj e4 (by rw [lb, lb2])
      rw [e6] at e1
      have := set_same h1 e1.symm
      rw [List.getElem_append_left h1] at hv
      exact hv this
    · rw [if_neg h1, List.set_append] at a2
      rw [List.getElem_append_right (by omega)] at hv
      obtain ⟨e1, e2⟩ := List.append_inj a2 (by rw [l4, l4])
      rw [l4] at h1
      simp only [l4] at e2 hv
      simp only [List.length_append, l4, lb] at hi
      by_cases h2 : i - 4 < 4
      · rw [if_pos h2] at e2
        rw [List.getElem_append_left (by rw [l4]; exact h2)] at hv
        obtain ⟨e3, e4⟩ := List.append_inj e2 (by rw [List.length_set, l4, l4])
        obtain ⟨e5, e6⟩ := List.append_inj e4 (by rw [lb, lb2])
        rw [e5] at e3
        exact hv (set_same (by rw [l4]; exact h2) e3.symm)
      · rw [if_neg h2, List.set_append] at e2
        rw [List.getElem_append_right (by rw [l4]; omega)] at hv
        obtain ⟨e3, e4⟩ := List.append_inj e2 (by rw [l4, l4])
        simp only [l4, lb] at e4 hv
        have hcc : crc B = crc B' := BitVec.eq_of_toNat_eq (b4_in hc hc2 e3.symm)
        by_cases h3 : i - 4 - 4 < 116
        · rw [if_pos h3] at e4
          rw [List.getElem_append_left (by rw [lb]; exact h3)] at hv
          obtain ⟨e5, e6⟩ := List.append_inj e4 (by rw [List.length_set, lb, lb2])
          exact hv (crc_one (by rw [lb]; exact h3) (by rw [← e5, hcc]))
        · rw [if_neg h3] at e4
          rw [List.getElem_append_right (by rw [lb]; omega)] at hv
          obtain ⟨e5, e6⟩ := List.append_inj e4 (by rw [lb, lb2])
          rw [e1] at e6
          simp only [lb] at hv
          exact hv (set_same (by rw [l4]; omega) e6.symm)
/-- A spoilt sector: the records in the sectors before remain. -/
theorem spoilt_recs {tt r : List (List UInt8)} {g k : Nat} {s' : List UInt8} (hall : ∀ s ∈ tt, s.length = 128) (hH : Holds tt 0 g (r.flatMap piecesB)) (hg : 0 < g) (hg2 : g < 4294967296) (hlen : usedB r ≤ tt.length) (hk : k < usedB r) (hs : s'.length = 128) (hbad : readB s' k = none) :
    ∃ m b c t, r = r.take m ++ b :: c ∧ m ≤ r.length ∧ k = usedB (r.take m) + t ∧ t < secN b.length ∧ recordsB (tt.set k s') = r.take m := by
  obtain ⟨m, b, c, t, hcut, hm, hkt, ht⟩ := cut_at r k hk
  refine ⟨m, b, c, t, hcut, hm, hkt, ht, ?_⟩
  have hget : ∀ i, (tt.set k s').getD i [] = if i = k then s' else tt.getD i [] := fun i => set_get _ _ _ _ (by omega)
  have hul : (tt.set k s').length = tt.length := List.length_set
  have hallu : ∀ s ∈ tt.set k s', s.length = 128 := fun s h => by
    rcases List.mem_or_eq_of_mem_set h with h | rfl
    · exact hall s h
    · exact hs
  generalize tt.set k s' = uu at *
  have hr : r.flatMap piecesB = (r.take m).flatMap piecesB ++ (piecesB b ++ c.flatMap piecesB) := by
    conv => lhs; rw [hcut]
    rw [List.flatMap_append, List.flatMap_cons]
  rw [hr] at hH
  have hA : ((r.take m).flatMap piecesB).length = usedB (r.take m) := flat_used _
  have h1 : Holds uu 0 g ((r.take m).flatMap piecesB) := fun i hi => by
    rw [hget, if_neg (by omega)]
    exact hH.left i hi
  have h2 := hH.right.left
  rw [hA, Nat.zero_add] at h2
  obtain ⟨g', h3, _, _, _⟩ := reads_written (tt := uu) (g := g) hg hg2 (r.take m) 0 0 h1 (by omega) (Nat.zero_le _)
  rw [Nat.zero_add] at h3
  have hno : recB uu (usedB (r.take m)) = none := by
    refine rec_broken (b := b) (g := g) (t := t) (fun i hi hi2 => ?_) ht hg hg2 ?_
    · rw [hget, if_neg (by omega)]
      exact h2 i hi2
    · rw [← hkt, hget, if_pos rfl]
      exact hbad
  exact reads_recordsB hallu h3 fun b2 h hb => by rw [hno] at hb; cases hb
/-- What JournalDamage asks: the disk that Sync answers. -/
theorem dam_sync {r : List (List UInt8)} (hr : r ≠ []) (hu : usedB r ≤ 40) : ∃ c : Dk, jsyncB ⟨r, 40, 0⟩ D40 = (⟨r, 40, r.length⟩, c, 0) ∧ c.sec.length = 40 ∧ c.pen = [] ∧ c.left = -1 ∧ c.stp = false ∧ (∀ s ∈ c.sec, s.length = 128) ∧ Holds c.sec 0 1 (r.flatMap piecesB) := by
  have h0 : Fine 0 J40 D40 := fine_zero 40 (by decide) (by decide)
  have hf : Fine 0 ⟨r, 40, 0⟩ D40 := ⟨ok_iff.2 ⟨show (1 : Int) ≤ 40 by decide, show (40 : Int) ≤ 4096 by decide, Int.le_refl _, Int.natCast_nonneg _, by show ((usedB r : Nat) : Int) ≤ 40; omega⟩, h0.many, h0.recs, h0.cdk, h0.all, h0.gen⟩
  have hs : ¬ ((⟨r, 40, 0⟩ : Jk).synced = ((⟨r, 40, 0⟩ : Jk).recs.length : Nat)) := by
    have := List.length_pos_iff.2 hr
    show ¬ ((0 : Int) = ((r.length : Nat) : Int))
    omega
  obtain ⟨h1, h2, h3, h4, h5⟩ := hf.written (by decide) hs
  have e0 : recordsB D40.sec = [] := h0.recs
  have eg : genM D40.sec 0 = 0 := Nat.le_zero.1 h0.gen
  have ed : (⟨r, 40, 0⟩ : Jk).recs.drop (⟨r, 40, 0⟩ : Jk).synced.toNat = r := rfl
  rw [e0, usedB_nil, eg, ed] at h5
  have hp : ∀ p ∈ r.flatMap piecesB, p.2.2.length ≤ 112 := fun p hp => flat_short hp
  have hfit : 0 + (r.flatMap piecesB).length ≤ D40.sec.length := by rw [flat_used, show D40.sec.length = 40 by simp [D40]]; omega
  have hrn := flat_writes_runs (u := 0) (g := 0 + 1) (ps := r.flatMap piecesB) h0.cdk hp hfit
  have hy := sync_all hrn (.inl rfl)
  obtain ⟨q1, q2⟩ := perf_writes (0 + 1) (r.flatMap piecesB) 0 D40.sec hfit
  refine ⟨⟨perf D40.sec (writesP 0 (0 + 1) (r.flatMap piecesB)), [], -1, false⟩, by rw [h5, hy]; exact if_pos rfl, by rw [perf_len]; simp [D40], rfl, rfl, rfl, ?_, q1⟩
  refine all_getD fun i hi => ?_
  have hi40 : i < 40 := by rw [perf_len] at hi; simpa [D40] using hi
  by_cases hc : i < (r.flatMap piecesB).length
  · have e := q1 i hc
    rw [show 0 + i = i from Nat.zero_add i] at e
    show ((perf D40.sec (writesP 0 (0 + 1) (r.flatMap piecesB))).getD i []).length = 128
    rw [e]
    exact secB_len (hp _ (List.getElem_mem hc))
  · show ((perf D40.sec (writesP 0 (0 + 1) (r.flatMap piecesB))).getD i []).length = 128
    rw [q2 i (.inr (by omega))]
    exact getD_all h0.all (by simp [D40]; exact hi40)
/-- One byte is changed, written and synced. -/
theorem dam_open {r : List (List UInt8)} {c : Dk} (hu : usedB r ≤ 40) (h1 : c.sec.length = 40) (h2 : c.pen = []) (h3 : c.left = -1) (h4 : c.stp = false) (h5 : ∀ s ∈ c.sec, s.length = 128) (h6 : Holds c.sec 0 1 (r.flatMap piecesB)) {k i : Nat} (hk : k < usedB r) (hi : i < 128) {v : UInt8} {s : List UInt8} (hs : c.sec[k]? = some s) (hv : s[i]? ≠ some v) :
    ∃ m b cc t d1 d2, r = r.take m ++ b :: cc ∧ m ≤ r.length ∧ k = usedB (r.take m) + t ∧ t < secN b.length ∧ c.write (k : Int) (s.set i v) = (d1, 0) ∧ d1.sync = (d2, 0) ∧ d2.jopen = (⟨r.take m, 40, m⟩, 0) := by
  have hrun : c.runs = true := runs_iff.2 ⟨h4, ⟨by omega, fun i hi => h5 _ (List.getElem_mem hi)⟩, by rw [h2]; exact ⟨Nat.zero_le _, fun i hi => (by cases hi)⟩, by rw [h3]; decide, by rw [h3]; decide⟩
  have hsl : s.length = 128 := h5 s (List.mem_of_getElem? hs)
  have hgk : c.sec.getD k [] = s := by rw [List.getD_eq_getElem?_getD, hs]; rfl
  have hs' : (s.set i v).length = 128 := by rw [List.length_set]; exact hsl
  have hfl : k < (r.flatMap piecesB).length := by rw [flat_used]; exact hk
  have hbad : readB (s.set i v) k = none := by
    have e := h6 k hfl
    rw [Nat.zero_add, hgk] at e
    cases hq : readB s k with
    | some p => exact spoilt hq hsl (by omega) (fun e => hv (by rw [List.getElem?_eq_getElem (by omega), e]))
    | none =>
      exfalso
      obtain ⟨m, b, cc, t, e1, _, e3, e4⟩ := cut_at r k hk
      have hr2 : r.flatMap piecesB = (r.take m).flatMap piecesB ++ (piecesB b ++ cc.flatMap piecesB) := by
        conv => lhs; rw [e1]
        rw [List.flatMap_append, List.flatMap_cons]
      have hH := h6
      rw [hr2] at hH
      have h7 := hH.right.left
      rw [flat_used, Nat.zero_add] at h7
      have := h7.read (by decide) (by decide) e4
      rw [← e3, hgk, hq] at this
      cases this
  obtain ⟨m, b, cc, t, e1, e2, e3, e4, e5⟩ := spoilt_recs h5 h6 (by decide) (by decide) (by omega) hk hs' hbad
  obtain ⟨w1, w2⟩ := write_more hrun (i := k) (by omega) hs' (by rw [h2]; decide)
  have hy := sync_all w2 (.inl h3)
  refine ⟨m, b, cc, t, _, _, e1, e2, e3, e4, w1, hy, ?_⟩
  have hps : perf c.sec (c.pen ++ [((k : Int), s.set i v)]) = c.sec.set k (s.set i v) := by rw [h2]; rfl
  show Dk.jopen ⟨perf c.sec (c.pen ++ [((k : Int), s.set i v)]), [], if c.left = -1 then -1 else _, false⟩ = _
  rw [hps, if_pos h3]
  have hok : cdk ⟨c.sec.set k (s.set i v), [], -1, false⟩ = 0 := by
    have hv : (⟨c.sec.set k (s.set i v), [], -1, false⟩ : Dk).runs = true := runs_iff.2 ⟨rfl, ⟨by rw [List.length_set]; omega, fun j hj => by
      rcases List.mem_or_eq_of_mem_set (List.getElem_mem hj) with h | h
      · exact h5 _ h
      · rw [h]; exact hs'⟩, ⟨Nat.zero_le _, fun i hi => (by cases hi)⟩, show (-1 : Int) ≤ -1 by decide, show (-1 : Int) ≤ 65536 by decide⟩
    unfold Dk.runs at hv
    exact cdk_ok (by simpa using hv) rfl rfl
  unfold Dk.jopen
  rw [if_pos hok]
  simp only
  rw [e5, List.length_set, h1, List.length_take, Nat.min_eq_left e2]
  rfl

theorem hinfo3 : ∃ i0, Try.prog.info? 3 = some i0 ∧ i0.zero = some (.int .i64 0) ∧ i0.size = 1 ∧ i0.bytes = 8 := by
  obtain ⟨i, hi⟩ := info_of_underlying Try.underlying3
  have h : (Try.prog.info? 3).map (fun i => (i.zero, i.size, i.bytes)) = some (some (.int .i64 0), 1, 8) := by kernel_rfl
  rw [hi] at h
  simp only [Option.map_some, Option.some.injEq, Prod.mk.injEq] at h
  exact ⟨i, hi, h.1, h.2.1, h.2.2⟩
/-- Where the records end. -/
def endsL (r : List (List UInt8)) (k : Nat) : List Value := (List.range k).map fun i => .int .i64 (usedB (r.take (i + 1)) : Nat)
theorem endsL_len (r : List (List UInt8)) (k : Nat) : (endsL r k).length = k := by simp [endsL]
theorem endsL_more (r : List (List UInt8)) (k : Nat) : endsL r (k + 1) = endsL r k ++ [.int .i64 (usedB (r.take (k + 1)) : Nat)] := by simp [endsL, List.range_succ]
theorem endsL_one (r : List (List UInt8)) (k : Nat) : ∀ u ∈ endsL r k, u.oneCell' = true := fun u hu => by
  obtain ⟨i, _, rfl⟩ := List.mem_map.1 hu
  rfl
/-- The loop that appends. -/
structure DI (w : World) (Y : Nat) (z : Dsk) (X : Nat) (r : List (List UInt8)) (k : Nat) (v : Value) (j : Jr) (W : World) : Prop where
  dsk : Blk W Y 25 z.cs
  din : z.In w.heap.size W
  nw : w.heap.size ≤ X
  bel : Below w.heap.size w W
  box : Blk W X 29 j.cs
  jin : j.In w.heap.size W
  jk : j.k = ⟨r.take k, 40, 0⟩
  own : W.ownsRow w.heap.size 3 1 v k (endsL r k)
theorem DI.below {w W W' : World} {Y X k : Nat} {z : Dsk} {r : List (List UInt8)} {v : Value} {j : Jr} (h : DI w Y z X r k v j W) (hb : Below W.heap.size W W') : DI w Y z X r k v j W' :=
  ⟨h.dsk.below hb h.dsk.lt, h.din.below hb, h.nw, below_one h.bel hb, h.box.below hb h.box.lt, h.jin.below hb, h.jk, own_later h.own hb⟩

/-- Another journal in the box. -/
structure DJ (w : World) (Y : Nat) (z : Dsk) (X : Nat) (r : List (List UInt8)) (k : Nat) (v : Value) (j : Jr) (W : World) : Prop where
  dsk : Blk W Y 25 z.cs
  din : z.In w.heap.size W
  nw : w.heap.size ≤ X
  bel : Below w.heap.size w W
  box : Blk W X 29 j.cs
  jin : j.In w.heap.size W
  own : W.ownsRow w.heap.size 3 1 v k (endsL r k)
theorem DI.putj {w W : World} {Y X k : Nat} {z : Dsk} {r : List (List UInt8)} {v : Value} {j j' : Jr} (h : DI w Y z X r k v j W) (hj : j'.In w.heap.size W) : DJ w Y z X r k v j' (W.setRow X #[.slice j'.A j'.rs.length j'.cap, .int .i64 j'.many, .int .i64 j'.synced]) := by
  have hg : W.grownBy (W.setRow X #[.slice j'.A j'.rs.length j'.cap, .int .i64 j'.many, .int .i64 j'.synced]) (some X) := only_setRow (only_refl _ _) (.inl rfl) _
  exact ⟨h.dsk.far (h.dsk.ne h.box (by decide)) _, h.din.keepT h.box (by decide) h.nw hg, h.nw, below_setRow h.bel h.nw _, h.box.row _, hj.keepT h.box (by decide) h.nw hg, own_only h.own hg h.box (by decide)⟩
theorem DJ.below {w W W' : World} {Y X k : Nat} {z : Dsk} {r : List (List UInt8)} {v : Value} {j : Jr} (h : DJ w Y z X r k v j W) (hb : Below W.heap.size W W') : DJ w Y z X r k v j W' :=
  ⟨h.dsk.below hb h.dsk.lt, h.din.below hb, h.nw, below_one h.bel hb, h.box.below hb h.box.lt, h.jin.below hb, own_later h.own hb⟩
/-- Behind the append of an end. -/
theorem DJ.grow {w W W' : World} {Y X k : Nat} {z : Dsk} {r : List (List UInt8)} {A A' : Option Addr} {c c' : Nat} {j : Jr} (h : DJ w Y z X r k (.slice A k c) j W) (hown : W'.ownsRow w.heap.size 3 1 (.slice A' (k + 1) c') (k + 1) (endsL r k ++ [.int .i64 (usedB (r.take (k + 1)) : Nat)])) (hg : W.grownBy W' (Value.slice A k c).ownBlock) (hk : j.k = ⟨r.take (k + 1), 40, 0⟩) : DI w Y z X r (k + 1) (.slice A' (k + 1) c') j W' := by
  refine ⟨h.dsk.app h.own hg (by decide), ?_, h.nw, below_app h.bel h.own hg (Nat.le_refl _) h.bel.size, h.box.app h.own hg (by decide), ?_, hk, by rw [endsL_more]; exact hown⟩
  · rcases grown_cases h.own hg with hb | ⟨g, cs, hX, hn, hg2⟩
    · exact h.din.below hb
    · exact h.din.keepT hX (by decide) hn hg2
  · rcases grown_cases h.own hg with hb | ⟨g, cs, hX, hn, hg2⟩
    · exact h.jin.below hb
    · exact h.jin.keepT hX (by decide) hn hg2

/-- Two new boxes, filled. -/
theorem two_new {n0 : Nat} {wq w5 : World} (hb : Below wq.heap.size wq w5) (hn : n0 ≤ wq.heap.size) {j : Jr} {d : Dsk} (hj : j.In n0 w5) (hd : d.In n0 w5) :
    Blk ((w5.alloc (.cells #[.slice none 0 0, .int .i64 0, .int .i64 0] 29)).alloc (.cells #[.slice none 0 0, .slice none 0 0, .int .i64 0, .bool false] 25)) w5.heap.size 29 [.slice none 0 0, .int .i64 0, .int .i64 0] ∧
    Blk (((w5.alloc (.cells #[.slice none 0 0, .int .i64 0, .int .i64 0] 29)).alloc (.cells #[.slice none 0 0, .slice none 0 0, .int .i64 0, .bool false] 25)).setRow w5.heap.size j.cs.toArray) (w5.heap.size + 1) 25 [.slice none 0 0, .slice none 0 0, .int .i64 0, .bool false] ∧
    Env n0 wq [(w5.heap.size + 1, d)] [(w5.heap.size, j)] [] ((((w5.alloc (.cells #[.slice none 0 0, .int .i64 0, .int .i64 0] 29)).alloc (.cells #[.slice none 0 0, .slice none 0 0, .int .i64 0, .bool false] 25)).setRow w5.heap.size j.cs.toArray).setRow (w5.heap.size + 1) d.cs.toArray) := by
  have e1 := ((Env.start (n0 := n0) wq).below hb).newj hn (Jr.zero_in w5)
  have e2 := e1.newd hn (Dsk.zero_in _)
  have hs : (w5.alloc (.cells Jr.zero.cs.toArray 29)).heap.size = w5.heap.size + 1 := by simp
  rw [hs] at e2
  have hb2 : Below w5.heap.size w5 ((w5.alloc (.cells Jr.zero.cs.toArray 29)).alloc (.cells Dsk.zero.cs.toArray 25)) := (below_new _ _).trans ((below_new _ _).mono (by simp))
  have e3 := e2.putj (X := w5.heap.size) (d' := j) (List.mem_singleton.2 rfl) (hj.below hb2) (q' := [(w5.heap.size, j)]) (fun p hp => .inl (List.mem_singleton.1 hp))
  have e2b := (e2.jou (w5.heap.size, Jr.zero) (by simp)).1
  have hg : ((w5.alloc (.cells Jr.zero.cs.toArray 29)).alloc (.cells Dsk.zero.cs.toArray 25)).grownBy (((w5.alloc (.cells Jr.zero.cs.toArray 29)).alloc (.cells Dsk.zero.cs.toArray 25)).setRow w5.heap.size j.cs.toArray) (some w5.heap.size) := only_setRow (only_refl _ _) (.inl rfl) _
  have hd3 : d.In n0 (((w5.alloc (.cells Jr.zero.cs.toArray 29)).alloc (.cells Dsk.zero.cs.toArray 25)).setRow w5.heap.size j.cs.toArray) := (hd.below hb2).keepT e2b (by decide) (Nat.le_trans hn hb.size) hg
  have e4 := e3.putd (X := w5.heap.size + 1) (d' := d) (List.mem_singleton.2 rfl) hd3 (l' := [(w5.heap.size + 1, d)]) (fun p hp => .inl (List.mem_singleton.1 hp))
  exact ⟨e2b, (e3.box (w5.heap.size + 1, Dsk.zero) (by simp)).1, e4⟩
theorem jsync_none : jsyncB ⟨[], 40, 0⟩ D40 = (⟨[], 40, 0⟩, D40, 0) := by
  have h : Fine 0 ⟨[], 40, 0⟩ D40 := fine_zero 40 (by decide) (by decide)
  have hg := h.gen
  unfold jsyncB
  rw [if_pos (jchk_yes h.ok), if_pos h.cdk, if_pos h.many, if_pos ⟨h.recs, by omega⟩]
  exact if_pos rfl

theorem u8_xor (x y : UInt8) : bits BinOp.xor IntKind.u8 ((x.toNat : Nat) : Int) ((y.toNat : Nat) : Int) = (((x ^^^ y).toNat : Nat) : Int) := by
  rw [u8_xor_nat _ _ x.toNat_lt y.toNat_lt, UInt8.toNat_xor]
theorem xor_ne (x : UInt8) {y : UInt8} (h : y.toNat ≠ 0) : x ≠ x ^^^ y := fun e => h (by
  have e1 : x ^^^ x = x ^^^ (x ^^^ y) := by rw [← e]
  rw [UInt8.xor_self, ← UInt8.xor_assoc, UInt8.xor_self, UInt8.zero_xor] at e1
  rw [← e1]
  rfl)
theorem bs_set (l : List UInt8) (cs : List Value) {i : Nat} {v : UInt8} (h : i < l.length) : (bs l ++ cs).set i (.int .u8 (v.toNat : Nat)) = bs (l.set i v) ++ cs := by
  rw [List.set_append_left _ _ (by rw [bs_len]; exact h)]
  congr 1
  unfold bs
  rw [List.map_set]
theorem used_mono {r : List (List UInt8)} {a b : Nat} (h : a ≤ b) : usedB (r.take a) ≤ usedB (r.take b) := by
  have e : r.take b = r.take a ++ (r.take b).drop a := by
    have := (List.take_append_drop a (r.take b)).symm
    rwa [List.take_take, Nat.min_eq_left h] at this
  rw [e, usedB_app]
  omega
theorem damE {j8 j : Jr} {r : List (List UInt8)} {k m : Nat} {q q' : Int} (h : j8.k = ⟨(r.take k).take m, 40, q⟩) (h2 : j.k = ⟨r.take k, 40, q'⟩) : secD j8.rs = secD (j.rs.take m) := by
  have e1 : secD j8.rs = _ := congrArg Jk.recs h
  have e2 : secD j.rs = _ := congrArg Jk.recs h2
  rw [e1]
  simp only at e2 ⊢
  rw [← e2]
  simp [secD, List.map_take]
theorem damC {v7 W : World} {X11 X25 n : Nat} {j j8 : Jr} {a : Option Addr} (h1 : Blk v7 X11 29 j.cs) (h2 : Blk v7 X25 29 j8.cs) (hja : j.A = a) (hW : Below v7.heap.size v7 W) (hn : j.rs.length = n := by rfl) :
    W.cell? ⟨X11, 0, none⟩ = some (.slice a n j.cap) ∧ W.cell? ⟨X11, 1, none⟩ = some (.int .i64 j.many) ∧ W.cell? ⟨X11, 2, none⟩ = some (.int .i64 j.synced) ∧
    W.cell? ⟨X25, 0, none⟩ = some (.slice j8.A j8.rs.length j8.cap) ∧ W.cell? ⟨X25, 1, none⟩ = some (.int .i64 j8.many) ∧ W.cell? ⟨X25, 2, none⟩ = some (.int .i64 j8.synced) := by
  subst hja hn
  obtain ⟨a0, a1, a2⟩ := (h1.below hW h1.lt).c3
  obtain ⟨b0, b1, b2⟩ := (h2.below hW h2.lt).c3
  exact ⟨a0, a1, a2, b0, b1, b2⟩
theorem damR {l : List (List UInt8)} {n : Nat} {c : Dk} (hu : usedB (l.take n) ≤ 40) (h : c.sec.length = 40 ∧ c.pen = [] ∧ c.left = -1 ∧ c.stp = false ∧ (∀ s ∈ c.sec, s.length = 128) ∧ Holds c.sec 0 1 ((l.take n).flatMap piecesB)) {k i : Nat} (hk : k < usedB (l.take n)) (hi : i < 128) {v : UInt8} {s : List UInt8} (hs : c.sec[k]? = some s) (hv : s[i]? ≠ some v) :
    ∃ m d1 d2, m < n ∧ (∀ x, x < m → usedB (l.take (x + 1)) ≤ k) ∧ k < usedB (l.take (m + 1)) ∧ c.write (k : Int) (s.set i v) = (d1, 0) ∧ d1.sync = (d2, 0) ∧ d2.jopen = (⟨(l.take n).take m, 40, m⟩, 0) := by
  obtain ⟨h1, h2, h3, h4, h5, h6⟩ := h
  obtain ⟨m, b, cc, t, d1, d2, e1, e2, e3, e4, e5, e6, e7⟩ := dam_open hu h1 h2 h3 h4 h5 h6 hk hi hs hv
  have hlen := congrArg List.length e1
  simp only [List.length_append, List.length_cons, List.length_take] at hlen
  have hmn : m < n := by
    have := List.length_take_le n l
    omega
  refine ⟨m, d1, d2, hmn, fun x hx => ?_, ?_, e5, e6, e7⟩
  · have h7 : usedB (l.take (x + 1)) ≤ usedB ((l.take n).take m) := by
      rw [List.take_take, Nat.min_eq_left (by omega)]
      exact used_mono (by omega)
    omega
  · have h8 : l.take (m + 1) = (l.take n).take m ++ [b] := by
      have h9 : (l.take n).take (m + 1) = (l.take n).take m ++ [b] := by
        conv => lhs; rw [e1]
        rw [List.take_append, List.length_take]
        have : min m (l.take n).length = m := Nat.min_eq_left e2
        rw [this, show m + 1 - m = 1 by omega, List.take_of_length_le (by rw [List.length_take]; omega)]
        rfl
      rw [List.take_take, Nat.min_eq_left (by omega)] at h9
      exact h9
    rw [h8, usedB_app, usedB_one]
    omega
theorem used_pos {r : List (List UInt8)} (h : r ≠ []) : 0 < usedB r := by
  cases r with
  | nil => exact absurd rfl h
  | cons b l =>
    rw [show b :: l = [b] ++ l from rfl, usedB_app, usedB_one]
    unfold secN
    omega
theorem u64_nonneg (x : Int) : 0 ≤ IntKind.u64.wrap x := by
  simp only [IntKind.wrap, IntKind.signed, IntKind.bits]
  simp
  omega
theorem wrapU_small (p : Nat) (h : p < 1000) : IntKind.u64.wrap (p : Int) = (p : Int) := by
  simp [IntKind.wrap, IntKind.signed, IntKind.bits]; omega
theorem wrapI_small (p : Nat) (h : p < 1000) : IntKind.i64.wrap (p : Int) = (p : Int) := by
  simp [IntKind.wrap, IntKind.signed, IntKind.bits]; omega
theorem damS {r : List (List UInt8)} {k : Nat} (hu : usedB (r.take k) ≤ 40) : ∃ c : Dk, jsyncB ⟨r.take k, 40, 0⟩ D40 = (⟨r.take k, 40, (r.take k).length⟩, c, 0) ∧ (r.take k ≠ [] → c.sec.length = 40 ∧ c.pen = [] ∧ c.left = -1 ∧ c.stp = false ∧ (∀ s ∈ c.sec, s.length = 128) ∧ Holds c.sec 0 1 ((r.take k).flatMap piecesB)) := by
  by_cases h : r.take k = []
  · rw [h]
    exact ⟨D40, jsync_none, fun h => absurd rfl h⟩
  · obtain ⟨c, h1, h2⟩ := dam_sync h hu
    exact ⟨c, h1, fun _ => h2⟩

set_option maxRecDepth 100000 in
set_option maxHeartbeats 6400000 in
theorem damage_walk (A0 : Option Addr) (l0 : List Sec) (c0 : Nat) (sector at0 : Int) (byb : UInt8) (w : World) (h0 : SecsIn w.heap.size A0 l0 c0 w) (s0 : ∀ s ∈ l0, s.l.length ≤ 140737488355328)
    (b0 : bulkB (secD l0) ≤ 1048576) (hse : -9223372036854775808 ≤ sector ∧ sector ≤ 9223372036854775807) (hat : -9223372036854775808 ≤ at0 ∧ at0 ≤ 9223372036854775807) :
    Calls Try.prog 8 #[.slice A0 l0.length c0, .int .i64 sector, .int .i64 at0, .int .u8 (byb.toNat : Nat)] w fun e w' => e = .returned (.bool true) ∧ Below w.heap.size w w' := by
  have HA := hide h0
  have HSA := hide s0
  have HBA := hide b0
  have HSE := hide hse
  have HAT := hide hat
  clear h0 s0 b0 hse hat
  obtain ⟨i3, hi3⟩ := hinfo3
  have HI3 := hide hi3
  clear hi3
  go_enter Try.func8, Try.ntmps8
  go_wp2_with fail
  refine (sane_any _).mono ?_
  rintro e w0 ⟨rfl, hb⟩
  have HF0 := hide hb
  clear hb
  have HNW := hide (new_ok (n0 := w.heap.size) 40 w0 (by decide) (by decide))
  go_wp2_with fail
  refine HNW.out.mono ?_
  rintro e w1 ⟨z0, rfl, hz0, hi0, hb1⟩
  have HZ0 := hide (show z0.d = D40 from hz0)
  have H1 := hide ((((Env.start (n0 := w.heap.size) w).below HF0.out).below hb1).newd (Nat.le_refl _) hi0)
  clear HNW hz0 hi0 hb1 HF0
  obtain ⟨hbx, -, -, hix⟩ := H1.out.box (w1.heap.size, z0) (by simp)
  obtain ⟨q0, q1, q2, q3⟩ := hbx.c4
  have HFW := hide (few_any z0 A0 l0 c0 _ hix (fun k h => (HA.out.below H1.out.bel).at h) (Nat.le_trans HBA.out (by decide)))
  generalize hf : fewB z0.d (secD l0) = f at HFW
  clear hbx hix
  by_cases hg : f = true ∧ l0.length ≠ 0 ∧ byb.toNat ≠ 0
  · obtain ⟨rfl, hl0, hby⟩ := hg
    have hl0' : ((l0.length : Int) == 0) = false := by simp only [beq_eq_false_iff_ne, ne_eq]; omega
    have hby' : ((byb.toNat : Int) == 0) = false := by simp only [beq_eq_false_iff_ne, ne_eq]; omega
    go_wp2_with fail
    refine HFW.out.mono ?_
    rintro e w2 ⟨rfl, hb⟩
    have H2 := hide (H1.out.below hb)
    clear hb H1 HFW q0 q1 q2 q3
    obtain ⟨hbx, -, -, hix⟩ := H2.out.box (w1.heap.size, z0) (by simp)
    obtain ⟨q0, q1, q2, q3⟩ := hbx.c4
    have HOP := hide (open_is w2 HZ0.out (show D40.jopen = (J40, 0) from (show Fine 0 J40.full D40 from fine_zero 40 (by decide) (by decide)).open) hix)
    clear hbx hix
    go_wp2_with fail
    refine HOP.out.mono ?_
    rintro e w3 ⟨j0, rfl, hj, hi, hb⟩
    have HK0 := hide hj
    have H3 := hide ((H2.out.below hb).newj (Nat.le_refl _) hi)
    clear hj hi hb q0 q1 q2 q3 HOP H2
    go_upto_region 10 with (fail)
    have HST := hide (show DI w w1.heap.size z0 w3.heap.size (secD l0) 0 (.slice none 0 0) j0 (w3.alloc (.cells j0.cs.toArray 29)) from
      ⟨(H3.out.box (w1.heap.size, z0) (by simp)).1, (H3.out.box (w1.heap.size, z0) (by simp)).2.2.2, (H3.out.jou (w3.heap.size, j0) (by simp)).2.1, H3.out.bel, (H3.out.jou (w3.heap.size, j0) (by simp)).1, (H3.out.jou (w3.heap.size, j0) (by simp)).2.2.2, HK0.out, ⟨by simp [endsL], .inl ⟨rfl, rfl⟩⟩⟩)
    go_wp2_with fail
    go_loopw [13, 62] (fun v i wr => ∃ (k : Nat) (EA : Option Addr) (ec : Nat) (j : Jr), k ≤ l0.length ∧ i = .int .i64 k ∧ v = .slice EA k ec ∧ Hid (DI w w1.heap.size z0 w3.heap.size (secD l0) k (.slice EA k ec) j wr) ∧ Hid (usedB ((secD l0).take k) ≤ 40)) (fun _ i _ => l0.length - (intOf i).toNat)
    case atStart => exact ⟨0, none, 0, j0, Nat.zero_le _, rfl, rfl, HST, hide (by simp [usedB_nil])⟩
    case round =>
      clear HST H3
      obtain ⟨k, EA, ec, j, hk, rfl, rfl, hx, HU40⟩ := hrel
      have hgo : (k < l0.length ∧ (j.k.append ((secD l0).getD k [])).2 = 0) ∨ k = l0.length ∨ (k < l0.length ∧ (j.k.append ((secD l0).getD k [])).2 ≠ 0) := by omega
      rcases hgo with ⟨hlt, h0⟩ | hgo
      · have hi0 : (k : Int) < l0.length := by omega
        obtain ⟨b, o, hsa, _, e0⟩ := (HA.out.below hx.out.bel).at hlt
        have HSI := hide ((HA.out.below hx.out.bel).each _ (List.getElem_mem hlt))
        have HSL := hide (HSA.out _ (List.getElem_mem hlt))
        have hsg : (secD l0).getD k [] = (l0[k]).l := by rw [List.getD_eq_getElem?_getD, List.getElem?_eq_getElem (by rw [secD_len]; exact hlt), secD_get]; rfl
        have HTK := hide (show (secD l0).take (k + 1) = (secD l0).take k ++ [(l0[k]).l] by
          rw [List.take_succ_eq_append_getElem (by rw [secD_len]; exact hlt), secD_get])
        rw [hsg] at h0
        have hle := HA.out.le
        have htp := HA.out.top
        subst hsa
        clear hsg
        generalize l0[k] = s at *
        obtain ⟨q0, q1, q2⟩ := hx.out.box.c3
        have HAP := hide (jappend_any j s wr hx.out.jin HSI.out HSL.out)
        obtain ⟨hok, hy1, hroom⟩ : j.k.ok = true ∧ j.k.append s.l = (⟨j.k.recs ++ [s.l], j.k.many, j.k.synced⟩, 0) ∧ ¬ (j.k.many - usedB j.k.recs < secN s.l.length) := by
          unfold Jk.append at h0 ⊢
          by_cases h1 : j.k.ok = true
          · rw [if_pos h1] at h0 ⊢
            by_cases h2 : j.k.many - usedB j.k.recs < secN s.l.length
            · rw [if_pos h2] at h0; cases h0
            · rw [if_neg h2]; exact ⟨h1, rfl, h2⟩
          · rw [if_neg h1] at h0; cases h0
        rw [hy1] at HAP
        go_wp2_with fail
        refine HAP.out.mono ?_
        rintro e w4 ⟨j', rfl, hyk, hyi, hb⟩
        have HB := hide (hx.out.below hb)
        have HYK := hide (show j'.k = ⟨(secD l0).take (k + 1), 40, 0⟩ by rw [hyk, hx.out.jk, HTK.out])
        have HYI := hide hyi
        have HU := hide (show usedB ((secD l0).take (k + 1)) = usedB ((secD l0).take k) + secN s.l.length by rw [HTK.out, usedB_app, usedB_one])
        have HUB := hide (show usedB ((secD l0).take (k + 1)) ≤ 40 by
          rw [hx.out.jk] at hroom
          have hroom2 : ((secN s.l.length : Nat) : Int) ≤ (40 : Int) - (usedB ((secD l0).take k) : Nat) := by first | exact hroom | exact Int.not_lt.1 hroom
          have := HU.out
          omega)
        have HLN := hide (show l0.length ≤ 1048576 by have h1 := bulkB_len (secD l0); rw [secD_len] at h1; have h2 := HBA.out; omega)
        clear hyk hyi hb q0 q1 q2 e0 HAP hx h0 hy1 hok hroom HTK
        have HB4 := hide (HB.out.below (below_new w4 (.cells j'.cs.toArray 29)))
        have HYA := hide (HYI.out.below (below_new w4 (.cells j'.cs.toArray 29)))
        go_upto_region 16 with (refine wpList_store_row rfl 29 (.tmp 11) (.tmp 74) rfl w3.heap.size #[.slice j'.A j'.rs.length j'.cap, .int .i64 j'.many, .int .i64 j'.synced] rfl rfl 29 _ HB4.out.box Try.size29 rfl (one29 _ _ _ _ _) ?_)
        have HDN := hide (HB4.out.putj HYA.out)
        clear HB4 HYA HB HYI
        generalize ((w4.alloc _).setRow _ _) = w5 at *
        have hsl := HSL.out
        have hwn : max 1 (wrap64 ((wrap64 ((s.l.length : Int) + 111)).tdiv 112)) = ((secN s.l.length : Nat) : Int) := by
          have a1 : wrap64 ((s.l.length : Int) + 111) = s.l.length + 111 := IntWalk.wrap64_in _ (by omega)
          have a2 : ((s.l.length : Int) + 111).tdiv 112 = ((s.l.length : Int) + 111) / 112 := Int.tdiv_eq_ediv_of_nonneg (by omega)
          have a3 : wrap64 (((s.l.length : Int) + 111) / 112) = ((s.l.length : Int) + 111) / 112 := IntWalk.wrap64_in _ (by omega)
          rw [a1, a2, a3]
          unfold secN
          omega
        have hsn := secN_le hsl
        have hkl : k ≤ 140737488355328 := by have := HLN.out; omega
        have hub := HUB.out
        have HDK : Hid (DJ w w1.heap.size z0 w3.heap.size (secD l0) k (.slice EA k ec) j' w5) := HDN
        clear HDN hsl
        go_upto_if 82 with (fail)
        go_cut [18] from 80 to 90 (fun u W => u = .int .i64 (usedB ((secD l0).take (k + 1)) : Nat) ∧ Hid (Below w5.heap.size w5 W))
        case first =>
          by_cases hk0 : k = 0
          · subst hk0
            have hus : ((secN s.l.length : Nat) : Int) = (usedB ((secD l0).take (0 + 1)) : Nat) := by rw [HU.out, List.take_zero, usedB_nil, Nat.zero_add]
            go_wp2_with fail
            go_meet
            case rel => exact ⟨by first | rfl | (rw [hus]) | (rw [← hus]), hide (Below.refl _ _)⟩
          · obtain ⟨k1, rfl⟩ : ∃ k1, k = k1 + 1 := ⟨k - 1, by omega⟩
            obtain ⟨g, c', he, _, _⟩ := HDK.out.own.form (by omega)
            obtain ⟨rfl, rfl⟩ := slice_inj he
            obtain ⟨cs, hcs⟩ := own_blk HDK.out.own
            have e1 := hcs.cell k1
            rw [List.getElem?_append_left (by rw [endsL_len]; omega), show (endsL (secD l0) (k1 + 1))[k1]? = some (.int .i64 (usedB ((secD l0).take (k1 + 1)) : Nat)) by simp [endsL]] at e1
            have hus : wrap64 (((secN s.l.length : Nat) : Int) + (usedB ((secD l0).take (k1 + 1)) : Nat)) = (usedB ((secD l0).take (k1 + 1 + 1)) : Nat) := by rw [IntWalk.wrap64_in _ (by have h1 := HU.out; have h2 := HUB.out; omega), HU.out]; omega
            clear he hcs
            have hkk : 0 < k1 + 1 := by omega
            go_wp2_with fail
            go_meet
            case rel => exact ⟨by first | rfl | (rw [hus]) | (rw [← hus]), hide (Below.refl _ _)⟩
        case rest =>
          obtain ⟨rfl, HB5⟩ := hcut
          have HDQ := hide (HDK.out.below HB5.out)
          clear HDK HB5 hwn hsn hub
          have hkl3 : k ≤ 1048576 := by have := HLN.out; omega
          go_upto_region 19 with (fail)
          have HOW := hide (own_later HDQ.out.own (below_new wc (.cells #[.int .i64 (usedB ((secD l0).take (k + 1)) : Nat)] 3)))
          have HDA := hide (HDQ.out.below (below_new wc (.cells #[.int .i64 (usedB ((secD l0).take (k + 1)) : Nat)] 3)))
          have HSZ := hide (show w.heap.size ≤ (wc.alloc (.cells #[.int .i64 (usedB ((secD l0).take (k + 1)) : Nat)] 3)).heap.size from HDA.out.bel.size)
          clear HDQ
          go_wp2_with (at_builtin; refine wpList_app rfl (.tmp 91) (.tmp 93) 53 rfl w.heap.size 3 i3 _ 1 8 Try.underlying53 HI3.out rfl (by omega) _ k (endsL (secD l0) k) rfl HOW.out (some ⟨wc.heap.size, 0, none⟩) 1 1 [.int .i64 (usedB ((secD l0).take (k + 1)) : Nat)] rfl (fun h => by cases h) rfl (new_cells wc 3 [.int .i64 (usedB ((secD l0).take (k + 1)) : Nat)]) (by simp [Value.oneCell']) (by unfold maxLen; omega) (by omega) HSZ.out ?_; intro A6 c6 w6 hown hg; have HDF := hide (HDA.out.grow hown hg HYK.out); clear hown hg)
          go_roundw
          case rel => exact ⟨k + 1, A6, c6, j', by omega, by go_num, rfl, HDF, HUB⟩
          case measure => simp [intOf]; omega
      · have hexit : ∃ wq jq, Hid (DI w w1.heap.size z0 w3.heap.size (secD l0) k (.slice EA k ec) jq wq) := ⟨wr, j, hx⟩
        clear hexit
        rcases hgo with rfl | ⟨hlt, hne⟩
        · have HDQ := hx
          clear hx
          have hnl : ¬ ((l0.length : Int) < (l0.length : Int)) := by omega
          go_upto_region 21 with (fail)
          generalize wr = wq at *
          have HLK := hide (Nat.le_refl l0.length)
          have hkl2 : l0.length ≤ 1048576 := by have h1 := bulkB_len (secD l0); rw [secD_len] at h1; have h2 := HBA.out; omega
          have HLK2 := HLK
          generalize hkk : l0.length = k at HDQ HU40 hkl2 HLK ⊢
          replace HLK := hide (Nat.le_of_eq hkk.symm)
          clear HLK2 hkk
          have hn0 : w.heap.size ≤ wq.heap.size := HDQ.out.bel.size
          obtain ⟨q0, q1, q2⟩ := HDQ.out.box.c3
          obtain ⟨d0, d1, d2, d3⟩ := HDQ.out.dsk.c4
          have HSN0 := hide (damS HU40.out)
          obtain ⟨cq, hs1, hs2⟩ := HSN0.out
          have HC := hide (jsync_is wq hn0 HDQ.out.jk HZ0.out hs1 HDQ.out.jin HDQ.out.din)
          have HCQ := hide hs2
          clear hs1 hs2 HSN0
          go_wp2_with fail
          refine HC.out.mono ?_
          rintro e w5 ⟨j5, d5, rfl, hj5, hd5, hij, hid, hb⟩
          have HD5 := hide hd5
          have HE5 := hide (two_new hb hn0 hij hid)
          have HBB := hide hb
          clear hj5 hd5 hij hid hb HC q0 q1 q2 d0 d1 d2 d3
          go_upto_region 22 with (first | (refine wpList_store_row rfl 29 (.tmp 19) (.tmp 100) rfl w5.heap.size #[.slice j5.A j5.rs.length j5.cap, .int .i64 j5.many, .int .i64 j5.synced] rfl rfl 29 _ HE5.out.1 Try.size29 rfl (one29 _ _ _ _ _) ?_) | (refine wpList_store_row rfl 25 (.tmp 20) (.tmp 101) rfl (w5.heap.size + 1) #[.slice d5.sa d5.ss.length d5.sc, .slice d5.pa d5.ps.length d5.pc, .int .i64 d5.left, .bool d5.stp] rfl rfl 25 _ HE5.out.2.1 Try.size25 rfl (one25 _ _ _ _ _ _ _ _) ?_))
          have HEN := hide HE5.out.2.2
          have HEN2 := hide (HDQ.out.below HEN.out.bel)
          clear HE5 HBB
          replace HEN := hide (show Env w.heap.size wq _ _ [] ((((w5.alloc (.cells #[.slice none 0 0, .int .i64 0, .int .i64 0] 29)).alloc (.cells #[.slice none 0 0, .slice none 0 0, .int .i64 0, .bool false] 25)).setRow w5.heap.size #[.slice j5.A j5.rs.length j5.cap, .int .i64 j5.many, .int .i64 j5.synced]).setRow (w5.heap.size + 1) #[.slice d5.sa d5.ss.length d5.sc, .slice d5.pa d5.ps.length d5.pc, .int .i64 d5.left, .bool d5.stp]) from HEN.out)
          replace HEN2 := hide (show DI w w1.heap.size z0 w3.heap.size (secD l0) k (.slice EA k ec) _ ((((w5.alloc (.cells #[.slice none 0 0, .int .i64 0, .int .i64 0] 29)).alloc (.cells #[.slice none 0 0, .slice none 0 0, .int .i64 0, .bool false] 25)).setRow w5.heap.size #[.slice j5.A j5.rs.length j5.cap, .int .i64 j5.many, .int .i64 j5.synced]).setRow (w5.heap.size + 1) #[.slice d5.sa d5.ss.length d5.sc, .slice d5.pa d5.ps.length d5.pc, .int .i64 d5.left, .bool d5.stp]) from HEN2.out)
          generalize ((((w5.alloc (.cells #[.slice none 0 0, .int .i64 0, .int .i64 0] 29)).alloc (.cells #[.slice none 0 0, .slice none 0 0, .int .i64 0, .bool false] 25)).setRow w5.heap.size #[.slice j5.A j5.rs.length j5.cap, .int .i64 j5.many, .int .i64 j5.synced]).setRow (w5.heap.size + 1) #[.slice d5.sa d5.ss.length d5.sc, .slice d5.pa d5.ps.length d5.pc, .int .i64 d5.left, .bool d5.stp]) = v0 at *
          generalize w5.heap.size = X19 at *
          by_cases hk0 : k = 0
          · subst hk0
            go_wp2_with fail
            go_ret
            exact ⟨rfl, HEN2.out.bel⟩
          · obtain ⟨k1, rfl⟩ : ∃ k1, k = k1 + 1 := ⟨k - 1, by omega⟩
            have hk0' : (((k1 + 1 : Nat) : Int) == 0) = false := by simp only [beq_eq_false_iff_ne, ne_eq]; omega
            clear hk0
            obtain ⟨g, c', he, _, _⟩ := HEN2.out.own.form (by omega)
            obtain ⟨rfl, rfl⟩ := slice_inj he
            obtain ⟨cs, hcs⟩ := own_blk HEN2.out.own
            have e1 := hcs.cell k1
            rw [List.getElem?_append_left (by rw [endsL_len]; omega), show (endsL (secD l0) (k1 + 1))[k1]? = some (.int .i64 (usedB ((secD l0).take (k1 + 1)) : Nat)) by simp [endsL]] at e1
            have HNE : (secD l0).take (k1 + 1) ≠ [] := fun h => by
              have h1 := congrArg List.length h
              rw [List.length_take, secD_len] at h1
              simp only [List.length_nil] at h1
              have := HLK.out
              omega
            have HUP := hide (used_pos HNE)
            have HCR := hide (HCQ.out HNE)
            have hU40 := HU40.out
            have hUP := HUP.out
            obtain ⟨sn, hsn⟩ : ∃ sn : Nat, sn = (IntKind.u64.wrap sector).toNat := ⟨_, rfl⟩
            have hw0 : IntKind.u64.wrap sector = (sn : Int) := by rw [hsn, Int.toNat_of_nonneg (u64_nonneg _)]
            obtain ⟨U, hU⟩ : ∃ U, U = usedB ((secD l0).take (k1 + 1)) := ⟨_, rfl⟩
            rw [← hU] at e1 hU40 hUP
            have HUU := hide hU
            obtain ⟨kk, hkk⟩ : ∃ kk, kk = sn % U := ⟨_, rfl⟩
            have hkl : kk < U := by rw [hkk]; exact Nat.mod_lt _ hUP
            have hw1 : IntKind.u64.wrap (U : Int) = (U : Int) := wrapU_small _ (by omega)
            have hw2 : (sn : Int).tmod (U : Int) = (kk : Int) := by rw [Int.tmod_eq_emod_of_nonneg (by omega), hkk, Int.natCast_emod]
            have hw3 : IntKind.u64.wrap (kk : Int) = (kk : Int) := wrapU_small _ (by omega)
            have hw4 : IntKind.i64.wrap (kk : Int) = (kk : Int) := wrapI_small _ (by omega)
            have hUz : (U : Int) ≠ 0 := by omega
            have hkk2 : 0 < k1 + 1 := by omega
            clear he hcs hsn hU hkk HNE HUP HCQ
            go_upto_region 25 with (fail)
            clear hw0 hw1 hw2 hw3 hw4 hUz e1
            obtain ⟨hbd, -, -, hid⟩ := HEN.out.box (X19 + 1, d5) (by simp)
            obtain ⟨p0, p1, p2, p3⟩ := hbd.c4
            have hd40 : d5.ss.length = 40 := by
              have h1 := congrArg (fun d : Dk => d.sec.length) HD5.out
              simp only [Dsk.d, secD_len] at h1
              rw [h1]
              exact HCR.out.1
            have hk40 : kk < d5.ss.length := by omega
            obtain ⟨b, o, hsa, hb9, p9⟩ := hid.sec.at hk40
            have hall : (d5.ss[kk]).l.length = 128 := by
              have h1 := congrArg Dk.sec HD5.out
              simp only [Dsk.d] at h1
              refine HCR.out.2.2.2.2.1 _ ?_
              rw [← h1]
              exact List.mem_map.2 ⟨_, List.getElem_mem hk40, rfl⟩
            have HSS := hide (hid.sec.each _ (List.getElem_mem hk40))
            have HSG := hide (show cq.sec[kk]? = some (d5.ss[kk]).l by rw [← HD5.out]; simp [Dsk.d, secD, hk40])
            generalize d5.ss[kk] = sc at p9 hall HSS HSG
            replace p9 : v0.cell? ⟨b, o + kk, none⟩ = some (.slice sc.A sc.l.length sc.cap) := p9
            rw [hall] at p9
            rw [hd40, hsa] at p0
            have P0A := hide (((below_new v0 (.cells #[] 5)).cell (p := ⟨X19 + 1, 0, none⟩) hbd.lt).trans p0)
            have P9A := hide (((below_new v0 (.cells #[] 5)).cell (p := ⟨b, o + kk, none⟩) hb9).trans p9)
            clear hbd hid hsa hb9
            have hjl : j.rs.length = k1 + 1 := by
              have h1 := congrArg (fun d : Jk => d.recs.length) HEN2.out.jk
              simp only [Jr.k, secD_len, List.length_take] at h1
              have := HLK.out
              omega
            obtain ⟨q0, q1, q2⟩ := HEN2.out.box.c3
            rw [hjl] at q0
            have hc1 : ¬ ((40 : Int) ≤ (kk : Int)) := by omega
            have hk40' : kk < 40 := by omega
            clear hk40 hd40 hjl
            go_upto_region 27 with (fail)
            obtain ⟨i5, hi5⟩ := hinfo5
            have HI5 := hide hi5
            clear hi5
            have HOW := hide (own_empty v0 v0.heap.size 5 1 (Nat.le_refl _))
            have HN0 := hide (HSS.out.cels.below (below_new v0 (.cells #[] 5)))
            have hnil : sc.A = none → 128 = 0 ∧ sc.cap = 0 := fun h => by
              have h1 := HSS.out.nil h
              have h2 := HSS.out.le
              omega
            clear p0 p1 p2 p3 p9 q0 q1 q2
            have p0 := P0A.out
            have p9 := P9A.out
            clear P0A P9A
            go_upto_region 28 with (refine wpList_app rfl (.tmp 145) (.tmp 150) 35 rfl v0.heap.size 5 i5 _ 1 1 Try.underlying35 HI5.out rfl (by decide) _ 0 [] rfl HOW.out sc.A 128 sc.cap (bs sc.l) rfl hnil (by rw [bs_len, hall]) HN0.out.opt (bs_one _) (by unfold maxLen; omega) (by omega) (by simp) ?_; intro A6 c6 w6 hown hg; have HOWN := hide hown; have HB6 := hide (below_app (below_new v0 (.cells #[] 5)) HOW.out hg (Nat.le_refl _) (by simp)); clear hown hg)
            clear p0 p9 HOW HN0 hnil
            obtain ⟨g6, c6', he6, _, _⟩ := HOWN.out.form (by decide)
            obtain ⟨rfl, rfl⟩ := slice_inj he6
            obtain ⟨cs6, hc6⟩ := own_blk HOWN.out
            rw [List.nil_append] at hc6
            have hcap6 := own_caps HOWN.out
            obtain ⟨an, han⟩ : ∃ an : Nat, an = (IntKind.u64.wrap at0).toNat := ⟨_, rfl⟩
            have hwa0 : IntKind.u64.wrap at0 = (an : Int) := by rw [han, Int.toNat_of_nonneg (u64_nonneg _)]
            obtain ⟨ii, hii0⟩ : ∃ ii, ii = an % 128 := ⟨_, rfl⟩
            have hii : ii < 128 := by omega
            have hwa2 : (an : Int).tmod 128 = (ii : Int) := by rw [Int.tmod_eq_emod_of_nonneg (by omega), hii0]; omega
            have hwa3 : IntKind.u64.wrap (ii : Int) = (ii : Int) := wrapU_small _ (by omega)
            have hil : ii < sc.l.length := by omega
            have f0 := hc6.cell ii
            rw [List.getElem?_append_left (by rw [bs_len]; exact hil), List.getElem?_eq_getElem (by rw [bs_len]; exact hil), bs_get] at f0
            have f1 := hc6.free ii
            have HXV := hide (show (sc.l)[ii]? = some (sc.l[ii]) from List.getElem?_eq_getElem hil)
            have HC6 := hide hc6
            generalize sc.l[ii] = xv at f0 HXV
            clear he6 hc6 han hii0
            obtain ⟨yv, hyv⟩ : ∃ yv, yv = xv ^^^ byb := ⟨_, rfl⟩
            have hxv : bits BinOp.xor IntKind.u8 ((xv.toNat : Nat) : Int) ((byb.toNat : Nat) : Int) = ((yv.toNat : Nat) : Int) := by rw [hyv]; exact u8_xor xv byb
            have HXN := hide (show xv ≠ yv by rw [hyv]; exact xor_ne xv hby)
            clear hyv
            go_upto_region 29 with (fail)
            clear f0 f1 hwa0 hwa2 hwa3 hxv
            have hg6 : v0.heap.size ≤ g6 := (HOWN.out.lt g6 rfl).1
            have HB7 := hide (HB6.out.setCell (p := ⟨g6, ii, none⟩) hg6 (.int .u8 (yv.toNat : Nat)))
            have HE7 := hide (HEN.out.below HB7.out)
            have HC7 := hide (HC6.out.set ii (.int .u8 (yv.toNat : Nat)))
            replace HC7 := hide (show Blk _ g6 5 (bs (sc.l.set ii yv) ++ cs6) by have h := HC7.out; rw [bs_set sc.l cs6 hil] at h; exact h)
            clear HB7 HC6 HOWN HEN HEN2
            generalize w6.setCell ⟨g6, ii, none⟩ (.int .u8 (yv.toNat : Nat)) = v1 at *
            have hls : (sc.l.set ii yv).length = 128 := by rw [List.length_set]; exact hall
            have HSB := hide (show Sec.In v1.heap.size ⟨some ⟨g6, 0, none⟩, sc.l.set ii yv, c6⟩ v1 from ⟨HC7.out.cels (.inl rfl), by rw [hls]; exact hcap6.1, hcap6.2, fun h => by cases h⟩)
            have HRR := hide (damR HU40.out HCR.out (by rw [← HUU.out]; exact hkl) hii HSG.out (by rw [HXV.out]; exact fun h => HXN.out (by injection h)))
            obtain ⟨m, d1, d2, hm1, hm2, hm3, hwr1, hsy, hop⟩ := HRR.out
            have HM2 := hide hm2
            have HM3 := hide hm3
            have HSY := hide hsy
            have HOPN := hide hop
            obtain ⟨hbd, -, -, hid⟩ := HE7.out.box (X19 + 1, d5) (by simp)
            obtain ⟨p0, p1, p2, p3⟩ := hbd.c4
            have HC := hide (write_sub d5 (kk : Int) ⟨some ⟨g6, 0, none⟩, sc.l.set ii yv, c6⟩ v1 hid HSB.out (by omega))
            replace HC := hide (show Calls Try.prog 28 #[d5.v, .int .i64 (kk : Int), .slice (some ⟨g6, 0, none⟩) 128 c6] v1 (Ans w.heap.size v1 (d1, 0)) by have h := HC.out; rw [HD5.out, hwr1] at h; simpa only [Sec.v, hls] using h)
            clear hm2 hm3 hwr1 hsy hop hbd hid HRR HSB HC7 hls
            go_wp2_with fail
            refine HC.out.mono ?_
            rintro e v2 ⟨d6, rfl, hd6, hi6, hb⟩
            have HD6 := hide hd6
            have HE8 := hide (HE7.out.below hb)
            have HX8 := hide (show Blk v2 (X19 + 1) 25 d5.cs from (HE8.out.box (X19 + 1, d5) (by simp)).1)
            have HE9 := hide (HE8.out.putd (X := X19 + 1) (d := d5) (d' := d6) (by simp) hi6 (l' := [(X19 + 1, d6)]) (fun p hp => .inl (List.mem_singleton.1 hp)))
            clear hd6 hi6 hb HC p0 p1 p2 p3 HE8 HE7
            go_upto_region 30 with (refine wpList_store_row rfl 25 (.tmp 20) (.tmp 166) rfl (X19 + 1) #[.slice d6.sa d6.ss.length d6.sc, .slice d6.pa d6.ps.length d6.pc, .int .i64 d6.left, .bool d6.stp] rfl rfl 25 _ HX8.out Try.size25 rfl (one25 _ _ _ _ _ _ _ _) ?_)
            replace HE9 := hide (show Env w.heap.size wq [(X19 + 1, d6)] [(X19, j5)] [] (v2.setRow (X19 + 1) #[.slice d6.sa d6.ss.length d6.sc, .slice d6.pa d6.ps.length d6.pc, .int .i64 d6.left, .bool d6.stp]) from HE9.out)
            clear HX8
            generalize v2.setRow (X19 + 1) #[.slice d6.sa d6.ss.length d6.sc, .slice d6.pa d6.ps.length d6.pc, .int .i64 d6.left, .bool d6.stp] = v3 at *
            obtain ⟨hbd, -, -, hid⟩ := HE9.out.box (X19 + 1, d6) (by simp)
            obtain ⟨p0, p1, p2, p3⟩ := hbd.c4
            have HC := hide (sync_any d6 v3 hid)
            replace HC := hide (show Calls Try.prog 29 #[d6.v] v3 (Ans w.heap.size v3 (d2, 0)) by have h := HC.out; rw [HD6.out, HSY.out] at h; exact h)
            clear hbd hid
            go_wp2_with fail
            refine HC.out.mono ?_
            rintro e v4 ⟨d7, rfl, hd7, hi7, hb⟩
            have HD7 := hide hd7
            have HE8 := hide (HE9.out.below hb)
            have HX8 := hide (show Blk v4 (X19 + 1) 25 d6.cs from (HE8.out.box (X19 + 1, d6) (by simp)).1)
            have HEA := hide (HE8.out.putd (X := X19 + 1) (d := d6) (d' := d7) (by simp) hi7 (l' := [(X19 + 1, d7)]) (fun p hp => .inl (List.mem_singleton.1 hp)))
            clear hd7 hi7 hb HC p0 p1 p2 p3 HE8 HE9
            go_upto_region 31 with (refine wpList_store_row rfl 25 (.tmp 20) (.tmp 171) rfl (X19 + 1) #[.slice d7.sa d7.ss.length d7.sc, .slice d7.pa d7.ps.length d7.pc, .int .i64 d7.left, .bool d7.stp] rfl rfl 25 _ HX8.out Try.size25 rfl (one25 _ _ _ _ _ _ _ _) ?_)
            replace HEA := hide (show Env w.heap.size wq [(X19 + 1, d7)] [(X19, j5)] [] (v4.setRow (X19 + 1) #[.slice d7.sa d7.ss.length d7.sc, .slice d7.pa d7.ps.length d7.pc, .int .i64 d7.left, .bool d7.stp]) from HEA.out)
            clear HX8
            generalize v4.setRow (X19 + 1) #[.slice d7.sa d7.ss.length d7.sc, .slice d7.pa d7.ps.length d7.pc, .int .i64 d7.left, .bool d7.stp] = v5 at *
            obtain ⟨hbd, -, -, hid⟩ := HEA.out.box (X19 + 1, d7) (by simp)
            obtain ⟨p0, p1, p2, p3⟩ := hbd.c4
            have HC := hide (open_is v5 HD7.out HOPN.out hid)
            clear hbd hid
            go_wp2_with fail
            refine HC.out.mono ?_
            rintro e v6 ⟨j8, rfl, hj8, hi8, hb⟩
            have HJ8 := hide hj8
            have HEB := hide ((HEA.out.below hb).newj hn0 hi8)
            have HDX := hide (HDQ.out.below HEB.out.bel)
            clear hj8 hi8 hb HC p0 p1 p2 p3 HEA HDQ
            go_upto_region 32 with (fail)
            replace HEB := hide (show Env w.heap.size wq [(X19 + 1, d7)] [(v6.heap.size, j8), (X19, j5)] [] (v6.alloc (.cells #[.slice j8.A j8.rs.length j8.cap, .int .i64 j8.many, .int .i64 j8.synced] 29)) from HEB.out)
            replace HDX := hide (show DI w w1.heap.size z0 w3.heap.size (secD l0) (k1 + 1) (.slice (some ⟨g, 0, none⟩) (k1 + 1) ec) j (v6.alloc (.cells #[.slice j8.A j8.rs.length j8.cap, .int .i64 j8.many, .int .i64 j8.synced] 29)) from HDX.out)
            generalize v6.heap.size = X25 at *
            generalize v6.alloc (.cells #[.slice j8.A j8.rs.length j8.cap, .int .i64 j8.many, .int .i64 j8.synced] 29) = v7 at *
            obtain ⟨cs7, hcs7⟩ := own_blk HDX.out.own
            have HEX := hide (fun x (hx : x < k1 + 1) => show v7.cell? ⟨g, x, none⟩ = some (.int .i64 (usedB ((secD l0).take (x + 1)) : Nat)) by
              have e := hcs7.cell x
              rw [List.getElem?_append_left (by rw [endsL_len]; omega)] at e
              rw [e]
              simp [endsL, hx])
            clear hcs7
            go_wp2_with fail
            go_loop [27] (fun u => ∃ x : Nat, x ≤ m ∧ u = .int .i64 x) (fun u => m - (intOf u).toNat)
            case atStart => exact ⟨0, Nat.zero_le _, rfl⟩
            case round =>
              obtain ⟨x, hx, rfl⟩ := hrel
              have hxk : (x : Int) < (k1 : Int) + 1 := by omega
              have hxk2 : x < k1 + 1 := by omega
              have hcap := (own_caps HDX.out.own).1
              have ex := HEX.out x (by omega)
              by_cases hxm : x < m
              · have hle : usedB ((secD l0).take (x + 1)) ≤ kk := HM2.out x hxm
                have hle' : (usedB ((secD l0).take (x + 1)) : Int) ≤ (kk : Int) := by omega
                generalize usedB ((secD l0).take (x + 1)) = ux at ex hle hle'
                go_wp2_with fail
                go_round
                case rel => exact ⟨x + 1, by omega, by go_num⟩
                case measure => simp [intOf]; omega
              · obtain rfl : x = m := by omega
                have hgt : kk < usedB ((secD l0).take (x + 1)) := HM3.out
                have hle' : ¬ ((usedB ((secD l0).take (x + 1)) : Int) ≤ (kk : Int)) := by omega
                generalize usedB ((secD l0).take (x + 1)) = ux at ex hgt hle'
                go_upto_region 35 with (fail)
                clear ex hle' hgt
                obtain ⟨jb, jo, hja, _, _⟩ := HDX.out.jin.recs.at (k := 0) (by
                  have h1 := congrArg (fun d : Jk => d.recs.length) HDX.out.jk
                  simp only [Jr.k, secD_len, List.length_take] at h1
                  have := HLK.out
                  omega)
                have hjl : j.rs.length = k1 + 1 := by
                  have h1 := congrArg (fun d : Jk => d.recs.length) HDX.out.jk
                  simp only [Jr.k, secD_len, List.length_take] at h1
                  have := HLK.out
                  omega
                have hjc : j.rs.length ≤ j.cap := HDX.out.jin.recs.le
                have hjt : j.cap ≤ 9223372036854775807 := HDX.out.jin.recs.top
                have HCX := hide (fun W (hW : Below v7.heap.size v7 W) => damC HDX.out.box (HEB.out.jou (X25, j8) (by simp)).1 hja hW)
                have hre : secD j8.rs = secD (j.rs.take x) := damE HJ8.out HDX.out.jk
                have HSR := hide (fun W (hW : Below v7.heap.size v7 W) => srec_any j8.A j8.rs j8.cap j.A (j.rs.take x) j.cap W ((HEB.out.jou (X25, j8) (by simp)).2.2.2.recs.below hW) ((HDX.out.jin.recs.below hW).take x))
                have hxl : (j.rs.take x).length = x := by rw [List.length_take]; omega
                replace HSR := hide (show ∀ W, Below v7.heap.size v7 W → Calls Try.prog 25 #[.slice j8.A j8.rs.length j8.cap, .slice (some ⟨jb, jo, none⟩) x j.cap] W fun e w' => e = .returned (.bool true) ∧ ∃ n, w' = W.drewN n from fun W hW => by
                  have h := HSR.out W hW
                  rw [hxl, hja, decide_eq_true hre] at h
                  exact h)
                have hx1 : (0 : Int) ≤ (x : Int) := by omega
                have hx2 : (x : Int) ≤ (j.cap : Int) := by omega
                have hx3 : x ≤ j.cap := by omega
                rw [hjl] at HCX
                clear hre hxl hja hjl hjc hxm
                refine wp_region_plan3 (fun w' => Below v7.heap.size v7 w') (.take 0 (.take 1 (.take 2 (.take 3 (.take 4 (.take 5 (.take 6 (.take 7 (.take 8 (.take 9 (.take 10 (.take 11 (.take 12 (.take 13 (.take 14 (.take 15 (.take 16 (.run 17 (.take 18 (.take 19 .done)))))))))))))))))))) (by kernel_rfl) (by kernel_rfl) ((Below.refl _ _).drew) ?_
                have HF0 := hide (show Below v7.heap.size v7 v7.drew from (Below.refl _ _).drew)
                generalize v7.drew = wD at HF0 ⊢
                (refine plan3_take (o := ?_) (v := ?_) (by simp only [List.getElem?_toArray, List.getElem?_cons_zero]; rfl) (yields_run (by rfl) ?_) ?_; rotate_left; (focus (intro w' hw'; skip; go_simp <;> with_reducible rfl)); (simp only [Act.put, List.setIfInBounds_toArray, List.set_cons_zero, List.set_cons_succ]))
                (refine plan3_take (o := ?_) (v := ?_) (by simp only [List.getElem?_toArray, List.getElem?_cons_succ, List.getElem?_cons_zero]; rfl) (yields_run (by rfl) ?_) ?_; rotate_left; (focus (intro w' hw'; skip; go_simp <;> with_reducible rfl)); (simp only [Act.put, List.setIfInBounds_toArray, List.set_cons_zero, List.set_cons_succ]))
                (refine plan3_take (o := ?_) (v := ?_) (by simp only [List.getElem?_toArray, List.getElem?_cons_succ, List.getElem?_cons_zero]; rfl) (yields_run (by rfl) ?_) ?_; rotate_left; (focus (intro w' hw'; skip; go_simp <;> with_reducible rfl)); (simp only [Act.put, List.setIfInBounds_toArray, List.set_cons_zero, List.set_cons_succ]))
                (refine plan3_take (o := ?_) (v := ?_) (by simp only [List.getElem?_toArray, List.getElem?_cons_succ, List.getElem?_cons_zero]; rfl) (yields_run (by rfl) ?_) ?_; rotate_left; (focus (intro w' hw'; skip; go_simp <;> with_reducible rfl)); (simp only [Act.put, List.setIfInBounds_toArray, List.set_cons_zero, List.set_cons_succ]))
                (refine plan3_take (o := ?_) (v := ?_) (by simp only [List.getElem?_toArray, List.getElem?_cons_succ, List.getElem?_cons_zero]; rfl) (yields_run (by rfl) ?_) ?_; rotate_left; (focus (intro w' hw'; skip; go_simp <;> with_reducible rfl)); (simp only [Act.put, List.setIfInBounds_toArray, List.set_cons_zero, List.set_cons_succ]))
                (refine plan3_take (o := ?_) (v := ?_) (by simp only [List.getElem?_toArray, List.getElem?_cons_succ, List.getElem?_cons_zero]; rfl) (yields_run (by rfl) ?_) ?_; rotate_left; (focus (intro w' hw'; skip; go_simp <;> with_reducible rfl)); (simp only [Act.put, List.setIfInBounds_toArray, List.set_cons_zero, List.set_cons_succ]))
                (refine plan3_take (o := ?_) (v := ?_) (by simp only [List.getElem?_toArray, List.getElem?_cons_succ, List.getElem?_cons_zero]; rfl) (yields_run (by rfl) ?_) ?_; rotate_left; (focus (intro w' hw'; skip; go_simp <;> with_reducible rfl)); (simp only [Act.put, List.setIfInBounds_toArray, List.set_cons_zero, List.set_cons_succ]))
                (refine plan3_take (o := ?_) (v := ?_) (by simp only [List.getElem?_toArray, List.getElem?_cons_succ, List.getElem?_cons_zero]; rfl) (yields_run (by rfl) ?_) ?_; rotate_left; (focus (intro w' hw'; skip; go_simp <;> with_reducible rfl)); (simp only [Act.put, List.setIfInBounds_toArray, List.set_cons_zero, List.set_cons_succ]))
                (refine plan3_take (o := ?_) (v := ?_) (by simp only [List.getElem?_toArray, List.getElem?_cons_succ, List.getElem?_cons_zero]; rfl) (yields_run (by rfl) ?_) ?_; rotate_left; (focus (intro w' hw'; skip; go_simp <;> with_reducible rfl)); (simp only [Act.put, List.setIfInBounds_toArray, List.set_cons_zero, List.set_cons_succ]))
                (refine plan3_take (o := ?_) (v := ?_) (by simp only [List.getElem?_toArray, List.getElem?_cons_succ, List.getElem?_cons_zero]; rfl) (yields_run (by rfl) ?_) ?_; rotate_left; (focus (intro w' hw'; skip; go_simp <;> with_reducible rfl)); (simp only [Act.put, List.setIfInBounds_toArray, List.set_cons_zero, List.set_cons_succ]))
                (refine plan3_take (o := ?_) (v := ?_) (by simp only [List.getElem?_toArray, List.getElem?_cons_succ, List.getElem?_cons_zero]; rfl) (yields_run (by rfl) ?_) ?_; rotate_left; (focus (intro w' hw'; skip; go_simp <;> with_reducible rfl)); (simp only [Act.put, List.setIfInBounds_toArray, List.set_cons_zero, List.set_cons_succ]))
                (refine plan3_take (o := ?_) (v := ?_) (by simp only [List.getElem?_toArray, List.getElem?_cons_succ, List.getElem?_cons_zero]; rfl) (yields_run (by rfl) ?_) ?_; rotate_left; (focus (intro w' hw'; skip; go_simp <;> with_reducible rfl)); (simp only [Act.put, List.setIfInBounds_toArray, List.set_cons_zero, List.set_cons_succ]))
                (refine plan3_take (o := ?_) (v := ?_) (by simp only [List.getElem?_toArray, List.getElem?_cons_succ, List.getElem?_cons_zero]; rfl) (yields_run (by rfl) ?_) ?_; rotate_left; (focus (intro w' hw'; obtain ⟨r0, r1, r2, t0, t1, t2⟩ := HCX.out w' hw'; go_simp <;> with_reducible rfl)); (simp only [Act.put, List.setIfInBounds_toArray, List.set_cons_zero, List.set_cons_succ]))
                (refine plan3_take (o := ?_) (v := ?_) (by simp only [List.getElem?_toArray, List.getElem?_cons_succ, List.getElem?_cons_zero]; rfl) (yields_run (by rfl) ?_) ?_; rotate_left; (focus (intro w' hw'; skip; go_simp <;> with_reducible rfl)); (simp only [Act.put, List.setIfInBounds_toArray, List.set_cons_zero, List.set_cons_succ]))
                (refine plan3_take (o := ?_) (v := ?_) (by simp only [List.getElem?_toArray, List.getElem?_cons_succ, List.getElem?_cons_zero]; rfl) (yields_run (by rfl) ?_) ?_; rotate_left; (focus (intro w' hw'; obtain ⟨r0, r1, r2, t0, t1, t2⟩ := HCX.out w' hw'; go_simp <;> with_reducible rfl)); (simp only [Act.put, List.setIfInBounds_toArray, List.set_cons_zero, List.set_cons_succ]))
                (refine plan3_take (o := ?_) (v := ?_) (by simp only [List.getElem?_toArray, List.getElem?_cons_succ, List.getElem?_cons_zero]; rfl) (yields_run (by rfl) ?_) ?_; rotate_left; (focus (intro w' hw'; skip; go_simp <;> with_reducible rfl)); (simp only [Act.put, List.setIfInBounds_toArray, List.set_cons_zero, List.set_cons_succ]))
                (refine plan3_take (o := ?_) (v := ?_) (by simp only [List.getElem?_toArray, List.getElem?_cons_succ, List.getElem?_cons_zero]; rfl) (yields_run (by rfl) ?_) ?_; rotate_left; (focus (intro w' hw'; skip; go_simp <;> with_reducible rfl)); (simp only [Act.put, List.setIfInBounds_toArray, List.set_cons_zero, List.set_cons_succ]))
                refine plan3_run (o := ?_) (by simp only [List.getElem?_toArray, List.getElem?_cons_succ, List.getElem?_cons_zero]; rfl) ?_
                intro R HR
                go_wp2_with fail
                with_reducible refine (HSR.out wD HF0.out).mono ?_
                rintro e vX ⟨rfl, nX, rfl⟩
                have HFX := hide (below_drewN HF0.out nX)
                go_wp2_with fail
                refine HR.out _ _ HFX.out ?_
                clear HR
                (refine plan3_take (o := ?_) (v := ?_) (by simp only [List.getElem?_toArray, List.getElem?_cons_succ, List.getElem?_cons_zero]; rfl) (yields_run (by rfl) ?_) ?_; rotate_left; (focus (intro w' hw'; skip; go_simp <;> with_reducible rfl)); (simp only [Act.put, List.setIfInBounds_toArray, List.set_cons_zero, List.set_cons_succ]))
                (refine plan3_take (o := ?_) (v := ?_) (by simp only [List.getElem?_toArray, List.getElem?_cons_succ, List.getElem?_cons_zero]; rfl) (yields_run (by rfl) ?_) ?_; rotate_left; (focus (intro w' hw'; skip; go_simp <;> with_reducible rfl)); (simp only [Act.put, List.setIfInBounds_toArray, List.set_cons_zero, List.set_cons_succ]))
                refine plan3_done ?_
                go_wp2_with fail
                go_ret
                exact ⟨rfl, (HDX.out.below HFX.out).bel⟩
        · have hi0 : (k : Int) < l0.length := by omega
          obtain ⟨b, o, hsa, _, e0⟩ := (HA.out.below hx.out.bel).at hlt
          have HSI := hide ((HA.out.below hx.out.bel).each _ (List.getElem_mem hlt))
          have HSL := hide (HSA.out _ (List.getElem_mem hlt))
          have hsg : (secD l0).getD k [] = (l0[k]).l := by rw [List.getD_eq_getElem?_getD, List.getElem?_eq_getElem (by rw [secD_len]; exact hlt), secD_get]; rfl
          rw [hsg] at hne
          have hle := HA.out.le
          have htp := HA.out.top
          have hkl2 : k ≤ 1048576 := by have h1 := bulkB_len (secD l0); rw [secD_len] at h1; have h2 := HBA.out; omega
          subst hsa
          clear hsg
          generalize l0[k] = s at *
          obtain ⟨q0, q1, q2⟩ := hx.out.box.c3
          have HAP := hide (jappend_any j s wr hx.out.jin HSI.out HSL.out)
          have hne' : ((j.k.append s.l).2 != (0 : Int)) = true := by simpa using hne
          generalize j.k.append s.l = ya at HAP hne hne'
          obtain ⟨y1, y2⟩ := ya
          simp only at hne hne'
          go_wp2_with fail
          refine HAP.out.mono ?_
          rintro e w4 ⟨j', rfl, hyk, hyi, hb⟩
          have HDQ := hide ((hx.out.below hb).below (below_new w4 (.cells j'.cs.toArray 29)))
          clear hyk hyi hb q0 q1 q2 e0 HAP hx hne HSI HSL
          go_upto_region 21 with (fail)
          clear hne'
          have HLK := hide (Nat.le_of_lt hlt)
          generalize (w4.alloc _) = wq at *
          have hn0 : w.heap.size ≤ wq.heap.size := HDQ.out.bel.size
          obtain ⟨q0, q1, q2⟩ := HDQ.out.box.c3
          obtain ⟨d0, d1, d2, d3⟩ := HDQ.out.dsk.c4
          have HSN0 := hide (damS HU40.out)
          obtain ⟨cq, hs1, hs2⟩ := HSN0.out
          have HC := hide (jsync_is wq hn0 HDQ.out.jk HZ0.out hs1 HDQ.out.jin HDQ.out.din)
          have HCQ := hide hs2
          clear hs1 hs2 HSN0
          go_wp2_with fail
          refine HC.out.mono ?_
          rintro e w5 ⟨j5, d5, rfl, hj5, hd5, hij, hid, hb⟩
          have HD5 := hide hd5
          have HE5 := hide (two_new hb hn0 hij hid)
          have HBB := hide hb
          clear hj5 hd5 hij hid hb HC q0 q1 q2 d0 d1 d2 d3
          go_upto_region 22 with (first | (refine wpList_store_row rfl 29 (.tmp 19) (.tmp 100) rfl w5.heap.size #[.slice j5.A j5.rs.length j5.cap, .int .i64 j5.many, .int .i64 j5.synced] rfl rfl 29 _ HE5.out.1 Try.size29 rfl (one29 _ _ _ _ _) ?_) | (refine wpList_store_row rfl 25 (.tmp 20) (.tmp 101) rfl (w5.heap.size + 1) #[.slice d5.sa d5.ss.length d5.sc, .slice d5.pa d5.ps.length d5.pc, .int .i64 d5.left, .bool d5.stp] rfl rfl 25 _ HE5.out.2.1 Try.size25 rfl (one25 _ _ _ _ _ _ _ _) ?_))
          have HEN := hide HE5.out.2.2
          have HEN2 := hide (HDQ.out.below HEN.out.bel)
          clear HE5 HBB
          replace HEN := hide (show Env w.heap.size wq _ _ [] ((((w5.alloc (.cells #[.slice none 0 0, .int .i64 0, .int .i64 0] 29)).alloc (.cells #[.slice none 0 0, .slice none 0 0, .int .i64 0, .bool false] 25)).setRow w5.heap.size #[.slice j5.A j5.rs.length j5.cap, .int .i64 j5.many, .int .i64 j5.synced]).setRow (w5.heap.size + 1) #[.slice d5.sa d5.ss.length d5.sc, .slice d5.pa d5.ps.length d5.pc, .int .i64 d5.left, .bool d5.stp]) from HEN.out)
          replace HEN2 := hide (show DI w w1.heap.size z0 w3.heap.size (secD l0) k (.slice EA k ec) _ ((((w5.alloc (.cells #[.slice none 0 0, .int .i64 0, .int .i64 0] 29)).alloc (.cells #[.slice none 0 0, .slice none 0 0, .int .i64 0, .bool false] 25)).setRow w5.heap.size #[.slice j5.A j5.rs.length j5.cap, .int .i64 j5.many, .int .i64 j5.synced]).setRow (w5.heap.size + 1) #[.slice d5.sa d5.ss.length d5.sc, .slice d5.pa d5.ps.length d5.pc, .int .i64 d5.left, .bool d5.stp]) from HEN2.out)
          generalize ((((w5.alloc (.cells #[.slice none 0 0, .int .i64 0, .int .i64 0] 29)).alloc (.cells #[.slice none 0 0, .slice none 0 0, .int .i64 0, .bool false] 25)).setRow w5.heap.size #[.slice j5.A j5.rs.length j5.cap, .int .i64 j5.many, .int .i64 j5.synced]).setRow (w5.heap.size + 1) #[.slice d5.sa d5.ss.length d5.sc, .slice d5.pa d5.ps.length d5.pc, .int .i64 d5.left, .bool d5.stp]) = v0 at *
          generalize w5.heap.size = X19 at *
          by_cases hk0 : k = 0
          · subst hk0
            go_wp2_with fail
            go_ret
            exact ⟨rfl, HEN2.out.bel⟩
          · obtain ⟨k1, rfl⟩ : ∃ k1, k = k1 + 1 := ⟨k - 1, by omega⟩
            have hk0' : (((k1 + 1 : Nat) : Int) == 0) = false := by simp only [beq_eq_false_iff_ne, ne_eq]; omega
            clear hk0
            obtain ⟨g, c', he, _, _⟩ := HEN2.out.own.form (by omega)
            obtain ⟨rfl, rfl⟩ := slice_inj he
            obtain ⟨cs, hcs⟩ := own_blk HEN2.out.own
            have e1 := hcs.cell k1
            rw [List.getElem?_append_left (by rw [endsL_len]; omega), show (endsL (secD l0) (k1 + 1))[k1]? = some (.int .i64 (usedB ((secD l0).take (k1 + 1)) : Nat)) by simp [endsL]] at e1
            have HNE : (secD l0).take (k1 + 1) ≠ [] := fun h => by
              have h1 := congrArg List.length h
              rw [List.length_take, secD_len] at h1
              simp only [List.length_nil] at h1
              have := HLK.out
              omega
            have HUP := hide (used_pos HNE)
            have HCR := hide (HCQ.out HNE)
            have hU40 := HU40.out
            have hUP := HUP.out
            obtain ⟨sn, hsn⟩ : ∃ sn : Nat, sn = (IntKind.u64.wrap sector).toNat := ⟨_, rfl⟩
            have hw0 : IntKind.u64.wrap sector = (sn : Int) := by rw [hsn, Int.toNat_of_nonneg (u64_nonneg _)]
            obtain ⟨U, hU⟩ : ∃ U, U = usedB ((secD l0).take (k1 + 1)) := ⟨_, rfl⟩
            rw [← hU] at e1 hU40 hUP
            have HUU := hide hU
            obtain ⟨kk, hkk⟩ : ∃ kk, kk = sn % U := ⟨_, rfl⟩
            have hkl : kk < U := by rw [hkk]; exact Nat.mod_lt _ hUP
            have hw1 : IntKind.u64.wrap (U : Int) = (U : Int) := wrapU_small _ (by omega)
            have hw2 : (sn : Int).tmod (U : Int) = (kk : Int) := by rw [Int.tmod_eq_emod_of_nonneg (by omega), hkk, Int.natCast_emod]
            have hw3 : IntKind.u64.wrap (kk : Int) = (kk : Int) := wrapU_small _ (by omega)
            have hw4 : IntKind.i64.wrap (kk : Int) = (kk : Int) := wrapI_small _ (by omega)
            have hUz : (U : Int) ≠ 0 := by omega
            have hkk2 : 0 < k1 + 1 := by omega
            clear he hcs hsn hU hkk HNE HUP HCQ
            go_upto_region 25 with (fail)
            clear hw0 hw1 hw2 hw3 hw4 hUz e1
            obtain ⟨hbd, -, -, hid⟩ := HEN.out.box (X19 + 1, d5) (by simp)
            obtain ⟨p0, p1, p2, p3⟩ := hbd.c4
            have hd40 : d5.ss.length = 40 := by
              have h1 := congrArg (fun d : Dk => d.sec.length) HD5.out
              simp only [Dsk.d, secD_len] at h1
              rw [h1]
              exact HCR.out.1
            have hk40 : kk < d5.ss.length := by omega
            obtain ⟨b, o, hsa, hb9, p9⟩ := hid.sec.at hk40
            have hall : (d5.ss[kk]).l.length = 128 := by
              have h1 := congrArg Dk.sec HD5.out
              simp only [Dsk.d] at h1
              refine HCR.out.2.2.2.2.1 _ ?_
              rw [← h1]
              exact List.mem_map.2 ⟨_, List.getElem_mem hk40, rfl⟩
            have HSS := hide (hid.sec.each _ (List.getElem_mem hk40))
            have HSG := hide (show cq.sec[kk]? = some (d5.ss[kk]).l by rw [← HD5.out]; simp [Dsk.d, secD, hk40])
            generalize d5.ss[kk] = sc at p9 hall HSS HSG
            replace p9 : v0.cell? ⟨b, o + kk, none⟩ = some (.slice sc.A sc.l.length sc.cap) := p9
            rw [hall] at p9
            rw [hd40, hsa] at p0
            have P0A := hide (((below_new v0 (.cells #[] 5)).cell (p := ⟨X19 + 1, 0, none⟩) hbd.lt).trans p0)
            have P9A := hide (((below_new v0 (.cells #[] 5)).cell (p := ⟨b, o + kk, none⟩) hb9).trans p9)
            clear hbd hid hsa hb9
            have hjl : j.rs.length = k1 + 1 := by
              have h1 := congrArg (fun d : Jk => d.recs.length) HEN2.out.jk
              simp only [Jr.k, secD_len, List.length_take] at h1
              have := HLK.out
              omega
            obtain ⟨q0, q1, q2⟩ := HEN2.out.box.c3
            rw [hjl] at q0
            have hc1 : ¬ ((40 : Int) ≤ (kk : Int)) := by omega
            have hk40' : kk < 40 := by omega
            clear hk40 hd40 hjl
            go_upto_region 27 with (fail)
            obtain ⟨i5, hi5⟩ := hinfo5
            have HI5 := hide hi5
            clear hi5
            have HOW := hide (own_empty v0 v0.heap.size 5 1 (Nat.le_refl _))
            have HN0 := hide (HSS.out.cels.below (below_new v0 (.cells #[] 5)))
            have hnil : sc.A = none → 128 = 0 ∧ sc.cap = 0 := fun h => by
              have h1 := HSS.out.nil h
              have h2 := HSS.out.le
              omega
            clear p0 p1 p2 p3 p9 q0 q1 q2
            have p0 := P0A.out
            have p9 := P9A.out
            clear P0A P9A
            go_upto_region 28 with (refine wpList_app rfl (.tmp 145) (.tmp 150) 35 rfl v0.heap.size 5 i5 _ 1 1 Try.underlying35 HI5.out rfl (by decide) _ 0 [] rfl HOW.out sc.A 128 sc.cap (bs sc.l) rfl hnil (by rw [bs_len, hall]) HN0.out.opt (bs_one _) (by unfold maxLen; omega) (by omega) (by simp) ?_; intro A6 c6 w6 hown hg; have HOWN := hide hown; have HB6 := hide (below_app (below_new v0 (.cells #[] 5)) HOW.out hg (Nat.le_refl _) (by simp)); clear hown hg)
            clear p0 p9 HOW HN0 hnil
            obtain ⟨g6, c6', he6, _, _⟩ := HOWN.out.form (by decide)
            obtain ⟨rfl, rfl⟩ := slice_inj he6
            obtain ⟨cs6, hc6⟩ := own_blk HOWN.out
            rw [List.nil_append] at hc6
            have hcap6 := own_caps HOWN.out
            obtain ⟨an, han⟩ : ∃ an : Nat, an = (IntKind.u64.wrap at0).toNat := ⟨_, rfl⟩
            have hwa0 : IntKind.u64.wrap at0 = (an : Int) := by rw [han, Int.toNat_of_nonneg (u64_nonneg _)]
            obtain ⟨ii, hii0⟩ : ∃ ii, ii = an % 128 := ⟨_, rfl⟩
            have hii : ii < 128 := by omega
            have hwa2 : (an : Int).tmod 128 = (ii : Int) := by rw [Int.tmod_eq_emod_of_nonneg (by omega), hii0]; omega
            have hwa3 : IntKind.u64.wrap (ii : Int) = (ii : Int) := wrapU_small _ (by omega)
            have hil : ii < sc.l.length := by omega
            have f0 := hc6.cell ii
            rw [List.getElem?_append_left (by rw [bs_len]; exact hil), List.getElem?_eq_getElem (by rw [bs_len]; exact hil), bs_get] at f0
            have f1 := hc6.free ii
            have HXV := hide (show (sc.l)[ii]? = some (sc.l[ii]) from List.getElem?_eq_getElem hil)
            have HC6 := hide hc6
            generalize sc.l[ii] = xv at f0 HXV
            clear he6 hc6 han hii0
            obtain ⟨yv, hyv⟩ : ∃ yv, yv = xv ^^^ byb := ⟨_, rfl⟩
            have hxv : bits BinOp.xor IntKind.u8 ((xv.toNat : Nat) : Int) ((byb.toNat : Nat) : Int) = ((yv.toNat : Nat) : Int) := by rw [hyv]; exact u8_xor xv byb
            have HXN := hide (show xv ≠ yv by rw [hyv]; exact xor_ne xv hby)
            clear hyv
            go_upto_region 29 with (fail)
            clear f0 f1 hwa0 hwa2 hwa3 hxv
            have hg6 : v0.heap.size ≤ g6 := (HOWN.out.lt g6 rfl).1
            have HB7 := hide (HB6.out.setCell (p := ⟨g6, ii, none⟩) hg6 (.int .u8 (yv.toNat : Nat)))
            have HE7 := hide (HEN.out.below HB7.out)
            have HC7 := hide (HC6.out.set ii (.int .u8 (yv.toNat : Nat)))
            replace HC7 := hide (show Blk _ g6 5 (bs (sc.l.set ii yv) ++ cs6) by have h := HC7.out; rw [bs_set sc.l cs6 hil] at h; exact h)
            clear HB7 HC6 HOWN HEN HEN2
            generalize w6.setCell ⟨g6, ii, none⟩ (.int .u8 (yv.toNat : Nat)) = v1 at *
            have hls : (sc.l.set ii yv).length = 128 := by rw [List.length_set]; exact hall
            have HSB := hide (show Sec.In v1.heap.size ⟨some ⟨g6, 0, none⟩, sc.l.set ii yv, c6⟩ v1 from ⟨HC7.out.cels (.inl rfl), by rw [hls]; exact hcap6.1, hcap6.2, fun h => by cases h⟩)
            have HRR := hide (damR HU40.out HCR.out (by rw [← HUU.out]; exact hkl) hii HSG.out (by rw [HXV.out]; exact fun h => HXN.out (by injection h)))
            obtain ⟨m, d1, d2, hm1, hm2, hm3, hwr1, hsy, hop⟩ := HRR.out
            have HM2 := hide hm2
            have HM3 := hide hm3
            have HSY := hide hsy
            have HOPN := hide hop
            obtain ⟨hbd, -, -, hid⟩ := HE7.out.box (X19 + 1, d5) (by simp)
            obtain ⟨p0, p1, p2, p3⟩ := hbd.c4
            have HC := hide (write_sub d5 (kk : Int) ⟨some ⟨g6, 0, none⟩, sc.l.set ii yv, c6⟩ v1 hid HSB.out (by omega))
            replace HC := hide (show Calls Try.prog 28 #[d5.v, .int .i64 (kk : Int), .slice (some ⟨g6, 0, none⟩) 128 c6] v1 (Ans w.heap.size v1 (d1, 0)) by have h := HC.out; rw [HD5.out, hwr1] at h; simpa only [Sec.v, hls] using h)
            clear hm2 hm3 hwr1 hsy hop hbd hid HRR HSB HC7 hls
            go_wp2_with fail
            refine HC.out.mono ?_
            rintro e v2 ⟨d6, rfl, hd6, hi6, hb⟩
            have HD6 := hide hd6
            have HE8 := hide (HE7.out.below hb)
            have HX8 := hide (show Blk v2 (X19 + 1) 25 d5.cs from (HE8.out.box (X19 + 1, d5) (by simp)).1)
            have HE9 := hide (HE8.out.putd (X := X19 + 1) (d := d5) (d' := d6) (by simp) hi6 (l' := [(X19 + 1, d6)]) (fun p hp => .inl (List.mem_singleton.1 hp)))
            clear hd6 hi6 hb HC p0 p1 p2 p3 HE8 HE7
            go_upto_region 30 with (refine wpList_store_row rfl 25 (.tmp 20) (.tmp 166) rfl (X19 + 1) #[.slice d6.sa d6.ss.length d6.sc, .slice d6.pa d6.ps.length d6.pc, .int .i64 d6.left, .bool d6.stp] rfl rfl 25 _ HX8.out Try.size25 rfl (one25 _ _ _ _ _ _ _ _) ?_)
            replace HE9 := hide (show Env w.heap.size wq [(X19 + 1, d6)] [(X19, j5)] [] (v2.setRow (X19 + 1) #[.slice d6.sa d6.ss.length d6.sc, .slice d6.pa d6.ps.length d6.pc, .int .i64 d6.left, .bool d6.stp]) from HE9.out)
            clear HX8
            generalize v2.setRow (X19 + 1) #[.slice d6.sa d6.ss.length d6.sc, .slice d6.pa d6.ps.length d6.pc, .int .i64 d6.left, .bool d6.stp] = v3 at *
            obtain ⟨hbd, -, -, hid⟩ := HE9.out.box (X19 + 1, d6) (by simp)
            obtain ⟨p0, p1, p2, p3⟩ := hbd.c4
            have HC := hide (sync_any d6 v3 hid)
            replace HC := hide (show Calls Try.prog 29 #[d6.v] v3 (Ans w.heap.size v3 (d2, 0)) by have h := HC.out; rw [HD6.out, HSY.out] at h; exact h)
            clear hbd hid
            go_wp2_with fail
            refine HC.out.mono ?_
            rintro e v4 ⟨d7, rfl, hd7, hi7, hb⟩
            have HD7 := hide hd7
            have HE8 := hide (HE9.out.below hb)
            have HX8 := hide (show Blk v4 (X19 + 1) 25 d6.cs from (HE8.out.box (X19 + 1, d6) (by simp)).1)
            have HEA := hide (HE8.out.putd (X := X19 + 1) (d := d6) (d' := d7) (by simp) hi7 (l' := [(X19 + 1, d7)]) (fun p hp => .inl (List.mem_singleton.1 hp)))
            clear hd7 hi7 hb HC p0 p1 p2 p3 HE8 HE9
            go_upto_region 31 with (refine wpList_store_row rfl 25 (.tmp 20) (.tmp 171) rfl (X19 + 1) #[.slice d7.sa d7.ss.length d7.sc, .slice d7.pa d7.ps.length d7.pc, .int .i64 d7.left, .bool d7.stp] rfl rfl 25 _ HX8.out Try.size25 rfl (one25 _ _ _ _ _ _ _ _) ?_)
            replace HEA := hide (show Env w.heap.size wq [(X19 + 1, d7)] [(X19, j5)] [] (v4.setRow (X19 + 1) #[.slice d7.sa d7.ss.length d7.sc, .slice d7.pa d7.ps.length d7.pc, .int .i64 d7.left, .bool d7.stp]) from HEA.out)
            clear HX8
            generalize v4.setRow (X19 + 1) #[.slice d7.sa d7.ss.length d7.sc, .slice d7.pa d7.ps.length d7.pc, .int .i64 d7.left, .bool d7.stp] = v5 at *
            obtain ⟨hbd, -, -, hid⟩ := HEA.out.box (X19 + 1, d7) (by simp)
            obtain ⟨p0, p1, p2, p3⟩ := hbd.c4
            have HC := hide (open_is v5 HD7.out HOPN.out hid)
            clear hbd hid
            go_wp2_with fail
            refine HC.out.mono ?_
            rintro e v6 ⟨j8, rfl, hj8, hi8, hb⟩
            have HJ8 := hide hj8
            have HEB := hide ((HEA.out.below hb).newj hn0 hi8)
            have HDX := hide (HDQ.out.below HEB.out.bel)
            clear hj8 hi8 hb HC p0 p1 p2 p3 HEA HDQ
            go_upto_region 32 with (fail)
            replace HEB := hide (show Env w.heap.size wq [(X19 + 1, d7)] [(v6.heap.size, j8), (X19, j5)] [] (v6.alloc (.cells #[.slice j8.A j8.rs.length j8.cap, .int .i64 j8.many, .int .i64 j8.synced] 29)) from HEB.out)
            replace HDX := hide (show DI w w1.heap.size z0 w3.heap.size (secD l0) (k1 + 1) (.slice (some ⟨g, 0, none⟩) (k1 + 1) ec) j (v6.alloc (.cells #[.slice j8.A j8.rs.length j8.cap, .int .i64 j8.many, .int .i64 j8.synced] 29)) from HDX.out)
            generalize v6.heap.size = X25 at *
            generalize v6.alloc (.cells #[.slice j8.A j8.rs.length j8.cap, .int .i64 j8.many, .int .i64 j8.synced] 29) = v7 at *
            obtain ⟨cs7, hcs7⟩ := own_blk HDX.out.own
            have HEX := hide (fun x (hx : x < k1 + 1) => show v7.cell? ⟨g, x, none⟩ = some (.int .i64 (usedB ((secD l0).take (x + 1)) : Nat)) by
              have e := hcs7.cell x
              rw [List.getElem?_append_left (by rw [endsL_len]; omega)] at e
              rw [e]
              simp [endsL, hx])
            clear hcs7
            go_wp2_with fail
            go_loop [27] (fun u => ∃ x : Nat, x ≤ m ∧ u = .int .i64 x) (fun u => m - (intOf u).toNat)
            case atStart => exact ⟨0, Nat.zero_le _, rfl⟩
            case round =>
              obtain ⟨x, hx, rfl⟩ := hrel
              have hxk : (x : Int) < (k1 : Int) + 1 := by omega
              have hxk2 : x < k1 + 1 := by omega
              have hcap := (own_caps HDX.out.own).1
              have ex := HEX.out x (by omega)
              by_cases hxm : x < m
              · have hle : usedB ((secD l0).take (x + 1)) ≤ kk := HM2.out x hxm
                have hle' : (usedB ((secD l0).take (x + 1)) : Int) ≤ (kk : Int) := by omega
                generalize usedB ((secD l0).take (x + 1)) = ux at ex hle hle'
                go_wp2_with fail
                go_round
                case rel => exact ⟨x + 1, by omega, by go_num⟩
                case measure => simp [intOf]; omega
              · obtain rfl : x = m := by omega
                have hgt : kk < usedB ((secD l0).take (x + 1)) := HM3.out
                have hle' : ¬ ((usedB ((secD l0).take (x + 1)) : Int) ≤ (kk : Int)) := by omega
                generalize usedB ((secD l0).take (x + 1)) = ux at ex hgt hle'
                go_upto_region 35 with (fail)
                clear ex hle' hgt
                obtain ⟨jb, jo, hja, _, _⟩ := HDX.out.jin.recs.at (k := 0) (by
                  have h1 := congrArg (fun d : Jk => d.recs.length) HDX.out.jk
                  simp only [Jr.k, secD_len, List.length_take] at h1
                  have := HLK.out
                  omega)
                have hjl : j.rs.length = k1 + 1 := by
                  have h1 := congrArg (fun d : Jk => d.recs.length) HDX.out.jk
                  simp only [Jr.k, secD_len, List.length_take] at h1
                  have := HLK.out
                  omega
                have hjc : j.rs.length ≤ j.cap := HDX.out.jin.recs.le
                have hjt : j.cap ≤ 9223372036854775807 := HDX.out.jin.recs.top
                have HCX := hide (fun W (hW : Below v7.heap.size v7 W) => damC HDX.out.box (HEB.out.jou (X25, j8) (by simp)).1 hja hW)
                have hre : secD j8.rs = secD (j.rs.take x) := damE HJ8.out HDX.out.jk
                have HSR := hide (fun W (hW : Below v7.heap.size v7 W) => srec_any j8.A j8.rs j8.cap j.A (j.rs.take x) j.cap W ((HEB.out.jou (X25, j8) (by simp)).2.2.2.recs.below hW) ((HDX.out.jin.recs.below hW).take x))
                have hxl : (j.rs.take x).length = x := by rw [List.length_take]; omega
                replace HSR := hide (show ∀ W, Below v7.heap.size v7 W → Calls Try.prog 25 #[.slice j8.A j8.rs.length j8.cap, .slice (some ⟨jb, jo, none⟩) x j.cap] W fun e w' => e = .returned (.bool true) ∧ ∃ n, w' = W.drewN n from fun W hW => by
                  have h := HSR.out W hW
                  rw [hxl, hja, decide_eq_true hre] at h
                  exact h)
                have hx1 : (0 : Int) ≤ (x : Int) := by omega
                have hx2 : (x : Int) ≤ (j.cap : Int) := by omega
                have hx3 : x ≤ j.cap := by omega
                rw [hjl] at HCX
                clear hre hxl hja hjl hjc hxm
                refine wp_region_plan3 (fun w' => Below v7.heap.size v7 w') (.take 0 (.take 1 (.take 2 (.take 3 (.take 4 (.take 5 (.take 6 (.take 7 (.take 8 (.take 9 (.take 10 (.take 11 (.take 12 (.take 13 (.take 14 (.take 15 (.take 16 (.run 17 (.take 18 (.take 19 .done)))))))))))))))))))) (by kernel_rfl) (by kernel_rfl) ((Below.refl _ _).drew) ?_
                have HF0 := hide (show Below v7.heap.size v7 v7.drew from (Below.refl _ _).drew)
                generalize v7.drew = wD at HF0 ⊢
                (refine plan3_take (o := ?_) (v := ?_) (by simp only [List.getElem?_toArray, List.getElem?_cons_zero]; rfl) (yields_run (by rfl) ?_) ?_; rotate_left; (focus (intro w' hw'; skip; go_simp <;> with_reducible rfl)); (simp only [Act.put, List.setIfInBounds_toArray, List.set_cons_zero, List.set_cons_succ]))
                (refine plan3_take (o := ?_) (v := ?_) (by simp only [List.getElem?_toArray, List.getElem?_cons_succ, List.getElem?_cons_zero]; rfl) (yields_run (by rfl) ?_) ?_; rotate_left; (focus (intro w' hw'; skip; go_simp <;> with_reducible rfl)); (simp only [Act.put, List.setIfInBounds_toArray, List.set_cons_zero, List.set_cons_succ]))
                (refine plan3_take (o := ?_) (v := ?_) (by simp only [List.getElem?_toArray, List.getElem?_cons_succ, List.getElem?_cons_zero]; rfl) (yields_run (by rfl) ?_) ?_; rotate_left; (focus (intro w' hw'; skip; go_simp <;> with_reducible rfl)); (simp only [Act.put, List.setIfInBounds_toArray, List.set_cons_zero, List.set_cons_succ]))
                (refine plan3_take (o := ?_) (v := ?_) (by simp only [List.getElem?_toArray, List.getElem?_cons_succ, List.getElem?_cons_zero]; rfl) (yields_run (by rfl) ?_) ?_; rotate_left; (focus (intro w' hw'; skip; go_simp <;> with_reducible rfl)); (simp only [Act.put, List.setIfInBounds_toArray, List.set_cons_zero, List.set_cons_succ]))
                (refine plan3_take (o := ?_) (v := ?_) (by simp only [List.getElem?_toArray, List.getElem?_cons_succ, List.getElem?_cons_zero]; rfl) (yields_run (by rfl) ?_) ?_; rotate_left; (focus (intro w' hw'; skip; go_simp <;> with_reducible rfl)); (simp only [Act.put, List.setIfInBounds_toArray, List.set_cons_zero, List.set_cons_succ]))
                (refine plan3_take (o := ?_) (v := ?_) (by simp only [List.getElem?_toArray, List.getElem?_cons_succ, List.getElem?_cons_zero]; rfl) (yields_run (by rfl) ?_) ?_; rotate_left; (focus (intro w' hw'; skip; go_simp <;> with_reducible rfl)); (simp only [Act.put, List.setIfInBounds_toArray, List.set_cons_zero, List.set_cons_succ]))
                (refine plan3_take (o := ?_) (v := ?_) (by simp only [List.getElem?_toArray, List.getElem?_cons_succ, List.getElem?_cons_zero]; rfl) (yields_run (by rfl) ?_) ?_; rotate_left; (focus (intro w' hw'; skip; go_simp <;> with_reducible rfl)); (simp only [Act.put, List.setIfInBounds_toArray, List.set_cons_zero, List.set_cons_succ]))
                (refine plan3_take (o := ?_) (v := ?_) (by simp only [List.getElem?_toArray, List.getElem?_cons_succ, List.getElem?_cons_zero]; rfl) (yields_run (by rfl) ?_) ?_; rotate_left; (focus (intro w' hw'; skip; go_simp <;> with_reducible rfl)); (simp only [Act.put, List.setIfInBounds_toArray, List.set_cons_zero, List.set_cons_succ]))
                (refine plan3_take (o := ?_) (v := ?_) (by simp only [List.getElem?_toArray, List.getElem?_cons_succ, List.getElem?_cons_zero]; rfl) (yields_run (by rfl) ?_) ?_; rotate_left; (focus (intro w' hw'; skip; go_simp <;> with_reducible rfl)); (simp only [Act.put, List.setIfInBounds_toArray, List.set_cons_zero, List.set_cons_succ]))
                (refine plan3_take (o := ?_) (v := ?_) (by simp only [List.getElem?_toArray, List.getElem?_cons_succ, List.getElem?_cons_zero]; rfl) (yields_run (by rfl) ?_) ?_; rotate_left; (focus (intro w' hw'; skip; go_simp <;> with_reducible rfl)); (simp only [Act.put, List.setIfInBounds_toArray, List.set_cons_zero, List.set_cons_succ]))
                (refine plan3_take (o := ?_) (v := ?_) (by simp only [List.getElem?_toArray, List.getElem?_cons_succ, List.getElem?_cons_zero]; rfl) (yields_run (by rfl) ?_) ?_; rotate_left; (focus (intro w' hw'; skip; go_simp <;> with_reducible rfl)); (simp only [Act.put, List.setIfInBounds_toArray, List.set_cons_zero, List.set_cons_succ]))
                (refine plan3_take (o := ?_) (v := ?_) (by simp only [List.getElem?_toArray, List.getElem?_cons_succ, List.getElem?_cons_zero]; rfl) (yields_run (by rfl) ?_) ?_; rotate_left; (focus (intro w' hw'; skip; go_simp <;> with_reducible rfl)); (simp only [Act.put, List.setIfInBounds_toArray, List.set_cons_zero, List.set_cons_succ]))
                (refine plan3_take (o := ?_) (v := ?_) (by simp only [List.getElem?_toArray, List.getElem?_cons_succ, List.getElem?_cons_zero]; rfl) (yields_run (by rfl) ?_) ?_; rotate_left; (focus (intro w' hw'; obtain ⟨r0, r1, r2, t0, t1, t2⟩ := HCX.out w' hw'; go_simp <;> with_reducible rfl)); (simp only [Act.put, List.setIfInBounds_toArray, List.set_cons_zero, List.set_cons_succ]))
                (refine plan3_take (o := ?_) (v := ?_) (by simp only [List.getElem?_toArray, List.getElem?_cons_succ, List.getElem?_cons_zero]; rfl) (yields_run (by rfl) ?_) ?_; rotate_left; (focus (intro w' hw'; skip; go_simp <;> with_reducible rfl)); (simp only [Act.put, List.setIfInBounds_toArray, List.set_cons_zero, List.set_cons_succ]))
                (refine plan3_take (o := ?_) (v := ?_) (by simp only [List.getElem?_toArray, List.getElem?_cons_succ, List.getElem?_cons_zero]; rfl) (yields_run (by rfl) ?_) ?_; rotate_left; (focus (intro w' hw'; obtain ⟨r0, r1, r2, t0, t1, t2⟩ := HCX.out w' hw'; go_simp <;> with_reducible rfl)); (simp only [Act.put, List.setIfInBounds_toArray, List.set_cons_zero, List.set_cons_succ]))
                (refine plan3_take (o := ?_) (v := ?_) (by simp only [List.getElem?_toArray, List.getElem?_cons_succ, List.getElem?_cons_zero]; rfl) (yields_run (by rfl) ?_) ?_; rotate_left; (focus (intro w' hw'; skip; go_simp <;> with_reducible rfl)); (simp only [Act.put, List.setIfInBounds_toArray, List.set_cons_zero, List.set_cons_succ]))
                (refine plan3_take (o := ?_) (v := ?_) (by simp only [List.getElem?_toArray, List.getElem?_cons_succ, List.getElem?_cons_zero]; rfl) (yields_run (by rfl) ?_) ?_; rotate_left; (focus (intro w' hw'; skip; go_simp <;> with_reducible rfl)); (simp only [Act.put, List.setIfInBounds_toArray, List.set_cons_zero, List.set_cons_succ]))
                refine plan3_run (o := ?_) (by simp only [List.getElem?_toArray, List.getElem?_cons_succ, List.getElem?_cons_zero]; rfl) ?_
                intro R HR
                go_wp2_with fail
                with_reducible refine (HSR.out wD HF0.out).mono ?_
                rintro e vX ⟨rfl, nX, rfl⟩
                have HFX := hide (below_drewN HF0.out nX)
                go_wp2_with fail
                refine HR.out _ _ HFX.out ?_
                clear HR
                (refine plan3_take (o := ?_) (v := ?_) (by simp only [List.getElem?_toArray, List.getElem?_cons_succ, List.getElem?_cons_zero]; rfl) (yields_run (by rfl) ?_) ?_; rotate_left; (focus (intro w' hw'; skip; go_simp <;> with_reducible rfl)); (simp only [Act.put, List.setIfInBounds_toArray, List.set_cons_zero, List.set_cons_succ]))
                (refine plan3_take (o := ?_) (v := ?_) (by simp only [List.getElem?_toArray, List.getElem?_cons_succ, List.getElem?_cons_zero]; rfl) (yields_run (by rfl) ?_) ?_; rotate_left; (focus (intro w' hw'; skip; go_simp <;> with_reducible rfl)); (simp only [Act.put, List.setIfInBounds_toArray, List.set_cons_zero, List.set_cons_succ]))
                refine plan3_done ?_
                go_wp2_with fail
                go_ret
                exact ⟨rfl, (HDX.out.below HFX.out).bel⟩
  · have hc : f = false ∨ (f = true ∧ ((l0.length : Int) == 0) = true) ∨ (f = true ∧ ((l0.length : Int) == 0) = false ∧ ((byb.toNat : Int) == 0) = true) := by
      simp only [beq_iff_eq, beq_eq_false_iff_ne]
      cases f
      · exact .inl rfl
      · simp only [true_and] at hg ⊢; right; omega
    clear hg
    rcases hc with rfl | ⟨rfl, h1⟩ | ⟨rfl, h1, h2⟩
    all_goals
      go_wp2_with fail
      refine HFW.out.mono ?_
      rintro e w2 ⟨rfl, hb⟩
      have HF := hide (below_one H1.out.bel hb)
      clear hb
      go_wp2_with fail
      go_ret
      exact ⟨rfl, HF.out⟩
end Go.Proofs.Ytgigccgklahddaa
