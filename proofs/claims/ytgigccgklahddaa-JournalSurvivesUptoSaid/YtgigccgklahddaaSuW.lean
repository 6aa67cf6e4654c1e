/- JournalSurvives: the walk. -/
import Derived.Test.YtgigccgklahddaaSte
import Derived.Test.YtgigccgklahddaaJsm
import Derived.Test.YtgigccgklahddaaOpu
namespace Go.Proofs.Ytgigccgklahddaa
open Go.RowKit Go.ChangeShapes Go.WideShapes Go.ChangeAt


theorem Fine.runs {G : Nat} {j : Jk} {d : Dk} (h : Fine G j d) : d.runs = true := by
  obtain ⟨h1, h2, _⟩ := cdk_parts h.cdk
  unfold Dk.runs
  rw [h1, h2]
  rfl
theorem cdk_left {d : Dk} (h : Go.Proofs.Ytgigccgklahddaa.cdk d = 0) {left : Int} (hl : -1 ≤ left ∧ left ≤ 65536) : Go.Proofs.Ytgigccgklahddaa.cdk ⟨d.sec, [], left, false⟩ = 0 := by
  obtain ⟨h1, h2, h3⟩ := cdk_parts h
  have hr : d.runs = true := by unfold Dk.runs; rw [h1, h2]; rfl
  obtain ⟨r1, r2, r4, r5⟩ := runs_iff.1 hr
  have hv : (⟨d.sec, [], left, false⟩ : Dk).runs = true := runs_iff.2 ⟨rfl, r2, ⟨Nat.zero_le _, fun i hi => (by cases hi)⟩, hl⟩
  unfold Dk.runs at hv
  exact cdk_ok (by simpa using hv) rfl rfl
/-- The disk is told to stop. -/
theorem Fine.left {G : Nat} {j : Jk} {d : Dk} (h : Fine G j d) {left : Int} (hl : -1 ≤ left ∧ left ≤ 65536) : Fine G j ⟨d.sec, [], left, false⟩ :=
  ⟨h.ok, h.many, h.recs, cdk_left h.cdk hl, h.all, h.gen⟩
theorem Fine.more {G G' : Nat} {j : Jk} {d : Dk} (h : Fine G j d) (hG : G ≤ G') : Fine G' j d := ⟨h.ok, h.many, h.recs, h.cdk, h.all, Nat.le_trans h.gen hG⟩
/-- A Sync on a disk that may stop. -/
theorem Fine.syncL {G : Nat} {j : Jk} {d : Dk} (h : Fine G j d) (hG : G < 4000000000) :
    (∃ d', jsyncB j d = (j.full, d', 0) ∧ Fine (G + 1) j.full d'.restart ∧ d'.sec.length = d.sec.length) ∨
    (d.left ≠ -1 ∧ ∃ d' m, jsyncB j d = (Jk.zero, d', 40) ∧ j.synced ≤ (m : Nat) ∧ m ≤ j.recs.length ∧ Fine (G + 1) ⟨j.recs.take m, j.many, m⟩ d'.restart ∧ d'.sec.length = d.sec.length) := by
  obtain ⟨q1, q2, q3, q4, q5⟩ := ok_iff.1 h.ok
  by_cases hs : j.synced = j.recs.length
  · refine .inl ⟨d, ?_, ⟨full_ok h.ok, h.many, ?_, cdk_left h.cdk ⟨by decide, by decide⟩, h.all, Nat.le_succ_of_le h.gen⟩, rfl⟩
    · have hg := h.gen
      unfold jsyncB
      rw [if_pos (jchk_yes h.ok), if_pos h.cdk, if_pos h.many, if_pos ⟨h.recs, by omega⟩, if_pos hs]
      unfold Jk.full
      rw [← hs]
    · rw [full_take]
      show recordsB d.sec = _
      rw [h.recs, hs, Int.toNat_natCast, List.take_length]
  · obtain ⟨h1, h2, h3, h4, h5⟩ := h.written hG hs
    have hr := flat_writes_runs (u := usedB (recordsB d.sec)) (g := genM d.sec 0 + 1) (ps := (j.recs.drop j.synced.toNat).flatMap piecesB) h.cdk (fun p hp => flat_short hp) (by rw [flat_used]; exact h1)
    have hlen : (writesP (usedB (recordsB d.sec)) (genM d.sec 0 + 1) ((j.recs.drop j.synced.toNat).flatMap piecesB)).length = usedB (j.recs.drop j.synced.toNat) := by rw [writesP_len, flat_used]
    have hgn := h.gen
    by_cases hc : d.left ≠ -1 ∧ d.left < usedB (j.recs.drop j.synced.toNat)
    · have hdl := (runs_iff.1 h.runs).2.2.2
      obtain ⟨m, hm, hb⟩ := torn_became h.all h4 h1 (n := d.left.toNat) (by omega)
      have hy := sync_not hr (by rw [hlen]; exact hc)
      refine .inr ⟨hc.1, _, (recordsB d.sec).length + m, by rw [h5, hy]; exact if_neg (show ¬ ((40 : Int) = 0) by decide), ?_, ?_, ?_, hb.len⟩
      · rw [h.recs, List.length_take]; omega
      · have e := congrArg List.length h3
        rw [List.length_append] at e
        omega
      · have hk : j.recs.take ((recordsB d.sec).length + m) = recordsB d.sec ++ (j.recs.drop j.synced.toNat).take m := by
          rw [← h3, List.take_length_add_append]
          rw [h3]
        have hlk : (j.recs.take ((recordsB d.sec).length + m)).length = (recordsB d.sec).length + m := by
          have e := congrArg List.length h3
          rw [List.length_append] at e
          rw [List.length_take]
          omega
        refine ⟨ok_iff.2 ⟨q1, q2, Int.natCast_nonneg _, ?_, ?_⟩, ?_, ?_, ?_, hb.all, ?_⟩
        · show (((recordsB d.sec).length + m : Nat) : Int) ≤ ((j.recs.take ((recordsB d.sec).length + m)).length : Nat)
          rw [hlk]
          exact Int.le_refl _
        · show ((usedB (j.recs.take ((recordsB d.sec).length + m)) : Nat) : Int) ≤ j.many
          have e := usedB_app (j.recs.take ((recordsB d.sec).length + m)) (j.recs.drop ((recordsB d.sec).length + m))
          rw [List.take_append_drop] at e
          omega
        · show j.many = _
          rw [h.many]
          exact congrArg Nat.cast hb.len.symm
        · show recordsB _ = (j.recs.take ((recordsB d.sec).length + m)).take (((recordsB d.sec).length + m : Nat) : Int).toNat
          have e2 : (j.recs.take ((recordsB d.sec).length + m)).take (((recordsB d.sec).length + m : Nat) : Int).toNat = j.recs.take ((recordsB d.sec).length + m) := by
            rw [Int.toNat_natCast, List.take_of_length_le (by rw [hlk]; exact Nat.le_refl _)]
          exact hb.recs.trans (hk.symm.trans e2.symm)
        · exact became_cdk h.cdk hb ⟨by decide, by decide⟩
        · exact Nat.le_trans hb.gen (by omega)
    · have hb := sync_became h2 h.all h4 h1
      rw [h3] at hb
      have hdl := (runs_iff.1 h.runs).2.2.2
      have hc2 : d.left = -1 ∨ ((usedB (j.recs.drop j.synced.toNat) : Nat) : Int) ≤ d.left := by omega
      have hy := sync_all hr (hc2.imp_right fun e => by rw [hlen]; exact e)
      refine .inl ⟨⟨perf d.sec (writesP (usedB (recordsB d.sec)) (genM d.sec 0 + 1) ((j.recs.drop j.synced.toNat).flatMap piecesB)), [], _, false⟩, by rw [h5, hy]; exact if_pos rfl, ⟨full_ok h.ok, ?_, ?_, ?_, hb.all, ?_⟩, hb.len⟩
      · show j.many = _
        rw [h.many]
        exact congrArg Nat.cast hb.len.symm
      · rw [full_take]; exact hb.recs
      · exact became_cdk h.cdk hb ⟨by decide, by decide⟩
      · exact Nat.le_trans hb.gen (by omega)
theorem addAll_prefix (l : List (List UInt8)) : ∀ (j : Jk), ∃ more, (j.addAll l).recs = j.recs ++ more := by
  induction l with
  | nil => exact fun j => ⟨[], by rw [List.append_nil]; rfl⟩
  | cons b l ih =>
    intro j
    obtain ⟨m, hm⟩ := ih (j.try b)
    show ∃ more, ((j.try b).addAll l).recs = j.recs ++ more
    rcases try_cases j b with e | ⟨_, _, e⟩
    · rw [e] at hm ⊢; exact ⟨m, hm⟩
    · rw [e] at hm ⊢
      exact ⟨b :: m, by rw [hm]; simp⟩
/-- A disk that holds these records, and nothing is pending. -/
abbrev At (G : Nat) (kept : List (List UInt8)) (d : Dk) : Prop := Fine G ⟨kept, d.sec.length, kept.length⟩ d
theorem At.open {G : Nat} {kept : List (List UInt8)} {d : Dk} (h : At G kept d) : d.jopen = (⟨kept, d.sec.length, kept.length⟩, 0) :=
  Fine.open (j := ⟨kept, d.sec.length, kept.length⟩) h
/-- A round of JournalSurvives. -/
theorem At.round {G : Nat} {kept : List (List UInt8)} {d : Dk} (h : At G kept d) (hG : G < 4000000000) (recs : List (List UInt8)) {left : Int} (hl : -1 ≤ left ∧ left ≤ 65536) {l : Jk} (he : l = (⟨kept, d.sec.length, kept.length⟩ : Jk).addAll recs) :
    kept.length ≤ l.recs.length ∧ ((∃ y : Dk, jsyncB l ⟨d.sec, [], left, false⟩ = (l.full, y, 0) ∧ At (G + 1) l.recs y.restart) ∨
      (left ≠ -1 ∧ ∃ (y : Dk) (m : Nat), jsyncB l ⟨d.sec, [], left, false⟩ = (Jk.zero, y, 40) ∧ kept.length ≤ m ∧ m ≤ l.recs.length ∧ At (G + 1) (l.recs.take m) y.restart)) := by
  have hf : Fine G l ⟨d.sec, [], left, false⟩ := by rw [he]; exact (h.left hl).all' recs
  obtain ⟨more, hm⟩ := addAll_prefix recs ⟨kept, d.sec.length, kept.length⟩
  obtain ⟨k1, k2⟩ := addAll_keeps recs ⟨kept, d.sec.length, kept.length⟩
  rw [← he] at hm k1 k2
  replace hm : l.recs = kept ++ more := hm
  replace k1 : l.many = (d.sec.length : Nat) := k1
  replace k2 : l.synced = (kept.length : Nat) := k2
  refine ⟨by rw [hm, List.length_append]; omega, ?_⟩
  rcases hf.syncL hG with ⟨y, e1, e2, e3⟩ | ⟨e0, y, m, e1, e2, e3, e4, e5⟩
  · refine .inl ⟨y, e1, ?_⟩
    have hq : l.full = ⟨l.recs, (y.restart.sec.length : Nat), (l.recs.length : Nat)⟩ := by
      unfold Jk.full
      rw [k1]
      congr 2
      exact e3.symm
    rw [hq] at e2
    exact e2
  · refine .inr ⟨e0, y, m, e1, by omega, e3, ?_⟩
    have hq : (⟨l.recs.take m, l.many, (m : Nat)⟩ : Jk) = ⟨l.recs.take m, (y.restart.sec.length : Nat), ((l.recs.take m).length : Nat)⟩ := by
      rw [k1, List.length_take, Nat.min_eq_left e3]
      congr 2
      exact e5.symm
    rw [hq] at e4
    exact e4
/-- A new disk. -/
theorem at_new (n : Nat) (h1 : 1 ≤ n) (h2 : n ≤ 4096) : At 0 [] ⟨List.replicate n zeroS, [], -1, false⟩ := by
  have := fine_zero n h1 h2
  show Fine 0 ⟨[], ((List.replicate n zeroS).length : Nat), 0⟩ _
  rw [List.length_replicate]
  exact this

/-- An entry of the script. -/
structure Cr where
  A : Option Addr
  rs : List Sec
  cap : Nat
  halts : Bool
  lft : UInt8
abbrev Cr.cs (c : Cr) : List Value := [.slice c.A c.rs.length c.cap, .bool c.halts, .int .u8 (c.lft.toNat : Nat)]
/-- An entry that came in. -/
structure Cr.Good (w : World) (c : Cr) : Prop where
  sin : SecsIn w.heap.size c.A c.rs c.cap w
  short : ∀ s ∈ c.rs, s.l.length ≤ 140737488355328
  bulk : bulkB (secD c.rs) ≤ 1048576
theorem Try.cells48 : Try.prog.cellsOf 48 = 3 := by kernel_rfl
theorem sum_mem {α : Type} (g : α → Nat) : ∀ (l : List α) (x : α), x ∈ l → g x ≤ (l.map g).sum
  | y :: l, x, h => by
    rw [List.map_cons, List.sum_cons]
    rcases List.mem_cons.1 h with rfl | h
    · omega
    · have := sum_mem g l x h
      omega
section
variable {H : Type} {enc : TypeId × Value → H} {W : World}
set_option maxRecDepth 20000 in
/-- The script. -/
theorem open_crs {fuel : Nat} {cs : List Value} {x : DataW H × List MemPlace} (h : DataW.trod enc Try.prog W 0 (fun _ => true) true fuel 44 cs = some x) (hr : Reach 44 x.1) (hk : Rows.uptoBulk x.1 ≤ 1048576) :
    ∃ (A : Option Addr) (l : List Cr) (cap : Nat), cs = [.slice A l.length cap] ∧ Cels W.heap.size W A (l.flatMap Cr.cs) ∧ ∀ c ∈ l, c.Good W := by
  obtain ⟨A, l, cap, rfl, hc, hq, _, _, _, -, hs⟩ := open_listB Cr.cs (fun c => SecsIn W.heap.size c.A c.rs c.cap W ∧ ∀ s ∈ c.rs, s.l.length ≤ 140737488355328) (fun c => bulkB (secD c.rs)) 44 48 3 (by decide) Try.underlying44 Try.cells48 (fun _ => rfl) (fun fuel cs x h hr => by
    obtain ⟨xs, n, rfl, rfl, hlen, hxl, hf⟩ := DataW.trod_struct Try.underlying48 h
    rw [Try.cells48] at hlen
    match xs, hxl, cs, hlen with
    | [y0, y1, y2], _, [v0, v1, v2], _ =>
      have g0 := hf 0 _ rfl
      have g1 := hf 1 _ rfl
      have g2 := hf 2 _ rfl
      simp [Try.cells22, Try.cells4, Try.cells5] at g0 g1 g2
      obtain ⟨A, l, cap, e0, h0, q0, u0⟩ := open_secsB g0 (fun q hq => hr q (by simp only [DataW.weights, Try.underlying48, List.map_cons, List.map_nil, DataW.weightsEach, List.mem_append]; exact .inl hq))
      obtain ⟨b, e1, _⟩ := DataW.trod_bool Try.underlying4 g1
      obtain ⟨k2, e2, _, w2⟩ := DataW.trod_int Try.underlying5 g2
      simp only [List.cons.injEq, and_true] at e0 e1 e2
      obtain ⟨r1, r2⟩ := u8_range w2
      have e3 : Value.int .u8 k2 = .int .u8 ((UInt8.ofNat k2.toNat).toNat : Nat) := by
        simp
        omega
      rw [e3] at e2
      subst e0 e1 e2
      refine ⟨⟨A, l, cap, b, UInt8.ofNat k2.toNat⟩, rfl, ⟨h0, q0⟩, ?_⟩
      simp only [Rows.uptoBulk, Rows.uptoBulkAll, List.map_cons, List.map_nil] at u0 ⊢
      omega) h hr
  exact ⟨A, l, cap, rfl, hc, fun c hc' => ⟨(hq c hc').1, (hq c hc').2, by have := sum_mem (fun c : Cr => bulkB (secD c.rs)) l c hc'; omega⟩⟩
set_option maxRecDepth 20000 in
/-- An argument: the script. -/
theorem open_crashes {base : Nat} {v : Value} {d : DataW H} {p : List MemPlace} (hok : Value.okWide Try.prog W .any base 44 v) (h : DataW.Trod enc Try.prog W 0 (fun _ => true) true 44 v d p) (hr : Reach 44 d) (hk : Rows.uptoBulk d ≤ 1048576) :
    ∃ (A : Option Addr) (l : List Cr) (cap : Nat), v = .slice A l.length cap ∧ Cels W.heap.size W A (l.flatMap Cr.cs) ∧ ∀ c ∈ l, c.Good W := by
  obtain ⟨a0, len0, cap0, rfl⟩ := okWide_slice Try.underlying44 hok
  obtain ⟨n, hn⟩ := h
  obtain ⟨A, l, cap, e, h1, h2⟩ := open_crs hn hr hk
  simp only [Value.cells, List.cons.injEq, and_true] at e
  exact ⟨A, l, cap, e, h1, h2⟩
end
theorem cr_fl : ∀ (l : List Cr) (i r : Nat) (h : i < l.length), r < 3 → (l.flatMap Cr.cs)[i * 3 + r]? = (Cr.cs l[i])[r]?
  | x :: l, 0, r, _, hr => by
    rw [List.flatMap_cons, List.getElem?_append_left (by simp; omega)]
    simp
  | x :: l, i + 1, r, h, hr => by
    rw [List.flatMap_cons, List.getElem?_append_right (by simp; omega), show (i + 1) * 3 + r - (Cr.cs x).length = i * 3 + r by simp; omega, cr_fl l i r (by simpa using h) hr]
    simp
theorem cr_at {w : World} {A : Option Addr} {l : List Cr} (h : Cels w.heap.size w A (l.flatMap Cr.cs)) {k : Nat} (hk : k < l.length) : ∃ b o, A = some ⟨b, o, none⟩ ∧ b < w.heap.size ∧
    w.cell? ⟨b, o + k * 3, none⟩ = some (.slice (l[k]).A (l[k]).rs.length (l[k]).cap) ∧ w.cell? ⟨b, o + k * 3 + 1, none⟩ = some (.bool (l[k]).halts) ∧ w.cell? ⟨b, o + k * 3 + 2, none⟩ = some (.int .u8 ((l[k]).lft.toNat : Nat)) := by
  have hlen : ∀ l : List Cr, (l.flatMap Cr.cs).length = l.length * 3 := fun l => by
    induction l with
    | nil => rfl
    | cons x l ih => rw [List.flatMap_cons, List.length_append, ih]; simp; omega
  have hne : l.flatMap Cr.cs ≠ [] := fun e => by
    have := congrArg List.length e
    rw [hlen] at this
    simp at this
    omega
  obtain ⟨b, o, e, hb, _, hc⟩ := h hne
  have key : ∀ r, r < 3 → w.cell? ⟨b, o + k * 3 + r, none⟩ = (Cr.cs l[k])[r]? := fun r hr => by
    have hi : k * 3 + r < (l.flatMap Cr.cs).length := by rw [hlen]; omega
    have h1 := hc (k * 3 + r) hi
    rw [← Nat.add_assoc] at h1
    rw [h1, ← cr_fl l k r hk hr, List.getElem?_eq_getElem hi]
  exact ⟨b, o, e, hb, key 0 (by decide), key 1 (by decide), key 2 (by decide)⟩
/-- What a round meets: the disk in its box, the records that are kept. -/
structure SI (w : World) (X5 : Nat) (d : Dsk) (A : Option Addr) (kept : List Sec) (cap : Nat) (W : World) : Prop where
  env : Env w.heap.size w [(X5, d)] [] [] W
  kin : SecsIn w.heap.size A kept cap W
/-- The round's state: the disk, the journal that is written, the entry of the script. -/
structure SJ (w : World) (X5 : Nat) (d : Dsk) (X10 : Nat) (j : Jr) (A : Option Addr) (kept : List Sec) (cap : Nat) (X9 : Nat) (c : Cr) (W : World) : Prop where
  env : Env w.heap.size w [(X5, d)] [(X10, j)] [] W
  kin : SecsIn w.heap.size A kept cap W
  ent : Blk W X9 48 c.cs
section
variable {w W W' : World} {X5 X9 X10 cap : Nat} {d d' : Dsk} {j j' : Jr} {A : Option Addr} {kept : List Sec} {c : Cr}
theorem SI.below (h : SI w X5 d A kept cap W) (hb : Below W.heap.size W W') : SI w X5 d A kept cap W' := ⟨h.env.below hb, h.kin.below hb⟩
theorem SJ.below (h : SJ w X5 d X10 j A kept cap X9 c W) (hb : Below W.heap.size W W') : SJ w X5 d X10 j A kept cap X9 c W' := ⟨h.env.below hb, h.kin.below hb, h.ent.below hb h.ent.lt⟩
theorem SecsIn.keepT {n0 X T0 : Nat} {cs : List Value} {A : Option Addr} {l : List Sec} {cap : Nat} {W W' : World} (h : SecsIn n0 A l cap W) (hX : Blk W X T0 cs) (hT : T0 ≠ 5 ∧ T0 ≠ 35 ∧ T0 ≠ 77) (hn : n0 ≤ X) (hg : W.grownBy W' (some X)) : SecsIn n0 A l cap W' :=
  ⟨h.cels.keepT hX hT hn hg, fun s hs => (h.each s hs).keepT hX hT hn hg, h.le, h.top, h.nil⟩
/-- Another journal into the box. -/
theorem SJ.putj (h : SJ w X5 d X10 j A kept cap X9 c W) (hj : j'.In w.heap.size W) : SJ w X5 d X10 j' A kept cap X9 c (W.setRow X10 j'.cs.toArray) := by
  obtain ⟨hb, hw, hn, _⟩ := h.env.jou (X10, j) (by simp)
  have hg : W.grownBy (W.setRow X10 j'.cs.toArray) (some X10) := only_setRow (only_refl _ _) (.inl rfl) _
  exact ⟨h.env.putj (X := X10) (d := j) (by simp) hj (fun p hp => .inl (List.mem_singleton.1 hp)), h.kin.keepT hb (by decide) hn hg, h.ent.far (h.ent.ne hb (by decide)) _⟩
/-- Another disk into the box. -/
theorem SJ.putd (h : SJ w X5 d X10 j A kept cap X9 c W) (hd : d'.In w.heap.size W) : SJ w X5 d' X10 j A kept cap X9 c (W.setRow X5 d'.cs.toArray) := by
  obtain ⟨hb, hw, hn, _⟩ := h.env.box (X5, d) (by simp)
  have hg : W.grownBy (W.setRow X5 d'.cs.toArray) (some X5) := only_setRow (only_refl _ _) (.inl rfl) _
  exact ⟨h.env.putd (X := X5) (d := d) (by simp) hd (fun p hp => .inl (List.mem_singleton.1 hp)), h.kin.keepT hb (by decide) hn hg, h.ent.far (h.ent.ne hb (by decide)) _⟩
theorem SI.put (h : SI w X5 d A kept cap W) (hd : d'.In w.heap.size W) : SI w X5 d' A kept cap (W.setRow X5 d'.cs.toArray) := by
  obtain ⟨hb, hw, hn, _⟩ := h.env.box (X5, d) (by simp)
  have hg : W.grownBy (W.setRow X5 d'.cs.toArray) (some X5) := only_setRow (only_refl _ _) (.inl rfl) _
  exact ⟨h.env.putd (X := X5) (d := d) (by simp) hd (fun p hp => .inl (List.mem_singleton.1 hp)), h.kin.keepT hb (by decide) hn hg⟩
end
theorem stop_is {d : Dk} (hr : d.runs = true) {n : Nat} (hn : n ≤ 65536) : d.stop (n : Int) = ({ d with left := n }, 0) := by
  unfold Dk.stop
  rw [if_pos hr, if_pos ⟨by omega, by omega⟩]
theorem SJ.fin {w W : World} {X5 X9 X10 cap cap' : Nat} {d d' : Dsk} {j : Jr} {A A' : Option Addr} {kept kept' : List Sec} {c : Cr} (h : SJ w X5 d X10 j A kept cap X9 c W) (hd : d'.In w.heap.size W) (hk : SecsIn w.heap.size A' kept' cap' W) : SI w X5 d' A' kept' cap' (W.setRow X5 d'.cs.toArray) := by
  obtain ⟨hb, hw, hn, _⟩ := h.env.box (X5, d) (by simp)
  have hg : W.grownBy (W.setRow X5 d'.cs.toArray) (some X5) := only_setRow (only_refl _ _) (.inl rfl) _
  have e := h.env.putd (X := X5) (d := d) (d' := d') (l' := [(X5, d')]) (by simp) hd (fun p hp => .inl (List.mem_singleton.1 hp))
  exact ⟨e.sub (fun p hp => hp) (fun p hp => by cases hp) (fun p hp => by cases hp), hk.keepT hb (by decide) hn hg⟩
theorem surC {v W : World} {X9 X10 X19 m : Nat} {j9 jj : Jr} {c : Cr} (h9 : Blk v X19 29 j9.cs) (h1 : Blk v X10 29 jj.cs) (he : Blk v X9 48 c.cs) (hW : Below v.heap.size v W) (hl : j9.rs.length = m) (hh : c.halts = true) :
    W.cell? ⟨X19, 0, none⟩ = some (.slice j9.A m j9.cap) ∧ W.cell? ⟨X19, 1, none⟩ = some (.int .i64 j9.many) ∧ W.cell? ⟨X19, 2, none⟩ = some (.int .i64 j9.synced) ∧
    W.cell? ⟨X10, 0, none⟩ = some (.slice jj.A jj.rs.length jj.cap) ∧ W.cell? ⟨X10, 1, none⟩ = some (.int .i64 jj.many) ∧ W.cell? ⟨X10, 2, none⟩ = some (.int .i64 jj.synced) ∧
    W.cell? ⟨X9, 0, none⟩ = some (.slice c.A c.rs.length c.cap) ∧ W.cell? ⟨X9, 1, none⟩ = some (.bool true) ∧ W.cell? ⟨X9, 2, none⟩ = some (.int .u8 (c.lft.toNat : Nat)) := by
  obtain ⟨a0, a1, a2⟩ := (h9.below hW h9.lt).c3
  obtain ⟨b0, b1, b2⟩ := (h1.below hW h1.lt).c3
  obtain ⟨d0, d1, d2⟩ := (he.below hW he.lt).c3
  rw [hl] at a0
  rw [hh] at d1
  exact ⟨a0, a1, a2, b0, b1, b2, d0, d1, d2⟩
/-- Two new boxes, filled. -/
theorem two_new {n0 : Nat} {wq w5 : World} (hb : Below wq.heap.size wq w5) (hn : n0 ≤ wq.heap.size) {j : Jr} {d : Dsk} (hj : j.In n0 w5) (hd : d.In n0 w5) :
    Blk ((w5.alloc (.cells #[.slice none 0 0, .int .i64 0, .int .i64 0] 29)).alloc (.cells #[.slice none 0 0, .slice none 0 0, .int .i64 0, .bool false] 25)) w5.heap.size 29 [.slice none 0 0, .int .i64 0, .int .i64 0] ∧
    Blk (((w5.alloc (.cells #[.slice none 0 0, .int .i64 0, .int .i64 0] 29)).alloc (.cells #[.slice none 0 0, .slice none 0 0, .int .i64 0, .bool false] 25)).setRow w5.heap.size j.cs.toArray) (w5.heap.size + 1) 25 [.slice none 0 0, .slice none 0 0, .int .i64 0, .bool false] ∧
    Env n0 wq [(w5.heap.size + 1, d)] [(w5.heap.size, j)] [] ((((w5.alloc (.cells #[.slice none 0 0, .int .i64 0, .int .i64 0] 29)).alloc (.cells #[.slice none 0 0, .slice none 0 0, .int .i64 0, .bool false] 25)).setRow w5.heap.size j.cs.toArray).setRow (w5.heap.size + 1) d.cs.toArray) := by
  have e1 := ((Env.start (n0 := n0) wq).below hb).newj hn (Jr.zero_in w5)
  have e2 := e1.newd hn (Dsk.zero_in _)
  have hs : (w5.alloc (.cells Jr.zero.cs.toArray 29)).heap.size = w5.heap.size + 1 := by simp
  rw [hs] at e2
  have hb2 : Below w5.heap.size w5 ((w5.alloc (.cells Jr.zero.cs.toArray 29)).alloc (.cells Dsk.zero.cs.toArray 25)) := (below_new _ _).trans ((below_new _ _).mono (by simp))
  have e3 := e2.putj (X := w5.heap.size) (d' := j) (List.mem_singleton.2 rfl) (hj.below hb2) (q' := [(w5.heap.size, j)]) (fun p hp => .inl (List.mem_singleton.1 hp))
  have e2b := (e2.jou (w5.heap.size, Jr.zero) (by simp)).1
  have hg : ((w5.alloc (.cells Jr.zero.cs.toArray 29)).alloc (.cells Dsk.zero.cs.toArray 25)).grownBy (((w5.alloc (.cells Jr.zero.cs.toArray 29)).alloc (.cells Dsk.zero.cs.toArray 25)).setRow w5.heap.size j.cs.toArray) (some w5.heap.size) := only_setRow (only_refl _ _) (.inl rfl) _
  have hd3 : d.In n0 (((w5.alloc (.cells Jr.zero.cs.toArray 29)).alloc (.cells Dsk.zero.cs.toArray 25)).setRow w5.heap.size j.cs.toArray) := (hd.below hb2).keepT e2b (by decide) (Nat.le_trans hn hb.size) hg
  have e4 := e3.putd (X := w5.heap.size + 1) (d' := d) (List.mem_singleton.2 rfl) hd3 (l' := [(w5.heap.size + 1, d)]) (fun p hp => .inl (List.mem_singleton.1 hp))
  exact ⟨e2b, (e3.box (w5.heap.size + 1, Dsk.zero) (by simp)).1, e4⟩
theorem u8_small {p : Nat} (h : p < 200) : IntKind.u8.wrap (p : Int) = (p : Int) := by
  simp [IntKind.wrap, IntKind.signed, IntKind.bits]; omega
theorem wrapI_small (p : Nat) (h : p < 1000) : IntKind.i64.wrap (p : Int) = (p : Int) := by
  simp [IntKind.wrap, IntKind.signed, IntKind.bits]; omega

set_option maxRecDepth 100000 in
set_option maxHeartbeats 12800000 in
theorem survives_walk (sectors : UInt8) (qA : Option Addr) (ql : List Cr) (qc : Nat) (w : World) (hq : Cels w.heap.size w qA (ql.flatMap Cr.cs)) (hg : ∀ c ∈ ql, c.Good w) :
    Calls Try.prog 6 #[.int .u8 (sectors.toNat : Nat), .slice qA ql.length qc] w fun e w' => e = .returned (.bool true) ∧ Below w.heap.size w w' := by
  go_enter Try.func6, Try.ntmps6
  have HQ := hide hq
  have HG := hide hg
  clear hq hg
  have bs := sectors.toNat_lt
  obtain ⟨m0, hm0⟩ : ∃ m0, m0 = sectors.toNat % 30 := ⟨_, rfl⟩
  have hm1 : m0 < 30 := by omega
  have ht1 : (sectors.toNat : Int).tmod 30 = (m0 : Int) := by rw [Int.tmod_eq_emod_of_nonneg (by omega)]; omega
  have hw1 : IntKind.u8.wrap (m0 : Int) = (m0 : Int) := u8_small (by omega)
  have hw2 : IntKind.i64.wrap (m0 : Int) = (m0 : Int) := wrapI_small _ (by omega)
  clear hm0
  go_wp2_with fail
  refine (sane_any _).mono ?_
  rintro e w0 ⟨rfl, hb⟩
  have HF0 := hide hb
  clear hb
  by_cases h8 : 8 < ql.length
  · have h8' : (8 : Int) < (ql.length : Int) := by omega
    go_wp2_with fail
    go_ret
    exact ⟨rfl, HF0.out⟩
  · have h8' : ¬ (8 : Int) < (ql.length : Int) := by omega
    have HNW := hide (new_ok (n0 := w.heap.size) (m0 + 1) w0 (by omega) (by omega))
    replace HNW := hide (show Calls Try.prog 24 #[.int .i64 ((m0 : Int) + 1)] w0 _ from HNW.out)
    go_wp2_with fail
    refine HNW.out.mono ?_
    rintro e w1 ⟨z0, rfl, hz0, hi0, hb1⟩
    have HZ0 := hide hz0
    have H1 := hide ((((Env.start (n0 := w.heap.size) w).below HF0.out).below hb1).newd (Nat.le_refl _) hi0)
    clear HNW hz0 hi0 hb1 HF0 hw1 hw2 ht1
    have HS0 := hide (show SI w w1.heap.size z0 none [] 0 (w1.alloc (.cells z0.cs.toArray 25)) from ⟨H1.out, ⟨Cels.nil _ _, fun s hs => (by cases hs), Nat.le_refl _, by decide, fun _ => rfl⟩⟩)
    have HA0 := hide (show At 0 (secD []) z0.d ∧ z0.d.restart = z0.d by rw [HZ0.out]; exact ⟨at_new (m0 + 1) (by omega) (by omega), rfl⟩)
    clear H1 HZ0
    go_wp2_with fail
    generalize w1.heap.size = X5 at *
    go_loopw [7, 40] (fun s i wr => ∃ (k : Nat) (d : Dsk) (A : Option Addr) (kept : List Sec) (cap : Nat), k ≤ ql.length ∧ i = .int .i64 k ∧ s = .slice A kept.length cap ∧ Hid (SI w X5 d A kept cap wr) ∧ Hid (At k (secD kept) d.d ∧ d.d.restart = d.d)) (fun _ i _ => ql.length - (intOf i).toNat)
    case atStart => exact ⟨0, z0, none, [], 0, Nat.zero_le _, rfl, rfl, HS0, HA0⟩
    case round =>
      clear HS0 HA0
      obtain ⟨k, d, A, kept, cap, hk, rfl, rfl, HS, HA⟩ := hrel
      by_cases hlt : k < ql.length
      · have hlt' : (k : Int) < (ql.length : Int) := by omega
        obtain ⟨b, o, hA, hb2, f0, f1, f2⟩ := cr_at HQ.out hlt
        have HC := hide (HG.out _ (List.getElem_mem hlt))
        subst hA
        generalize ql[k] = c at f0 f1 f2 HC
        have f0 := (HS.out.env.bel.cell (p := ⟨b, o + k * 3, none⟩) hb2).trans f0
        have f1 := (HS.out.env.bel.cell (p := ⟨b, o + k * 3 + 1, none⟩) hb2).trans f1
        have f2 := (HS.out.env.bel.cell (p := ⟨b, o + k * 3 + 2, none⟩) hb2).trans f2
        clear hb2
        go_upto_region 11 with (fail)
        go_cut [9] from 42 to 43 (fun u W => u = .pointer (some ⟨wr.heap.size, 0, none⟩) ∧ Hid (W = wr.alloc (.cells #[.slice c.A c.rs.length c.cap, .bool c.halts, .int .u8 (c.lft.toNat : Nat)] 48)))
        case first => (go_wp2_with fail; go_meet; case rel => exact ⟨rfl, hide rfl⟩)
        case rest =>
          obtain ⟨rfl, hW⟩ := hcut
          have hW' := hW.out
          clear hW
          subst hW'
          go_upto_region 12 with (fail)
          clear f0 f1 f2
          have H9 := hide (Blk.new wr 48 [.slice c.A c.rs.length c.cap, .bool c.halts, .int .u8 (c.lft.toNat : Nat)])
          have HS1 := hide (HS.out.below (below_new wr (.cells #[.slice c.A c.rs.length c.cap, .bool c.halts, .int .u8 (c.lft.toNat : Nat)] 48)))
          have hX9 : w.heap.size ≤ wr.heap.size := HS.out.env.bel.size
          replace H9 := hide (show Blk (wr.alloc (.cells #[.slice c.A c.rs.length c.cap, .bool c.halts, .int .u8 (c.lft.toNat : Nat)] 48)) wr.heap.size 48 c.cs from H9.out)
          clear HS
          generalize wr.alloc (.cells #[.slice c.A c.rs.length c.cap, .bool c.halts, .int .u8 (c.lft.toNat : Nat)] 48) = w2 at *
          generalize wr.heap.size = X9 at *
          obtain ⟨c0, c1, c2⟩ := H9.out.c3
          obtain ⟨hbd, -, -, hid⟩ := HS1.out.env.box (X5, d) (by simp)
          obtain ⟨p0, p1, p2, p3⟩ := hbd.c4
          have HFW := hide (few_any d c.A c.rs c.cap w2 hid (fun k h => (HC.out.sin.below HS1.out.env.bel).at h) (Nat.le_trans HC.out.bulk (by decide)))
          generalize hf : fewB d.d (secD c.rs) = f at HFW
          clear hbd hid hf
          go_wp2_with fail
          with_reducible refine HFW.out.mono ?_
          rintro e w3 ⟨rfl, hb⟩
          have HS2 := hide (HS1.out.below hb)
          have H92 := hide (H9.out.below hb H9.out.lt)
          clear hb HFW HS1 H9 c0 c1 c2 p0 p1 p2 p3
          cases f with
          | false =>
            go_wp2_with fail
            go_ret
            exact ⟨rfl, HS2.out.env.bel⟩
          | true =>
            obtain ⟨hbd, -, -, hid⟩ := HS2.out.env.box (X5, d) (by simp)
            obtain ⟨p0, p1, p2, p3⟩ := hbd.c4
            have HOP := hide (open_is w3 rfl HA.out.1.open hid)
            clear hbd hid
            go_wp2_with fail
            refine HOP.out.mono ?_
            rintro e w4 ⟨j0, rfl, hj, hi, hb⟩
            have HJ0 := hide hj
            have HSJ := hide (show SJ w X5 d w4.heap.size j0 A kept cap X9 c (w4.alloc (.cells j0.cs.toArray 29)) from ⟨(HS2.out.env.below hb).newj (Nat.le_refl _) hi, (HS2.out.kin.below hb).below (below_new _ _), (H92.out.below hb H92.out.lt).alloc _⟩)
            clear hj hi hb HOP HS2 H92 p0 p1 p2 p3
            go_upto_region 15 with (fail)
            replace HSJ := hide (show SJ w X5 d w4.heap.size j0 A kept cap X9 c (w4.alloc (.cells #[.slice j0.A j0.rs.length j0.cap, .int .i64 j0.many, .int .i64 j0.synced] 29)) from HSJ.out)
            generalize w4.alloc (.cells #[.slice j0.A j0.rs.length j0.cap, .int .i64 j0.many, .int .i64 j0.synced] 29) = w5 at *
            generalize w4.heap.size = X10 at *
            have hjl : j0.rs.length = kept.length := by have h := congrArg (fun d : Jk => d.recs.length) HJ0.out; simpa only [Jr.k, secD_len] using h
            have hjs : j0.synced = (kept.length : Nat) := by have h := congrArg Jk.synced HJ0.out; simp only [Jr.k, secD_len] at h; exact h
            obtain ⟨q0, q1, q2⟩ := (HSJ.out.env.jou (X10, j0) (by simp)).1.c3
            rw [hjl] at q0
            rw [hjs] at q2
            have HSR := hide (srec_any j0.A j0.rs j0.cap A kept cap w5 (HSJ.out.env.jou (X10, j0) (by simp)).2.2.2.recs HSJ.out.kin)
            replace HSR := hide (show Calls Try.prog 25 #[.slice j0.A kept.length j0.cap, .slice A kept.length cap] w5 fun e w' => e = .returned (.bool true) ∧ ∃ n, w' = w5.drewN n by have h := HSR.out; rw [hjl, decide_eq_true (show secD j0.rs = secD kept from congrArg Jk.recs HJ0.out)] at h; exact h)
            clear hjl hjs
            go_wp2_with fail
            refine HSR.out.mono ?_
            rintro e w6 ⟨rfl, n6, rfl⟩
            have HSJ2 := hide (HSJ.out.below (below_drewN (Below.refl _ _) n6))
            clear HSJ HSR q0 q1 q2
            generalize w5.drewN n6 = w6 at *
            obtain ⟨c0, c1, c2⟩ := HSJ2.out.ent.c3
            go_wp2_with fail
            clear c0 c1 c2
            go_loopw [74] (fun i wl => ∃ (t : Nat) (jj : Jr), t ≤ c.rs.length ∧ i = .int .i64 t ∧ Hid (SJ w X5 d X10 jj A kept cap X9 c wl) ∧ Hid (jj.k = j0.k.addAll ((secD c.rs).take t))) (fun i _ => c.rs.length - (intOf i).toNat)
            case atStart => exact ⟨0, j0, Nat.zero_le _, rfl, HSJ2, hide rfl⟩
            case round =>
              clear HSJ2
              obtain ⟨t, jj, ht, rfl, HSL, HJJ⟩ := hrel
              by_cases htl : t < c.rs.length
              · have htl' : (t : Int) < (c.rs.length : Int) := by omega
                obtain ⟨b3, o3, hA3, _, e0⟩ := (HC.out.sin.below HSL.out.env.bel).at htl
                have HSI := hide ((HC.out.sin.below HSL.out.env.bel).each _ (List.getElem_mem htl))
                have HSQ := hide (HC.out.short _ (List.getElem_mem htl))
                have HTK := hide (show (secD c.rs).take (t + 1) = (secD c.rs).take t ++ [(c.rs[t]).l] by rw [List.take_succ_eq_append_getElem (by rw [secD_len]; exact htl), secD_get])
                have hcle := HC.out.sin.le
                have hctp := HC.out.sin.top
                skip
                generalize c.rs[t] = s at *
                rw [hA3]
                obtain ⟨q0, q1, q2⟩ := (HSL.out.env.jou (X10, jj) (by simp)).1.c3
                have HAP := hide (jappend_any jj s wr (HSL.out.env.jou (X10, jj) (by simp)).2.2.2 HSI.out HSQ.out)
                have HTR := hide (show (jj.k.append s.l).2 = 0 ∧ jj.k.try s.l = (jj.k.append s.l).1 ∨ (jj.k.append s.l).2 ≠ 0 ∧ jj.k.try s.l = jj.k by unfold Jk.try; by_cases h : (jj.k.append s.l).2 = 0; exact .inl ⟨h, if_pos h⟩; exact .inr ⟨h, if_neg h⟩)
                have HNX := hide (show j0.k.addAll ((secD c.rs).take (t + 1)) = jj.k.try s.l by rw [HTK.out, HJJ.out]; unfold Jk.addAll; rw [List.foldl_append]; rfl)
                generalize jj.k.append s.l = ya at HAP HTR
                obtain ⟨y1, y2⟩ := ya
                clear HTK
                go_wp2_with fail
                refine HAP.out.mono ?_
                rintro e w7 ⟨j', rfl, hyk, hyi, hb⟩
                have HYK := hide hyk
                have HYI := hide (hyi.below (below_new w7 (.cells j'.cs.toArray 29)))
                have HSM := hide ((HSL.out.below hb).below (below_new w7 (.cells j'.cs.toArray 29)))
                clear hyk hyi hb HAP HSL q0 q1 q2 e0 HSI HSQ hA3
                skip
                rcases HTR.out with ⟨hz, hy⟩ | ⟨hz, hy⟩
                · skip
                  have hz' : (y2 == (0 : Int)) = true := by simpa using hz
                  have HY := hide (HNX.out.trans hy)
                  clear hz hy HTR HNX
                  have HXB := hide ((HSM.out.env.jou (X10, jj) (by simp)).1)
                  go_wp2_with (refine wpList_store_row rfl 29 (.tmp 10) (.tmp 86) rfl X10 #[.slice j'.A j'.rs.length j'.cap, .int .i64 j'.many, .int .i64 j'.synced] rfl rfl 29 _ HXB.out Try.size29 rfl (one29 _ _ _ _ _) ?_)
                  go_roundw
                  case rel => exact ⟨t + 1, j', by omega, by go_num, hide (HSM.out.putj HYI.out), hide (HYK.out.trans HY.out.symm)⟩
                  case measure => simp [intOf]; omega
                · skip
                  have hz' : (y2 == (0 : Int)) = false := by simpa using hz
                  have HY := hide (HNX.out.trans hy)
                  clear hz hy HTR HNX
                  go_wp2_with fail
                  go_roundw
                  case rel => exact ⟨t + 1, jj, by omega, by go_num, HSM, hide HY.out.symm⟩
                  case measure => simp [intOf]; omega
              · obtain rfl : t = c.rs.length := by omega
                have htl' : ¬ (c.rs.length : Int) < (c.rs.length : Int) := by omega
                have HJL := hide (show jj.k = j0.k.addAll (secD c.rs) by rw [HJJ.out, List.take_of_length_le (by rw [secD_len]; exact Nat.le_refl _)])
                clear HJJ
                have HRD := hide (fun left (hl : -1 ≤ left ∧ left ≤ 65536) => HA.out.1.round (by omega) (secD c.rs) hl (l := jj.k) (by rw [HJL.out, HJ0.out]))
                have hlen : kept.length ≤ jj.rs.length := by have h := (HRD.out (-1) (by omega)).1; simpa only [Jr.k, secD_len] using h
                have hlen' : ¬ ((jj.rs.length : Int) < (kept.length : Int)) := by omega
                obtain ⟨q0, q1, q2⟩ := (HSL.out.env.jou (X10, jj) (by simp)).1.c3
                obtain ⟨c0, c1, c2⟩ := HSL.out.ent.c3
                go_upto_if 95 with (fail)
                clear q0 q1 q2 c0 c1 c2 hlen'
                go_cut [6] from 94 to 106 (fun _ W => ∃ (dd : Dsk) (left : Int), Hid (dd.d = ⟨d.d.sec, [], left, false⟩ ∧ (-1 ≤ left ∧ left ≤ 65536) ∧ (c.halts = false → left = -1)) ∧ Hid (SJ w X5 dd X10 jj A kept cap X9 c W))
                case first =>
                  obtain ⟨p0, p1, p2, p3⟩ := (HSL.out.env.box (X5, d) (by simp)).1.c4
                  obtain ⟨c0, c1, c2⟩ := HSL.out.ent.c3
                  cases hh : c.halts with
                  | false =>
                    go_wp2_with fail
                    go_meet
                    case rel => exact ⟨d, -1, hide ⟨HA.out.2.symm, ⟨by decide, by decide⟩, fun _ => rfl⟩, HSL⟩
                  | true =>
                    have HH := hide hh
                    clear hh
                    have bl := c.lft.toNat_lt
                    obtain ⟨ll, hll⟩ : ∃ ll, ll = c.lft.toNat % 40 := ⟨_, rfl⟩
                    have hll2 : ll < 40 := by omega
                    have hw5 : (c.lft.toNat : Int).tmod 40 = (ll : Int) := by rw [Int.tmod_eq_emod_of_nonneg (by omega)]; omega
                    have hw6 : IntKind.u8.wrap (ll : Int) = (ll : Int) := u8_small (by omega)
                    have hw7 : IntKind.i64.wrap (ll : Int) = (ll : Int) := wrapI_small _ (by omega)
                    have HST := hide (stop_any d (ll : Int) wr (HSL.out.env.box (X5, d) (by simp)).2.2.2)
                    have HD0 := hide (show ({ d.d with left := (ll : Int) } : Dk) = ⟨d.d.sec, [], (ll : Int), false⟩ by have h := HA.out.2; rw [← h]; rfl)
                    replace HST := hide (show Calls Try.prog 26 #[d.v, .int .i64 (ll : Int)] wr (Ans w.heap.size wr ({ d.d with left := (ll : Int) }, 0)) by have h := HST.out; rw [stop_is HA.out.1.runs (by omega)] at h; exact h)
                    clear hll
                    go_wp2_with fail
                    refine HST.out.mono ?_
                    rintro e w7 ⟨dd, rfl, hdd, hid, hb⟩
                    have HDD := hide hdd
                    have HSM := hide (HSL.out.below hb)
                    have HXB := hide ((HSM.out.env.box (X5, d) (by simp)).1)
                    have HSP := hide (HSM.out.putd hid)
                    clear hdd hid hb HST p0 p1 p2 p3 c0 c1 c2 hw5 hw6 hw7
                    go_wp2_with (refine wpList_store_row rfl 25 (.tmp 5) (.tmp 103) rfl X5 #[.slice dd.sa dd.ss.length dd.sc, .slice dd.pa dd.ps.length dd.pc, .int .i64 dd.left, .bool dd.stp] rfl rfl 25 _ HXB.out Try.size25 rfl (one25 _ _ _ _ _ _ _ _) ?_)
                    go_meet
                    case rel => exact ⟨dd, (ll : Int), hide ⟨HDD.out.trans HD0.out, ⟨by omega, by omega⟩, fun h => (by have h2 := HH.out; rw [h] at h2; cases h2)⟩, HSP⟩
                case rest =>
                  obtain ⟨dd, left, HDD, HSQ⟩ := hcut
                  clear HSL
                  have hn0 : w.heap.size ≤ wc.heap.size := HSQ.out.env.bel.size
                  obtain ⟨yk, y, n, hsy, hcase⟩ : ∃ yk y n, jsyncB jj.k dd.d = (yk, y, n) ∧ ((n = 0 ∧ yk = jj.k.full ∧ At (k + 1) jj.k.recs y.restart) ∨ (n = 40 ∧ c.halts = true ∧ ∃ m, kept.length ≤ m ∧ m ≤ jj.rs.length ∧ At (k + 1) (jj.k.recs.take m) y.restart)) := by
                    rw [HDD.out.1]
                    rcases (HRD.out left HDD.out.2.1).2 with ⟨y, h1, h2⟩ | ⟨hl, y, m, h1, h2, h3, h4⟩
                    · exact ⟨_, _, _, h1, .inl ⟨rfl, rfl, h2⟩⟩
                    · refine ⟨_, _, _, h1, .inr ⟨rfl, ?_, m, by rw [secD_len] at h2; exact h2, by simpa only [Jr.k, secD_len] using h3, h4⟩⟩
                      cases hh : c.halts with
                      | true => rfl
                      | false => exact absurd (HDD.out.2.2 hh) hl
                  have HCS := hide hcase
                  obtain ⟨q0, q1, q2⟩ := (HSQ.out.env.jou (X10, jj) (by simp)).1.c3
                  obtain ⟨p0, p1, p2, p3⟩ := (HSQ.out.env.box (X5, dd) (by simp)).1.c4
                  have HSY := hide (jsync_is wc hn0 rfl rfl hsy (HSQ.out.env.jou (X10, jj) (by simp)).2.2.2 (HSQ.out.env.box (X5, dd) (by simp)).2.2.2)
                  clear hsy hcase HRD
                  go_wp2_with fail
                  refine HSY.out.mono ?_
                  rintro e w5 ⟨j5, d5, rfl, hj5, hd5, hij, hid, hb⟩
                  have HJ5 := hide hj5
                  have HD5 := hide hd5
                  have HE5 := hide (two_new hb hn0 hij hid)
                  clear hj5 hd5 hij hid hb HSY q0 q1 q2 p0 p1 p2 p3
                  go_upto_region 31 with (first | (refine wpList_store_row rfl 29 (.tmp 16) (.tmp 111) rfl w5.heap.size #[.slice j5.A j5.rs.length j5.cap, .int .i64 j5.many, .int .i64 j5.synced] rfl rfl 29 _ HE5.out.1 Try.size29 rfl (one29 _ _ _ _ _) ?_) | (refine wpList_store_row rfl 25 (.tmp 17) (.tmp 112) rfl (w5.heap.size + 1) #[.slice d5.sa d5.ss.length d5.sc, .slice d5.pa d5.ps.length d5.pc, .int .i64 d5.left, .bool d5.stp] rfl rfl 25 _ HE5.out.2.1 Try.size25 rfl (one25 _ _ _ _ _ _ _ _) ?_))
                  have HEN := hide HE5.out.2.2
                  have HSR0 := hide (HSQ.out.below HEN.out.bel)
                  clear HE5 HSQ
                  replace HEN := hide (show Env w.heap.size wc [(w5.heap.size + 1, d5)] [(w5.heap.size, j5)] [] ((((w5.alloc (.cells #[.slice none 0 0, .int .i64 0, .int .i64 0] 29)).alloc (.cells #[.slice none 0 0, .slice none 0 0, .int .i64 0, .bool false] 25)).setRow w5.heap.size #[.slice j5.A j5.rs.length j5.cap, .int .i64 j5.many, .int .i64 j5.synced]).setRow (w5.heap.size + 1) #[.slice d5.sa d5.ss.length d5.sc, .slice d5.pa d5.ps.length d5.pc, .int .i64 d5.left, .bool d5.stp]) from HEN.out)
                  replace HSR0 := hide (show SJ w X5 dd X10 jj A kept cap X9 c ((((w5.alloc (.cells #[.slice none 0 0, .int .i64 0, .int .i64 0] 29)).alloc (.cells #[.slice none 0 0, .slice none 0 0, .int .i64 0, .bool false] 25)).setRow w5.heap.size #[.slice j5.A j5.rs.length j5.cap, .int .i64 j5.many, .int .i64 j5.synced]).setRow (w5.heap.size + 1) #[.slice d5.sa d5.ss.length d5.sc, .slice d5.pa d5.ps.length d5.pc, .int .i64 d5.left, .bool d5.stp]) from HSR0.out)
                  generalize (((w5.alloc (.cells #[.slice none 0 0, .int .i64 0, .int .i64 0] 29)).alloc (.cells #[.slice none 0 0, .slice none 0 0, .int .i64 0, .bool false] 25)).setRow w5.heap.size #[.slice j5.A j5.rs.length j5.cap, .int .i64 j5.many, .int .i64 j5.synced]).setRow (w5.heap.size + 1) #[.slice d5.sa d5.ss.length d5.sc, .slice d5.pa d5.ps.length d5.pc, .int .i64 d5.left, .bool d5.stp] = v0 at *
                  generalize w5.heap.size = X16 at *
                  rcases HCS.out with ⟨rfl, rfl, hat⟩ | ⟨rfl, hh, m, hm1, hm2, hat⟩
                  · have HAT := hide hat
                    clear hat HCS
                    have hjs : j5.synced = (jj.rs.length : Nat) := by have h := congrArg Jk.synced HJ5.out; simp only [Jr.k, Jk.full, secD_len] at h; exact h
                    have hjl : j5.rs.length = jj.rs.length := by have h := congrArg (fun d : Jk => d.recs.length) HJ5.out; simpa only [Jr.k, Jk.full, secD_len] using h
                    obtain ⟨r0, r1, r2⟩ := (HEN.out.jou (X16, j5) (by simp)).1.c3
                    obtain ⟨q0, q1, q2⟩ := (HSR0.out.env.jou (X10, jj) (by simp)).1.c3
                    rw [hjs] at r2
                    rw [hjl] at r0
                    have HSE := hide (srec_any j5.A j5.rs j5.cap jj.A jj.rs jj.cap v0 (HEN.out.jou (X16, j5) (by simp)).2.2.2.recs (HSR0.out.env.jou (X10, jj) (by simp)).2.2.2.recs)
                    replace HSE := hide (show Calls Try.prog 25 #[.slice j5.A jj.rs.length j5.cap, .slice jj.A jj.rs.length jj.cap] v0 fun e w' => e = .returned (.bool true) ∧ ∃ n, w' = v0.drewN n by have h := HSE.out; rw [hjl, decide_eq_true (show secD j5.rs = secD jj.rs from congrArg Jk.recs HJ5.out)] at h; exact h)
                    clear hjs hjl
                    go_wp2_with fail
                    refine HSE.out.mono ?_
                    rintro e v1 ⟨rfl, n1, rfl⟩
                    have HEN1 := hide (HEN.out.below (below_drewN (Below.refl _ _) n1))
                    have HSR1 := hide (HSR0.out.below (below_drewN (Below.refl _ _) n1))
                    clear HEN HSR0 HSE r0 r1 r2 q0 q1 q2
                    generalize v0.drewN n1 = v1 at *
                    obtain ⟨q0, q1, q2⟩ := (HSR1.out.env.jou (X10, jj) (by simp)).1.c3
                    go_upto_region 42 with (fail)
                    clear q0 q1 q2
                    obtain ⟨p0, p1, p2, p3⟩ := (HEN1.out.box (X16 + 1, d5) (by simp)).1.c4
                    have HRS := hide (restart_any d5 _ (HEN1.out.box (X16 + 1, d5) (by simp)).2.2.2)
                    go_wp2_with fail
                    refine HRS.out.mono ?_
                    rintro e w8 ⟨x, rfl, hx, hxi, -, -, -, -, -, -, -, -, hb⟩
                    have HXD := hide hx
                    have HS8 := hide (HSR1.out.below hb)
                    have HXB := hide ((HS8.out.env.box (X5, dd) (by simp)).1)
                    have HKK := hide ((HS8.out.env.jou (X10, jj) (by simp)).2.2.2.recs)
                    have HEND := hide (HS8.out.fin hxi HKK.out)
                    clear hx hxi hb HRS p0 p1 p2 p3
                    go_wp2_with (refine wpList_store_row rfl 25 (.tmp 5) (.tmp 180) rfl X5 #[.slice x.sa x.ss.length x.sc, .slice x.pa x.ps.length x.pc, .int .i64 x.left, .bool x.stp] rfl rfl 25 _ HXB.out Try.size25 rfl (one25 _ _ _ _ _ _ _ _) ?_)
                    go_roundw
                    case rel => exact ⟨k + 1, x, jj.A, jj.rs, jj.cap, by omega, by go_num, (by first | rfl | rw [hjl]), HEND, hide ⟨by rw [HXD.out, HD5.out]; exact HAT.out, by rw [HXD.out]; rfl⟩⟩
                    case measure => simp [intOf]; omega
                  · have HAT := hide hat
                    have HH := hide hh
                    clear hat HCS hh
                    obtain ⟨p0, p1, p2, p3⟩ := (HEN.out.box (X16 + 1, d5) (by simp)).1.c4
                    have HRS := hide (restart_any d5 _ (HEN.out.box (X16 + 1, d5) (by simp)).2.2.2)
                    go_wp2_with fail
                    refine HRS.out.mono ?_
                    rintro e w8 ⟨x8, rfl, hx, hxi, -, -, -, -, -, -, -, -, hb⟩
                    have HEN1 := hide (HEN.out.below hb)
                    have HSR1 := hide (HSR0.out.below hb)
                    have HOP := hide (open_is w8 (hx.trans (by rw [HD5.out])) HAT.out.open hxi)
                    clear hx hxi hb HRS p0 p1 p2 p3 HEN HSR0
                    go_wp2_with fail
                    refine HOP.out.mono ?_
                    rintro e w9 ⟨j9, rfl, hj9, hi9, hb⟩
                    have HJ9 := hide hj9
                    have HE9 := hide (((Env.start (n0 := w.heap.size) w9).newj (Nat.le_trans hn0 (Nat.le_trans HEN1.out.bel.size hb.size)) hi9))
                    have HEN2 := hide ((HEN1.out.below hb).below (below_new w9 (.cells j9.cs.toArray 29)))
                    have HSR2 := hide ((HSR1.out.below hb).below (below_new w9 (.cells j9.cs.toArray 29)))
                    clear hj9 hi9 hb HOP HEN1 HSR1
                    go_upto_region 39 with (fail)
                    replace HE9 := hide (show Env w.heap.size w9 [] [(w9.heap.size, j9)] [] (w9.alloc (.cells #[.slice j9.A j9.rs.length j9.cap, .int .i64 j9.many, .int .i64 j9.synced] 29)) from HE9.out)
                    replace HEN2 := hide (show Env w.heap.size wc [(X16 + 1, d5)] [(X16, j5)] [] (w9.alloc (.cells #[.slice j9.A j9.rs.length j9.cap, .int .i64 j9.many, .int .i64 j9.synced] 29)) from HEN2.out)
                    replace HSR2 := hide (show SJ w X5 dd X10 jj A kept cap X9 c (w9.alloc (.cells #[.slice j9.A j9.rs.length j9.cap, .int .i64 j9.many, .int .i64 j9.synced] 29)) from HSR2.out)
                    generalize w9.alloc (.cells #[.slice j9.A j9.rs.length j9.cap, .int .i64 j9.many, .int .i64 j9.synced] 29) = v2 at *
                    generalize hX19 : w9.heap.size = X19 at *
                    clear hX19
                    have hjl : j9.rs.length = m := by have h := congrArg (fun d : Jk => d.recs.length) HJ9.out; simp only [Jr.k, List.length_take, secD_len] at h; omega
                    have hse : secD j9.rs = secD (jj.rs.take m) := by have h := congrArg Jk.recs HJ9.out; simp only [Jr.k] at h; rw [h]; simp [secD, List.map_take]
                    have HCX := hide (fun W (hW : Below v2.heap.size v2 W) => surC (HE9.out.jou (X19, j9) (by simp)).1 (HSR2.out.env.jou (X10, jj) (by simp)).1 HSR2.out.ent hW hjl HH.out)
                    have hxl : (jj.rs.take m).length = m := by rw [List.length_take]; omega
                    have HSE := hide (fun W (hW : Below v2.heap.size v2 W) => srec_any j9.A j9.rs j9.cap jj.A (jj.rs.take m) jj.cap W ((HE9.out.jou (X19, j9) (by simp)).2.2.2.recs.below hW) (((HSR2.out.env.jou (X10, jj) (by simp)).2.2.2.recs.below hW).take m))
                    replace HSE := hide (show ∀ W, Below v2.heap.size v2 W → Calls Try.prog 25 #[.slice j9.A m j9.cap, .slice jj.A m jj.cap] W fun e w' => e = .returned (.bool true) ∧ ∃ n, w' = W.drewN n from fun W hW => by
                      have h := HSE.out W hW
                      rw [hxl, hjl, decide_eq_true hse] at h
                      exact h)
                    have hjc : jj.rs.length ≤ jj.cap := (HSR2.out.env.jou (X10, jj) (by simp)).2.2.2.recs.le
                    have hjt : jj.cap ≤ 9223372036854775807 := (HSR2.out.env.jou (X10, jj) (by simp)).2.2.2.recs.top
                    have hx1 : (0 : Int) ≤ (m : Int) := by omega
                    have hx2 : (m : Int) ≤ (jj.cap : Int) := by omega
                    have hx3 : m ≤ jj.cap := by omega
                    have hy1 : decide (m < kept.length) = false := by simp; omega
                    have hy2 : decide (jj.rs.length < m) = false := by simp; omega
                    have hy3 : ¬ ((m : Int) < (kept.length : Int)) := by omega
                    have hy4 : ¬ ((jj.rs.length : Int) < (m : Int)) := by omega
                    clear hse hxl
                    refine wp_region_plan3 (fun w' => Below v2.heap.size v2 w') (.take 0 (.take 1 (.take 2 (.take 3 (.take 4 (.take 5 (.take 6 (.take 7 (.take 8 (.take 9 (.take 10 (.take 11 (.take 12 (.take 13 (.take 14 (.take 15 (.take 16 (.take 17 (.take 18 (.take 19 (.take 20 (.take 21 (.take 22 (.take 23 (.take 24 (.take 25 (.take 26 (.take 27 (.take 28 (.take 29 (.take 30 (.take 31 (.take 32 (.run 33 (.take 34 (.take 35 .done)))))))))))))))))))))))))))))))))))) (by kernel_rfl) (by kernel_rfl) ((Below.refl _ _).drew) ?_
                    have HF0 := hide (show Below v2.heap.size v2 v2.drew from (Below.refl _ _).drew)
                    generalize v2.drew = wD at HF0 ⊢
                    (refine plan3_take (o := ?_) (v := ?_) (by simp only [List.getElem?_toArray, List.getElem?_cons_zero]; rfl) (yields_run (by rfl) ?_) ?_; rotate_left; (focus (intro w' hw'; skip; go_simp <;> with_reducible rfl)); (simp only [Act.put, List.setIfInBounds_toArray, List.set_cons_zero, List.set_cons_succ]))
                    (refine plan3_take (o := ?_) (v := ?_) (by simp only [List.getElem?_toArray, List.getElem?_cons_succ, List.getElem?_cons_zero]; rfl) (yields_run (by rfl) ?_) ?_; rotate_left; (focus (intro w' hw'; obtain ⟨r0, r1, r2, t0, t1, t2, a0, a1, a2⟩ := HCX.out w' hw'; go_simp <;> with_reducible rfl)); (simp only [Act.put, List.setIfInBounds_toArray, List.set_cons_zero, List.set_cons_succ]))
                    (refine plan3_take (o := ?_) (v := ?_) (by simp only [List.getElem?_toArray, List.getElem?_cons_succ, List.getElem?_cons_zero]; rfl) (yields_run (by rfl) ?_) ?_; rotate_left; (focus (intro w' hw'; skip; go_simp <;> with_reducible rfl)); (simp only [Act.put, List.setIfInBounds_toArray, List.set_cons_zero, List.set_cons_succ]))
                    (refine plan3_take (o := ?_) (v := ?_) (by simp only [List.getElem?_toArray, List.getElem?_cons_succ, List.getElem?_cons_zero]; rfl) (yields_run (by rfl) ?_) ?_; rotate_left; (focus (intro w' hw'; skip; go_simp <;> with_reducible rfl)); (simp only [Act.put, List.setIfInBounds_toArray, List.set_cons_zero, List.set_cons_succ]))
                    (refine plan3_take (o := ?_) (v := ?_) (by simp only [List.getElem?_toArray, List.getElem?_cons_succ, List.getElem?_cons_zero]; rfl) (yields_run (by rfl) ?_) ?_; rotate_left; (focus (intro w' hw'; skip; go_simp <;> with_reducible rfl)); (simp only [Act.put, List.setIfInBounds_toArray, List.set_cons_zero, List.set_cons_succ]))
                    (refine plan3_take (o := ?_) (v := ?_) (by simp only [List.getElem?_toArray, List.getElem?_cons_succ, List.getElem?_cons_zero]; rfl) (yields_run (by rfl) ?_) ?_; rotate_left; (focus (intro w' hw'; skip; go_simp <;> with_reducible rfl)); (simp only [Act.put, List.setIfInBounds_toArray, List.set_cons_zero, List.set_cons_succ]))
                    (refine plan3_take (o := ?_) (v := ?_) (by simp only [List.getElem?_toArray, List.getElem?_cons_succ, List.getElem?_cons_zero]; rfl) (yields_run (by rfl) ?_) ?_; rotate_left; (focus (intro w' hw'; skip; go_simp <;> with_reducible rfl)); (simp only [Act.put, List.setIfInBounds_toArray, List.set_cons_zero, List.set_cons_succ]))
                    (refine plan3_take (o := ?_) (v := ?_) (by simp only [List.getElem?_toArray, List.getElem?_cons_succ, List.getElem?_cons_zero]; rfl) (yields_run (by rfl) ?_) ?_; rotate_left; (focus (intro w' hw'; skip; go_simp <;> with_reducible rfl)); (simp only [Act.put, List.setIfInBounds_toArray, List.set_cons_zero, List.set_cons_succ]))
                    (refine plan3_take (o := ?_) (v := ?_) (by simp only [List.getElem?_toArray, List.getElem?_cons_succ, List.getElem?_cons_zero]; rfl) (yields_run (by rfl) ?_) ?_; rotate_left; (focus (intro w' hw'; skip; go_simp <;> with_reducible rfl)); (simp only [Act.put, List.setIfInBounds_toArray, List.set_cons_zero, List.set_cons_succ]))
                    (refine plan3_take (o := ?_) (v := ?_) (by simp only [List.getElem?_toArray, List.getElem?_cons_succ, List.getElem?_cons_zero]; rfl) (yields_run (by rfl) ?_) ?_; rotate_left; (focus (intro w' hw'; obtain ⟨r0, r1, r2, t0, t1, t2, a0, a1, a2⟩ := HCX.out w' hw'; go_simp <;> with_reducible rfl)); (simp only [Act.put, List.setIfInBounds_toArray, List.set_cons_zero, List.set_cons_succ]))
                    (refine plan3_take (o := ?_) (v := ?_) (by simp only [List.getElem?_toArray, List.getElem?_cons_succ, List.getElem?_cons_zero]; rfl) (yields_run (by rfl) ?_) ?_; rotate_left; (focus (intro w' hw'; skip; go_simp <;> with_reducible rfl)); (simp only [Act.put, List.setIfInBounds_toArray, List.set_cons_zero, List.set_cons_succ]))
                    (refine plan3_take (o := ?_) (v := ?_) (by simp only [List.getElem?_toArray, List.getElem?_cons_succ, List.getElem?_cons_zero]; rfl) (yields_run (by rfl) ?_) ?_; rotate_left; (focus (intro w' hw'; skip; go_simp <;> with_reducible rfl)); (simp only [Act.put, List.setIfInBounds_toArray, List.set_cons_zero, List.set_cons_succ]))
                    (refine plan3_take (o := ?_) (v := ?_) (by simp only [List.getElem?_toArray, List.getElem?_cons_succ, List.getElem?_cons_zero]; rfl) (yields_run (by rfl) ?_) ?_; rotate_left; (focus (intro w' hw'; skip; go_simp <;> with_reducible rfl)); (simp only [Act.put, List.setIfInBounds_toArray, List.set_cons_zero, List.set_cons_succ]))
                    (refine plan3_take (o := ?_) (v := ?_) (by simp only [List.getElem?_toArray, List.getElem?_cons_succ, List.getElem?_cons_zero]; rfl) (yields_run (by rfl) ?_) ?_; rotate_left; (focus (intro w' hw'; skip; go_simp <;> with_reducible rfl)); (simp only [Act.put, List.setIfInBounds_toArray, List.set_cons_zero, List.set_cons_succ]))
                    (refine plan3_take (o := ?_) (v := ?_) (by simp only [List.getElem?_toArray, List.getElem?_cons_succ, List.getElem?_cons_zero]; rfl) (yields_run (by rfl) ?_) ?_; rotate_left; (focus (intro w' hw'; skip; go_simp <;> with_reducible rfl)); (simp only [Act.put, List.setIfInBounds_toArray, List.set_cons_zero, List.set_cons_succ]))
                    (refine plan3_take (o := ?_) (v := ?_) (by simp only [List.getElem?_toArray, List.getElem?_cons_succ, List.getElem?_cons_zero]; rfl) (yields_run (by rfl) ?_) ?_; rotate_left; (focus (intro w' hw'; skip; go_simp <;> with_reducible rfl)); (simp only [Act.put, List.setIfInBounds_toArray, List.set_cons_zero, List.set_cons_succ]))
                    (refine plan3_take (o := ?_) (v := ?_) (by simp only [List.getElem?_toArray, List.getElem?_cons_succ, List.getElem?_cons_zero]; rfl) (yields_run (by rfl) ?_) ?_; rotate_left; (focus (intro w' hw'; skip; go_simp <;> with_reducible rfl)); (simp only [Act.put, List.setIfInBounds_toArray, List.set_cons_zero, List.set_cons_succ]))
                    (refine plan3_take (o := ?_) (v := ?_) (by simp only [List.getElem?_toArray, List.getElem?_cons_succ, List.getElem?_cons_zero]; rfl) (yields_run (by rfl) ?_) ?_; rotate_left; (focus (intro w' hw'; obtain ⟨r0, r1, r2, t0, t1, t2, a0, a1, a2⟩ := HCX.out w' hw'; go_simp <;> with_reducible rfl)); (simp only [Act.put, List.setIfInBounds_toArray, List.set_cons_zero, List.set_cons_succ]))
                    (refine plan3_take (o := ?_) (v := ?_) (by simp only [List.getElem?_toArray, List.getElem?_cons_succ, List.getElem?_cons_zero]; rfl) (yields_run (by rfl) ?_) ?_; rotate_left; (focus (intro w' hw'; skip; go_simp <;> with_reducible rfl)); (simp only [Act.put, List.setIfInBounds_toArray, List.set_cons_zero, List.set_cons_succ]))
                    (refine plan3_take (o := ?_) (v := ?_) (by simp only [List.getElem?_toArray, List.getElem?_cons_succ, List.getElem?_cons_zero]; rfl) (yields_run (by rfl) ?_) ?_; rotate_left; (focus (intro w' hw'; skip; go_simp <;> with_reducible rfl)); (simp only [Act.put, List.setIfInBounds_toArray, List.set_cons_zero, List.set_cons_succ]))
                    (refine plan3_take (o := ?_) (v := ?_) (by simp only [List.getElem?_toArray, List.getElem?_cons_succ, List.getElem?_cons_zero]; rfl) (yields_run (by rfl) ?_) ?_; rotate_left; (focus (intro w' hw'; obtain ⟨r0, r1, r2, t0, t1, t2, a0, a1, a2⟩ := HCX.out w' hw'; go_simp <;> with_reducible rfl)); (simp only [Act.put, List.setIfInBounds_toArray, List.set_cons_zero, List.set_cons_succ]))
                    (refine plan3_take (o := ?_) (v := ?_) (by simp only [List.getElem?_toArray, List.getElem?_cons_succ, List.getElem?_cons_zero]; rfl) (yields_run (by rfl) ?_) ?_; rotate_left; (focus (intro w' hw'; skip; go_simp <;> with_reducible rfl)); (simp only [Act.put, List.setIfInBounds_toArray, List.set_cons_zero, List.set_cons_succ]))
                    (refine plan3_take (o := ?_) (v := ?_) (by simp only [List.getElem?_toArray, List.getElem?_cons_succ, List.getElem?_cons_zero]; rfl) (yields_run (by rfl) ?_) ?_; rotate_left; (focus (intro w' hw'; skip; go_simp <;> with_reducible rfl)); (simp only [Act.put, List.setIfInBounds_toArray, List.set_cons_zero, List.set_cons_succ]))
                    (refine plan3_take (o := ?_) (v := ?_) (by simp only [List.getElem?_toArray, List.getElem?_cons_succ, List.getElem?_cons_zero]; rfl) (yields_run (by rfl) ?_) ?_; rotate_left; (focus (intro w' hw'; skip; go_simp <;> with_reducible rfl)); (simp only [Act.put, List.setIfInBounds_toArray, List.set_cons_zero, List.set_cons_succ]))
                    (refine plan3_take (o := ?_) (v := ?_) (by simp only [List.getElem?_toArray, List.getElem?_cons_succ, List.getElem?_cons_zero]; rfl) (yields_run (by rfl) ?_) ?_; rotate_left; (focus (intro w' hw'; skip; go_simp <;> with_reducible rfl)); (simp only [Act.put, List.setIfInBounds_toArray, List.set_cons_zero, List.set_cons_succ]))
                    (refine plan3_take (o := ?_) (v := ?_) (by simp only [List.getElem?_toArray, List.getElem?_cons_succ, List.getElem?_cons_zero]; rfl) (yields_run (by rfl) ?_) ?_; rotate_left; (focus (intro w' hw'; skip; go_simp <;> with_reducible rfl)); (simp only [Act.put, List.setIfInBounds_toArray, List.set_cons_zero, List.set_cons_succ]))
                    (refine plan3_take (o := ?_) (v := ?_) (by simp only [List.getElem?_toArray, List.getElem?_cons_succ, List.getElem?_cons_zero]; rfl) (yields_run (by rfl) ?_) ?_; rotate_left; (focus (intro w' hw'; obtain ⟨r0, r1, r2, t0, t1, t2, a0, a1, a2⟩ := HCX.out w' hw'; go_simp <;> with_reducible rfl)); (simp only [Act.put, List.setIfInBounds_toArray, List.set_cons_zero, List.set_cons_succ]))
                    (refine plan3_take (o := ?_) (v := ?_) (by simp only [List.getElem?_toArray, List.getElem?_cons_succ, List.getElem?_cons_zero]; rfl) (yields_run (by rfl) ?_) ?_; rotate_left; (focus (intro w' hw'; skip; go_simp <;> with_reducible rfl)); (simp only [Act.put, List.setIfInBounds_toArray, List.set_cons_zero, List.set_cons_succ]))
                    (refine plan3_take (o := ?_) (v := ?_) (by simp only [List.getElem?_toArray, List.getElem?_cons_succ, List.getElem?_cons_zero]; rfl) (yields_run (by rfl) ?_) ?_; rotate_left; (focus (intro w' hw'; obtain ⟨r0, r1, r2, t0, t1, t2, a0, a1, a2⟩ := HCX.out w' hw'; go_simp <;> with_reducible rfl)); (simp only [Act.put, List.setIfInBounds_toArray, List.set_cons_zero, List.set_cons_succ]))
                    (refine plan3_take (o := ?_) (v := ?_) (by simp only [List.getElem?_toArray, List.getElem?_cons_succ, List.getElem?_cons_zero]; rfl) (yields_run (by rfl) ?_) ?_; rotate_left; (focus (intro w' hw'; skip; go_simp <;> with_reducible rfl)); (simp only [Act.put, List.setIfInBounds_toArray, List.set_cons_zero, List.set_cons_succ]))
                    (refine plan3_take (o := ?_) (v := ?_) (by simp only [List.getElem?_toArray, List.getElem?_cons_succ, List.getElem?_cons_zero]; rfl) (yields_run (by rfl) ?_) ?_; rotate_left; (focus (intro w' hw'; obtain ⟨r0, r1, r2, t0, t1, t2, a0, a1, a2⟩ := HCX.out w' hw'; go_simp <;> with_reducible rfl)); (simp only [Act.put, List.setIfInBounds_toArray, List.set_cons_zero, List.set_cons_succ]))
                    (refine plan3_take (o := ?_) (v := ?_) (by simp only [List.getElem?_toArray, List.getElem?_cons_succ, List.getElem?_cons_zero]; rfl) (yields_run (by rfl) ?_) ?_; rotate_left; (focus (intro w' hw'; skip; go_simp <;> with_reducible rfl)); (simp only [Act.put, List.setIfInBounds_toArray, List.set_cons_zero, List.set_cons_succ]))
                    (refine plan3_take (o := ?_) (v := ?_) (by simp only [List.getElem?_toArray, List.getElem?_cons_succ, List.getElem?_cons_zero]; rfl) (yields_run (by rfl) ?_) ?_; rotate_left; (focus (intro w' hw'; skip; go_simp <;> with_reducible rfl)); (simp only [Act.put, List.setIfInBounds_toArray, List.set_cons_zero, List.set_cons_succ]))
                    refine plan3_run (o := ?_) (by simp only [List.getElem?_toArray, List.getElem?_cons_succ, List.getElem?_cons_zero]; rfl) ?_
                    intro R HR
                    go_wp2_with fail
                    with_reducible refine (HSE.out wD HF0.out).mono ?_
                    rintro e vX ⟨rfl, nX, rfl⟩
                    have HFX := hide (below_drewN HF0.out nX)
                    go_wp2_with fail
                    refine HR.out _ _ HFX.out ?_
                    clear HR
                    (refine plan3_take (o := ?_) (v := ?_) (by simp only [List.getElem?_toArray, List.getElem?_cons_succ, List.getElem?_cons_zero]; rfl) (yields_run (by rfl) ?_) ?_; rotate_left; (focus (intro w' hw'; skip; go_simp <;> with_reducible rfl)); (simp only [Act.put, List.setIfInBounds_toArray, List.set_cons_zero, List.set_cons_succ]))
                    (refine plan3_take (o := ?_) (v := ?_) (by simp only [List.getElem?_toArray, List.getElem?_cons_succ, List.getElem?_cons_zero]; rfl) (yields_run (by rfl) ?_) ?_; rotate_left; (focus (intro w' hw'; skip; go_simp <;> with_reducible rfl)); (simp only [Act.put, List.setIfInBounds_toArray, List.set_cons_zero, List.set_cons_succ]))
                    refine plan3_done ?_
                    skip
                    have HE9b := hide (HE9.out.below HFX.out)
                    have HEN3 := hide (HEN2.out.below HFX.out)
                    have HSR3 := hide (HSR2.out.below HFX.out)
                    clear HE9 HEN2 HSR2 HFX HCX HSE hx1 hx2 hx3 hy1 hy2 hy3 hy4
                    generalize wD.drewN nX = v3 at *
                    obtain ⟨r0, r1, r2⟩ := (HE9b.out.jou (X19, j9) (by simp)).1.c3
                    go_upto_region 42 with (fail)
                    clear r0 r1 r2
                    obtain ⟨p0, p1, p2, p3⟩ := (HEN3.out.box (X16 + 1, d5) (by simp)).1.c4
                    have HRS := hide (restart_any d5 _ (HEN3.out.box (X16 + 1, d5) (by simp)).2.2.2)
                    go_wp2_with fail
                    refine HRS.out.mono ?_
                    rintro e w8 ⟨x, rfl, hx, hxi, -, -, -, -, -, -, -, -, hb⟩
                    have HXD := hide hx
                    have HS8 := hide (HSR3.out.below hb)
                    have HXB := hide ((HS8.out.env.box (X5, dd) (by simp)).1)
                    have HKK := hide (((HE9b.out.jou (X19, j9) (by simp)).2.2.2.recs.below hb))
                    have HEND := hide (HS8.out.fin hxi HKK.out)
                    clear hx hxi hb HRS p0 p1 p2 p3
                    go_wp2_with (refine wpList_store_row rfl 25 (.tmp 5) (.tmp 180) rfl X5 #[.slice x.sa x.ss.length x.sc, .slice x.pa x.ps.length x.pc, .int .i64 x.left, .bool x.stp] rfl rfl 25 _ HXB.out Try.size25 rfl (one25 _ _ _ _ _ _ _ _) ?_)
                    go_roundw
                    case rel => exact ⟨k + 1, x, j9.A, j9.rs, j9.cap, by omega, by go_num, (by first | rfl | rw [hjl]), HEND, hide ⟨by rw [HXD.out, HD5.out, show secD j9.rs = jj.k.recs.take m from congrArg Jk.recs HJ9.out]; exact HAT.out, by rw [HXD.out]; rfl⟩⟩
                    case measure => simp [intOf]; omega
      · have hlt' : ¬ (k : Int) < (ql.length : Int) := by omega
        obtain ⟨hbd, -, -, hid⟩ := HS.out.env.box (X5, d) (by simp)
        obtain ⟨p0, p1, p2, p3⟩ := hbd.c4
        have HOP := hide (open_is wr rfl HA.out.1.open hid)
        clear hbd hid
        go_wp2_with fail
        refine HOP.out.mono ?_
        rintro e w4 ⟨j0, rfl, hj, hi, hb⟩
        have HJ0 := hide hj
        have HEZ := hide (((HS.out.env.below hb).newj (Nat.le_refl _) hi))
        have HKZ := hide ((HS.out.kin.below hb).below (below_new w4 (.cells j0.cs.toArray 29)))
        clear hj hi hb HOP p0 p1 p2 p3 HS
        go_upto_region 45 with (fail)
        replace HEZ := hide (show Env w.heap.size w [(X5, d)] [(w4.heap.size, j0)] [] (w4.alloc (.cells #[.slice j0.A j0.rs.length j0.cap, .int .i64 j0.many, .int .i64 j0.synced] 29)) from HEZ.out)
        replace HKZ := hide (show SecsIn w.heap.size A kept cap (w4.alloc (.cells #[.slice j0.A j0.rs.length j0.cap, .int .i64 j0.many, .int .i64 j0.synced] 29)) from HKZ.out)
        generalize w4.alloc (.cells #[.slice j0.A j0.rs.length j0.cap, .int .i64 j0.many, .int .i64 j0.synced] 29) = w5 at *
        generalize w4.heap.size = X21 at *
        have hjl : j0.rs.length = kept.length := by have h := congrArg (fun d : Jk => d.recs.length) HJ0.out; simpa only [Jr.k, secD_len] using h
        obtain ⟨q0, q1, q2⟩ := (HEZ.out.jou (X21, j0) (by simp)).1.c3
        rw [hjl] at q0
        have HSR := hide (srec_any j0.A j0.rs j0.cap A kept cap w5 (HEZ.out.jou (X21, j0) (by simp)).2.2.2.recs HKZ.out)
        replace HSR := hide (show Calls Try.prog 25 #[.slice j0.A kept.length j0.cap, .slice A kept.length cap] w5 fun e w' => e = .returned (.bool true) ∧ ∃ n, w' = w5.drewN n by have h := HSR.out; rw [hjl, decide_eq_true (show secD j0.rs = secD kept from congrArg Jk.recs HJ0.out)] at h; exact h)
        clear hjl
        go_wp2_with fail
        refine HSR.out.mono ?_
        rintro e w6 ⟨rfl, n6, rfl⟩
        have HZZ := hide (HEZ.out.bel)
        go_wp2_with fail
        go_ret
        exact ⟨rfl, below_drewN HZZ.out n6⟩
end Go.Proofs.Ytgigccgklahddaa
