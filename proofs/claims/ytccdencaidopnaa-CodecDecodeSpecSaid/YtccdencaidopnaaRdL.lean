/- The reader's list, and the induction over the depth. -/
import Derived.Test.YtccdencaidopnaaRdV
import Derived.Deep.AppendLies
namespace Go.Proofs.Ytccdencaidopnaa
open Go.RowKit

/-- A value's four cells. -/
def cells4 (t : VT) : List Value := [.int .i64 t.kind, .int .i64 t.num, .string t.str, t.sl]
def cellsOf (l : List VT) : List Value := l.flatMap cells4

theorem cellsOf_snoc (l : List VT) (t : VT) : cellsOf (l ++ [t]) = cellsOf l ++ cells4 t := by simp [cellsOf]

theorem cellsOf_get : ∀ (l : List VT) (i : Nat) (h : i < l.length) (j : Nat), j < 4 → (cellsOf l)[i * 4 + j]? = (cells4 l[i])[j]?
  | [], i, h, _, _ => by simp at h
  | t :: r, i, h, j, hj => by
    show (cells4 t ++ cellsOf r)[i * 4 + j]? = _
    cases i with
    | zero => rw [List.getElem?_append_left (by simp [cells4]; omega)]; simp
    | succ i =>
      rw [List.getElem?_append_right (by simp [cells4]; omega)]
      have : (i + 1) * 4 + j - (cells4 t).length = i * 4 + j := by simp [cells4]; omega
      rw [this]
      simpa using cellsOf_get r i (by simpa using h) j hj

theorem Try.info24 : (Try.prog.info? 24).map (fun i => (i.zero, i.size, i.bytes)) = some (some (.agg #[.int .i64 0, .int .i64 0, .string ⟨#[]⟩, .slice none 0 0]), 4, 56) := by kernel_rfl

theorem Rd.other {Bb R : Nat} {a : Option Addr} {l : List UInt8} {w w' : World} {row : Option Nat} (h : Rd Bb R a l w) (hg : w.grownBy w' row) (h1 : some R ≠ row) (h2 : some Bb ≠ row) : Rd Bb R a l w' := by
  refine ⟨(hg.block R h.lt h1).trans h.block, h.plain, fun i hi => ?_⟩
  obtain ⟨b, o, ha, hb, hlt, hc⟩ := h.bytes i hi
  have hbb : b = Bb := (h.plain _ ha).2
  refine ⟨b, o, ha, hb, Nat.lt_of_lt_of_le hlt hg.size, ?_⟩
  rw [World.cell?_of_block (a := ⟨b, o + i, none⟩) (hg.block b hlt (by rw [hbb]; exact h2))]
  exact hc

/-- The elements that were read, in the world: they lie in new blocks that are not the list's own. -/
def Els (base : Nat) (x : Value) (w : World) (els : List VT) : Prop := ∀ t ∈ els, t.In w ∧ ∀ b ∈ t.blocks, base ≤ b ∧ b < w.heap.size ∧ some b ≠ x.ownBlock

theorem Els.nil (base : Nat) (x : Value) (w : World) : Els base x w [] := fun _ h => by cases h

/-- An element is read, and the list grows by it. -/
theorem Els.step {base R : Nat} {x : Value} {els : List VT} {t : VT} {wr w' w1 : World} {o : Obj} {g : Nat} {n c : Nat} (h : Els base x wr els) (hR : R < base) (hx : ∀ k, x.ownBlock = some k → base ≤ k ∧ k < wr.heap.size)
    (hg : wr.grownBy w' (some R)) (hin : t.In w') (hb : ∀ b ∈ t.blocks, wr.heap.size ≤ b ∧ b < w'.heap.size) (hbase : base ≤ wr.heap.size) (hg1 : (w'.alloc o).grownBy w1 x.ownBlock) (hat : x.ownBlock = some g ∨ g = w'.heap.size + 1) :
    Els base (.slice (some ⟨g, 0, none⟩) n c) w1 (els ++ [t]) := by
  have hsz : w'.heap.size + 1 ≤ w1.heap.size := by have := hg1.size; simpa using this
  intro u hu
  rcases List.mem_append.1 hu with hu | hu
  · obtain ⟨hi, hbl⟩ := h u hu
    have key : ∀ b ∈ u.blocks, w1.heap[b]? = wr.heap[b]? := by
      intro b hbm
      obtain ⟨h1, h2, h3⟩ := hbl b hbm
      rw [hg1.block b (by have := hg.size; simp; omega) h3, Below.heap_alloc _ _ _ (by have := hg.size; omega)]
      exact hg.block b h2 (by intro e; injection e with e; omega)
    refine ⟨hi.move key, fun b hbm => ?_⟩
    obtain ⟨h1, h2, h3⟩ := hbl b hbm
    refine ⟨h1, by have := hg.size; omega, ?_⟩
    intro e
    simp [Value.ownBlock] at e
    rcases hat with hat | hat
    · rw [hat, ← e] at h3; exact h3 rfl
    · have := hg.size; omega
  · rw [List.mem_singleton.1 hu]
    have key : ∀ b ∈ t.blocks, w1.heap[b]? = w'.heap[b]? := by
      intro b hbm
      obtain ⟨h1, h2⟩ := hb b hbm
      rw [hg1.block b (by simp; omega) (by intro e; have := hx b e.symm; omega), Below.heap_alloc _ _ _ h2]
    refine ⟨hin.move key, fun b hbm => ?_⟩
    obtain ⟨h1, h2⟩ := hb b hbm
    refine ⟨by omega, by omega, ?_⟩
    intro e
    simp [Value.ownBlock] at e
    rcases hat with hat | hat
    · have := hx g hat; omega
    · omega

set_option maxRecDepth 10000 in
set_option maxHeartbeats 1600000 in
theorem list_zero : ListAt 0 := by
  intro Bb R a l n w hn hr hl
  have hb : (n == 0) = true := by simp [hn]
  clear hn
  go_enter Try.func52, Try.ntmps52
  go_wp2_with fail
  refine ⟨rfl, .inr ⟨rfl, fun t rest hk _ hd _ => ?_⟩, only_refl _ _⟩
  rw [VT.dep_eq, if_pos hk] at hd
  omega

theorem encs_len (l : List VT) : l.length ≤ (VT.enc.encs l).length := by
  induction l with
  | nil => simp
  | cons t r ih =>
    have := List.length_pos_iff.2 (enc_ne t)
    simp only [VT.enc.encs, List.length_append, List.length_cons]
    omega

theorem get_snoc {P : VT → Prop} {l : List VT} {t : VT} (h : ∀ i (h : i < l.length), P l[i]) (ht : P t) : ∀ i (h : i < (l ++ [t]).length), P (l ++ [t])[i] := by
  intro i hi
  rw [List.getElem_append]
  split
  · exact h i _
  · simpa using ht

theorem own_only {w a b : World} {R : Nat} {row : Option Nat} (h : w.grownBy a (some R)) (k : a.grownBy b row) (hr : ∀ k, row = some k → w.heap.size ≤ k) : w.grownBy b (some R) :=
  ⟨k.os.trans h.os, k.tape.trans h.tape, k.output.trans h.output, Nat.le_trans h.size k.size, fun i hi hne =>
    (k.block i (Nat.lt_of_lt_of_le hi h.size) (by intro e; have := hr i e.symm; omega)).trans (h.block i hi hne)⟩

/-- What was collected, as a value. -/
theorem list_end {base d u : Nat} {x : Value} {els : List VT} {wr : World} (hown : wr.ownsRow base 24 4 x u (cellsOf els)) (hu : els.length = u) (hE : Els base x wr els) (hw : VT.wf.wfs els = true) (hd : ∀ i (h : i < els.length), (els[i]).dep ≤ d) (hl : els.length ≤ 1000000000) :
    ∃ t : VT, x = t.sl ∧ t.els = els ∧ t.In wr ∧ t.kind = 3 ∧ t.num = 0 ∧ t.str = ⟨#[]⟩ ∧ t.wf = true ∧ t.dep ≤ d + 1 ∧ ∀ b ∈ t.blocks, base ≤ b ∧ b < wr.heap.size := by
  have hdd := VT.deps_le_of hd
  rcases hown.2 with ⟨rfl, h0⟩ | ⟨g, cap, cur, rfl, hb, hg, hrest⟩
  · have : els = [] := List.eq_nil_of_length_eq_zero (by omega)
    subst this
    refine ⟨.mk 3 0 ⟨#[]⟩ none 0 [], rfl, rfl, VT.In.mk (by simp [VT.kind]) (by simp [VT.num]) (by simp [VT.str, ByteArray.size]) (by simp [VT.els]) (by simp [VT.els]) (by intro i h; simp [VT.els] at h), rfl, rfl, rfl, ?_, ?_, ?_⟩
    · simp [VT.wf, VT.wf.wfs, Lib.toList_data]
    · simp [VT.dep, VT.dep.deps]
    · intro b hb; simp [VT.blocks, VT.blocks.blockss] at hb
  · refine ⟨.mk 3 0 ⟨#[]⟩ (some ⟨g, 0, none⟩) cap els, by rw [← hu]; rfl, rfl, ?_, rfl, rfl, rfl, ?_, ?_, ?_⟩
    · refine VT.In.mk (by simp [VT.kind]) (by simp [VT.num]) (by simp [VT.str, ByteArray.size]) (by simp only [VT.els]; omega) (fun _ => ⟨g, 0, rfl⟩) (fun i h b o e => ?_)
      simp only [VT.adr, Option.some.injEq, Addr.mk.injEq, and_true] at e
      obtain ⟨rfl, rfl⟩ := e
      simp only [VT.els] at h ⊢
      refine ⟨?_, (hE _ (List.getElem_mem h)).1⟩
      have hc : ∀ j, j < 4 → wr.cell? ⟨g, i * 4 + j, none⟩ = (cells4 els[i])[j]? := fun j hj => by
        rw [World.ownsRow.cellAt hown (i * 4 + j) (by omega), cellsOf_get els i h j hj]
      refine ⟨?_, ?_, ?_, ?_⟩
      · simpa [cells4] using hc 0 (by omega)
      · simpa [cells4] using hc 1 (by omega)
      · simpa [cells4] using hc 2 (by omega)
      · simpa [cells4] using hc 3 (by omega)
    · simp [VT.wf, hw, Lib.toList_data]
    · simp [VT.dep]; omega
    · intro b hbm
      rw [VT.blocks_eq] at hbm
      rcases List.mem_append.1 hbm with h | h
      · simp [VT.adr] at h
        subst h
        exact ⟨hb, (Array.getElem?_eq_some_iff.1 hg).1⟩
      · obtain ⟨i, hi, hm⟩ := VT.of_blockss h
        have := (hE _ (List.getElem_mem hi)).2 b hm
        exact ⟨this.1, this.2.1⟩

set_option maxRecDepth 10000 in
set_option maxHeartbeats 1600000 in
theorem list_step (d : Nat) (hd : d ≤ 1000) (ihv : ValueAt d) : ListAt (d + 1) := by
  intro Bb R a l n w hn hr hl
  obtain ⟨i0, hi, hz0, hz1, hz2⟩ := info_parts Try.info24
  have HI := hide (And.intro hi (And.intro hz0 (And.intro hz1 hz2)))
  clear hi hz0 hz1 hz2
  have hb : (n == 0) = false := by simp; omega
  have HN := hide (show n - 1 = d by omega)
  have hn1 : 1 ≤ n := by omega
  have hn2 : n ≤ 1001 := by omega
  have IH := hide ihv
  clear hn ihv
  go_enter Try.func52, Try.ntmps52
  go_wp2_with fail
  refine (numeral_any R a l w hr (by omega)).mono ?_
  rintro e w2 ⟨⟨u, rest, a3, rfl, hu, hlu, hrd3⟩ | ⟨rfl, hno⟩, hg2⟩
  · have HLU := hide hlu
    have hrl : rest.length ≤ 1000000000 := by rw [hlu] at hl; simp at hl; omega
    clear hlu
    have hRb : R < w.heap.size := hr.lt
    have hBb : Bb < w.heap.size := by
      cases l with
      | nil =>
        have := congrArg List.length HLU.out
        have h1 := (numeral_len hu).2.2
        simp at this
        omega
      | cons c l =>
        obtain ⟨b, o, ha, _, hlt, _⟩ := hr.bytes 0 (by simp)
        rw [← (hr.plain _ ha).2]; exact hlt
    go_wp2_with fail
    go_loopw [4, 10] (fun x c wr => ∃ (k : Nat) (els : List VT) (cur : List UInt8) (a' : Option Addr), c = .int .u64 k ∧ k ≤ u ∧ Hid (els.length = k) ∧ Hid (rest = VT.enc.encs els ++ cur) ∧ Hid (VT.wf.wfs els = true) ∧ Hid (∀ i (h : i < els.length), (els[i]).dep ≤ d) ∧ Els w.heap.size x wr els ∧ wr.ownsRow w.heap.size 24 4 x k (cellsOf els) ∧ Rd Bb R a' cur wr ∧ w.grownBy wr (some R)) (fun _ c _ => u - (intOf c).toNat)
    case atStart => exact ⟨0, [], rest, a3, rfl, Nat.zero_le _, rfl, rfl, rfl, fun i h => by simp at h, Els.nil _ _ _, by simpa [cellsOf] using World.ownsRow_nil w2 w.heap.size 24 4, hrd3, hg2⟩
    case round =>
      obtain ⟨k, els, cur, a', rfl, hk, HK, HR, HW, HD, hE, hown, hrd, hg⟩ := hrel
      have hsz := hg.size
      have hkl : k + cur.length ≤ 1000000000 := by
        have h1 := encs_len els
        have h2 := congrArg List.length HR.out
        rw [List.length_append] at h2
        rw [← HK.out]
        omega
      by_cases hlt : k < u
      · have HC := hide (IH.out Bb R a' cur (n - 1) wr HN.out hrd (by omega))
        go_wp2_with fail
        refine HC.out.mono ?_
        rintro e w3 ⟨⟨t, r2, a4, rfl, htin, htw, htd, htb, hcur, hrd4⟩ | ⟨rfl, hno⟩, hg3⟩
        · have HCUR := hide hcur
          have HTW := hide htw
          clear hcur htw
          have hown3 := hide (hown.kept hg3 (by
            by_cases h : u4 = .slice none 0 0
            · left; rw [h]; rfl
            · right; intro e; have := (hown.lt R e).1; omega))
          have hs3 := hg3.size
          go_wp2_with (at_builtin; refine wpList_append_lies _ rfl _ _ 22 rfl w.heap.size 24 i0 _ 4 56 Try.underlying22 HI.out.1 HI.out.2.1 HI.out.2.2.1 HI.out.2.2.2 rfl (by decide) _ _ _ rfl (hown3.out.alloc _) ⟨w3.heap.size, 0, none⟩ 1 1 (cells4 t) rfl rfl (World.news_of_block (cs := (cells4 t).toArray) (t := 24) (fr := (0, 0)) (heap_alloc_new w3 _)) (by simp [Value.oneCell', cells4]) (by omega) (by unfold maxLen; omega) (by omega) (by simp; omega) (w3.heap.size + 1) (by simp) ?_; intro g cap w4 hown4 hg4 hat hlt4)
          have hlen : (els ++ [t]).length = k + 1 := by rw [List.length_append, HK.out]; rfl
          refine ⟨⟨k + 1, els ++ [t], r2, a4, by simp, by omega, hlen, ?_, hide (VT.wfs_iff.2 (get_snoc (P := fun t => t.wf = true) (VT.wfs_iff.1 HW.out) HTW.out)), hide (get_snoc (P := fun t => t.dep ≤ d) HD.out htd), Els.step hE hRb (fun k' h => hown.lt k' h) hg3 htin htb hsz hg4 hat, ?_, ?_, ?_⟩, by simp [intOf]; omega⟩
          · show rest = _
            rw [HR.out, HCUR.out, VT.encs_snoc, List.append_assoc]
          · rw [cellsOf_snoc]; exact hown4
          · exact (hrd4.alloc _).other hg4 (by intro e; have := (hown.lt R e.symm).1; omega) (by intro e; have := (hown.lt Bb e.symm).1; omega)
          · exact own_only (only_alloc (only_trans hg hg3) _) hg4 (fun k' h => (hown.lt k' h).1)
        · go_wp2_with fail
          refine ⟨rfl, .inr ⟨rfl, fun t r hk3 hw hdp hf h => ?_⟩, only_trans hg hg3⟩
          rw [HLU.out, List.append_assoc] at h
          have hf' := hf
          rw [VT.fits_eq] at hf'
          obtain ⟨hu2, hr2⟩ := numeral_prefix hu (by have := hf'.2.2.1; omega) h
          rw [HR.out] at hr2
          have hwf : VT.wf.wfs t.els = true := by
            rcases VT.wf_kind hw with ⟨k, _⟩ | ⟨k, _⟩ | ⟨k, _, _, w0⟩
            · omega
            · omega
            · exact w0
          have hlt2 : els.length < t.els.length := by rw [HK.out]; omega
          have hc := VT.encs_rest hlt2 HW.out hwf (VT.fitss_of fun i hi => VT.In.fits _ (Nat.le_refl _) (hE _ (List.getElem_mem hi)).1) hf'.2.2.2 hr2
          have hdd : (t.els[els.length]).dep ≤ d := by
            have h1 := VT.deps_get hlt2
            rw [VT.dep_eq, if_pos hk3] at hdp
            omega
          exact hno _ _ (VT.wfs_iff.1 hwf _ hlt2) hdd (VT.fitss_iff.1 hf'.2.2.2 _ hlt2) hc
      · obtain rfl : k = u := by omega
        go_wp2_with fail
        go_ret
        obtain ⟨t, ht, he, hin, hk3, hn0, hs0, hw, hdp, hbl⟩ := list_end hown HK.out hE HW.out HD.out (by have := HK.out; omega)
        exact ⟨.inl ⟨t, cur, a', by rw [← ht]; rfl, hin, hk3, hn0, hs0, hw, hdp, hbl, by rw [he, HK.out, HLU.out, HR.out]; simp, hrd⟩, hg⟩
  · go_wp2_with fail
    exact ⟨rfl, .inr ⟨rfl, fun t r _ _ _ hf h => by rw [VT.fits_eq] at hf; exact hno t.els.length (VT.enc.encs t.els ++ r) (by have := hf.2.2.1; omega) (by rw [h, List.append_assoc])⟩, hg2⟩
theorem list_enc {t : VT} (hk : t.kind = 3) : t.enc = 3 :: (numeral t.els.length ++ VT.enc.encs t.els) := by rw [VT.enc_eq, if_neg (by omega), if_neg (by omega)]

set_option maxRecDepth 10000 in
set_option maxHeartbeats 1600000 in
theorem value_list (d : Nat) (_hd : d ≤ 1000) (ihl : ListAt d) {Bb : Nat} (R : Nat) (a : Option Addr) (c : UInt8) (l : List UInt8) (n : Int) (w : World) (hn : n = d) (hr : Rd Bb R a (c :: l) w) (hl : (c :: l).length ≤ 1000000000) (h1 : c.toNat = 3) :
    Calls Try.prog 35 #[.pointer (some ⟨R, 0, none⟩), .int .i64 n] w (ValuePost Bb R d (c :: l) w) := by
  have hr4 := hr.alloc (.cells #[.int .i64 0, .int .i64 0, .string ⟨#[]⟩, .slice none 0 0] 24)
  have HC := hide (take_1 R a c l _ hr4 (by omega))
  have b1 : ((c.toNat : Int) == 1) = false := by simp; omega
  have b2 : ((c.toNat : Int) == 2) = false := by simp; omega
  have b3 : ((c.toNat : Int) == 3) = true := by simp; omega
  have HK := hide h1
  have hRX : w.heap.size ≠ R := by have := hr.lt; omega
  have HX := hide (show ResB (w.alloc (.cells #[.int .i64 0, .int .i64 0, .string ⟨#[]⟩, .slice none 0 0] 24)) w.heap.size from heap_alloc_new w _)
  have hl2 : l.length ≤ 1000000000 := by simp at hl; omega
  have HN := hide hn
  have IH := hide ihl
  clear h1 hn ihl
  go_enter Try.func35, Try.ntmps35
  go_wp2_with fail
  refine HC.out.mono ?_
  rintro e w1 ⟨b, o, rfl, hcell, ⟨a2, hrd2⟩, hg1⟩
  go_wp2_with fail
  refine (IH.out Bb R a2 l n w1 HN.out hrd2 hl2).mono ?_
  rintro e w2 ⟨⟨t, rest, a3, rfl, htin, hk3, hn0, hs0, htw, htd, htb, hlu, hrd3⟩ | ⟨rfl, hno⟩, hg2⟩
  · have hX2 := hide ((HX.out.only hg1 hRX).only hg2 hRX)
    obtain ⟨⟨x0, x1, x2, x3⟩, xf⟩ := hX2.out.cells
    have HT := hide (And.intro hk3 (And.intro hn0 (And.intro hs0 (And.intro htw hlu))))
    have hs1 : w.heap.size + 1 ≤ w1.heap.size := by have := hg1.size; simpa using this
    clear hk3 hn0 hs0 htw hlu
    go_wp2_with fail
    refine bodyPost_ret (v := .agg #[.int .i64 3, .int .i64 0, .string ⟨#[]⟩, t.sl]) (by simp [results, Try.results35, go_sem, x0, x1, x2, x3]) rfl ?_
    obtain ⟨hk3, hn0, hs0, htw, hlu⟩ := HT.out
    refine ⟨.inl ⟨t, rest, a3, by rw [VT.val, hk3, hn0, hs0], ?_, htw, htd, ?_, ?_, ?_⟩, ?_⟩
    · exact htin.move fun b hb => put4_block _ _ _ _ _ _ _ (by have := (htb b hb).1; omega)
    · intro b hb; rw [put4_size]; have := htb b hb; exact ⟨by omega, this.2⟩
    · rw [list_enc hk3, hlu, byte_eq (n := 3) HK.out]; simp
    · exact hrd3.put4 hX2.out hRX _ _ _ _
    · exact put4_only (only_trans (only_trans (only_alloc (only_refl _ _) _) hg1) hg2) (Nat.le_refl _) _ _ _ _
  · go_wp2_with fail
    refine ⟨rfl, .inr ⟨rfl, fun t r hw hdp hf h => ?_⟩, only_trans (only_trans (only_alloc (only_refl _ _) _) hg1) hg2⟩
    have hk := cons_enc hw h
    rw [HK.out] at hk
    have hk3 : t.kind = 3 := by simpa using hk
    rw [list_enc hk3] at h
    simp at h
    exact hno t r hk3 hw hdp hf (by rw [h.2, List.append_assoc])

theorem value_at (d : Nat) (hd : d ≤ 1000) (ihl : ListAt d) : ValueAt d := by
  intro Bb R a l n w hn hr hl
  cases l with
  | nil => exact value_nil R d a n w hr
  | cons c l =>
    by_cases h1 : c.toNat = 1
    · exact value_int R d a c l n w hr hl h1
    · by_cases h2 : c.toNat = 2
      · exact value_text R d a c l n w hr hl h2
      · by_cases h3 : c.toNat = 3
        · exact value_list d hd ihl R a c l n w hn hr hl h3
        · exact value_other R d a c l n w hr hl h1 h2 h3

theorem value_all (d : Nat) : d ≤ 1000 → ValueAt d := by
  induction d with
  | zero => exact fun h => value_at 0 h list_zero
  | succ d ih => exact fun h => value_at (d + 1) h (list_step d (by omega) (ih (by omega)))
end Go.Proofs.Ytccdencaidopnaa
