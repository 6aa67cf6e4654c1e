/- The record of the reference: what it is step by step. -/
import Derived.Test.YtgigccgklahddaaGod
import Derived.Test.YtgigccgklahddaaRgd
import Derived.Test.YtgigccgklahddaaOpe
import Derived.Test.YtgigccgklahddaaJsm
namespace Go.Proofs.Ytgigccgklahddaa
open Go.RowKit

theorem read_facts {s : List UInt8} {k : Nat} {p : Piece} (h : readB s k = some p) (hs : s.length = 128) : p.data.length ≤ 112 ∧ (p.ends = true ∨ p.data.length = 112) ∧ (p.begins = true ∨ 0 < p.data.length) := by
  unfold readB at h
  simp only at h
  split at h
  · rename_i hc
    injection h with h
    subst h
    have hl : ((s.drop 12).take (s.getD 11 0).toNat).length = (s.getD 11 0).toNat := by rw [List.length_take, List.length_drop]; omega
    simp only [hl]
    exact ⟨hc.1, hc.2.2.1, hc.2.2.2.1⟩
  · cases h
theorem secN_pieces {n m : Nat} (h1 : m ≤ 112) (h2 : n = 0 ∨ 0 < m) : secN (112 * n + m) = n + 1 := by unfold secN; omega
theorem read_nil (k : Nat) : readB [] k = none := by
  unfold readB
  simp only
  rw [if_neg]
  intro h
  exact h.2.1 (by decide)
theorem recB_end {ss : List (List UInt8)} {k : Nat} (h : ss.length ≤ k) : recB ss k = none := by
  unfold recB
  rw [List.getD_eq_getElem?_getD, List.getElem?_eq_none h, Option.getD_none, read_nil]
/-- What has been read of a record. -/
structure RecSo (ss : List (List UInt8)) (k n : Nat) (acc : List UInt8) (g : Nat) : Prop where
  pos : 0 < n
  len : acc.length = 112 * n
  eq : recB ss k = (contB ss g (ss.length - (k + n)) (k + n) acc).map fun b => (b, g)
section
variable {ss : List (List UInt8)} {k n g : Nat} {acc : List UInt8} {p : Piece}
theorem rec_start_no (h : readB (ss.getD k []) k = none) : recB ss k = none := by unfold recB; rw [h]
theorem rec_start_even (h : readB (ss.getD k []) k = some p) (hb : p.begins = false) : recB ss k = none := by
  unfold recB
  rw [h]
  simp only [hb, if_true]
theorem rec_start_ends (h : readB (ss.getD k []) k = some p) (hb : p.begins = true) (he : p.ends = true) : recB ss k = some (p.data, p.gen) := by
  unfold recB
  rw [h]
  simp [hb, he]
theorem rec_start_so (h : readB (ss.getD k []) k = some p) (hb : p.begins = true) (he : p.ends = false) (hl : p.data.length = 112) : RecSo ss k 1 p.data p.gen := by
  refine ⟨by omega, by omega, ?_⟩
  conv => lhs; unfold recB
  rw [h]
  simp [hb, he]
theorem cont_step (hlt : k + n < ss.length) : contB ss g (ss.length - (k + n)) (k + n) acc = (match readB (ss.getD (k + n) []) (k + n) with
    | none => none
    | some q => if q.begins = true ∨ q.gen ≠ g then none else if q.ends = true then some (acc ++ q.data) else contB ss g (ss.length - (k + (n + 1))) (k + (n + 1)) (acc ++ q.data)) := by
  rw [show ss.length - (k + n) = (ss.length - (k + (n + 1))) + 1 by omega]
  rfl
theorem rec_more_no (hr : RecSo ss k n acc g) (hlt : k + n < ss.length) (h : readB (ss.getD (k + n) []) (k + n) = none) : recB ss k = none := by
  rw [hr.eq, cont_step hlt, h]
  rfl
theorem rec_more_bad (hr : RecSo ss k n acc g) (hlt : k + n < ss.length) (h : readB (ss.getD (k + n) []) (k + n) = some p) (hb : p.begins = true ∨ p.gen ≠ g) : recB ss k = none := by
  rw [hr.eq, cont_step hlt, h]
  simp only [if_pos hb]
  rfl
theorem rec_more_ends (hr : RecSo ss k n acc g) (hlt : k + n < ss.length) (h : readB (ss.getD (k + n) []) (k + n) = some p) (hb : p.begins = false) (hg : p.gen = g) (he : p.ends = true) : recB ss k = some (acc ++ p.data, g) := by
  rw [hr.eq, cont_step hlt, h]
  simp [hb, hg, he]
theorem rec_more_so (hr : RecSo ss k n acc g) (hlt : k + n < ss.length) (h : readB (ss.getD (k + n) []) (k + n) = some p) (hb : p.begins = false) (hg : p.gen = g) (he : p.ends = false) (hl : p.data.length = 112) : RecSo ss k (n + 1) (acc ++ p.data) g := by
  refine ⟨by omega, by rw [List.length_append, hr.len, hl]; omega, ?_⟩
  rw [hr.eq, cont_step hlt, h]
  simp [hb, hg, he]
theorem rec_more_end (hr : RecSo ss k n acc g) (h : ss.length ≤ k + n) : recB ss k = none := by
  rw [hr.eq, show ss.length - (k + n) = 0 by omega]
  rfl
theorem rec_gen {d : List UInt8} {h : Nat} (hr : recB ss k = some (d, h)) : ∃ p, readB (ss.getD k []) k = some p ∧ p.gen = h := by
  unfold recB at hr
  cases hq : readB (ss.getD k []) k with
  | none => rw [hq] at hr; cases hr
  | some p =>
    refine ⟨p, rfl, ?_⟩
    rw [hq] at hr
    simp only at hr
    split at hr
    · cases hr
    · split at hr
      · injection hr with hr
        injection hr with _ hr
      · cases hc : contB ss p.gen (ss.length - (k + 1)) (k + 1) p.data with
        | none => rw [hc] at hr; cases hr
        | some b =>
          rw [hc] at hr
          injection hr with hr
          injection hr with _ hr
theorem read_len (hL : ∀ s ∈ ss, s.length = 128) {i : Nat} (h : readB (ss.getD i []) i = some p) : (ss.getD i []).length = 128 := by
  by_cases hi : i < ss.length
  · rw [List.getD_eq_getElem?_getD, List.getElem?_eq_getElem hi]
    exact hL _ (List.getElem_mem hi)
  · rw [List.getD_eq_getElem?_getD, List.getElem?_eq_none (by omega)] at h
    simp only [Option.getD_none, read_nil] at h
    cases h
theorem cont_fits (hL : ∀ s ∈ ss, s.length = 128) : ∀ (f k m : Nat) (acc : List UInt8) {b : List UInt8}, acc.length = 112 * m → contB ss g f k acc = some b → secN b.length ≤ m + f
  | 0, k, m, acc, b, _, h => by cases h
  | f + 1, k, m, acc, b, ha, h => by
    unfold contB at h
    cases hq : readB (ss.getD k []) k with
    | none => rw [hq] at h; cases h
    | some q =>
      rw [hq] at h
      obtain ⟨f1, f2, f3⟩ := read_facts hq (read_len hL hq)
      simp only at h
      split at h
      · cases h
      · next hc =>
        have hb : q.begins ≠ true := fun e => hc (.inl e)
        split at h
        · injection h with h
          subst h
          rw [List.length_append, ha, secN_pieces f1 (.inr (f3.resolve_left hb))]
          omega
        · next he =>
          have := cont_fits hL f (k + 1) (m + 1) (acc ++ q.data) (by rw [List.length_append, ha, f2.resolve_left he]; omega) h
          omega
theorem rec_fits (hL : ∀ s ∈ ss, s.length = 128) {d : List UInt8} {h : Nat} (hr : recB ss k = some (d, h)) : k + secN d.length ≤ ss.length := by
  have hk : k < ss.length := by
    rcases Nat.lt_or_ge k ss.length with h | h
    · exact h
    · rw [recB_end h] at hr; cases hr
  unfold recB at hr
  cases hq : readB (ss.getD k []) k with
  | none => rw [hq] at hr; cases hr
  | some p =>
    rw [hq] at hr
    obtain ⟨f1, f2, f3⟩ := read_facts hq (read_len hL hq)
    simp only at hr
    split at hr
    · cases hr
    · split at hr
      · injection hr with hr
        injection hr with hr _
        subst hr
        have := secN_pieces (n := 0) f1 (.inl rfl)
        rw [Nat.mul_zero, Nat.zero_add] at this
        omega
      · next he =>
        cases hc : contB ss p.gen (ss.length - (k + 1)) (k + 1) p.data with
        | none => rw [hc] at hr; cases hr
        | some b =>
          rw [hc] at hr
          injection hr with hr
          injection hr with hr _
          subst hr
          have := cont_fits hL _ _ 1 p.data (by rw [f2.resolve_left he]) hc
          omega
end
end Go.Proofs.Ytgigccgklahddaa

/- record of the reference. -/
namespace Go.Proofs.Ytgigccgklahddaa
open Go.RowKit
variable {n0 : Nat}

/-- What record answers. -/
def RRec (w : World) : Option (List UInt8 × Nat) → Ending → World → Prop
  | none, e, w' => e = .returned (.tuple #[.slice none 0 0, .int .i64 0]) ∧ Below w.heap.size w w'
  | some (l, _), e, w' => ∃ A c, e = .returned (.tuple #[.slice A l.length c, .int .i64 (secN l.length : Nat)]) ∧ w'.ownsRow w.heap.size 5 1 (.slice A l.length c) l.length (bs l) ∧ Below w.heap.size w w'
theorem RRec.no {w w' : World} {x : Option (List UInt8 × Nat)} (hx : x = none) (hb : Below w.heap.size w w') : RRec w x (.returned (.tuple #[.slice none 0 0, .int .i64 0])) w' := by
  subst hx
  exact ⟨rfl, hb⟩
theorem RRec.yes {w w' : World} {x : Option (List UInt8 × Nat)} {l : List UInt8} {g c m : Nat} {n : Int} {A : Option Addr} (hx : x = some (l, g)) (hn : ((secN l.length : Nat) : Int) = n) (hm : l.length = m) (ho : w'.ownsRow w.heap.size 5 1 (.slice A m c) m (bs l)) (hb : Below w.heap.size w w') : RRec w x (.returned (.tuple #[.slice A m c, .int .i64 n])) w' := by
  subst hx hn hm
  exact ⟨A, c, rfl, ho, hb⟩
/-- What has been read, as the loop has it. -/
def SoFar (ss : List (List UInt8)) (k n : Nat) (acc : List UInt8) (g : Nat) : Prop := (n = 0 ∧ acc = []) ∨ RecSo ss k n acc g

set_option maxRecDepth 100000 in
set_option maxHeartbeats 12800000 in
theorem rrecord_any (A : Option Addr) (ss : List Sec) (cap k : Nat) (w : World) (hi : SecsIn n0 A ss cap w) (hl : ∀ i (h : i < ss.length), (ss[i]).l.length = 128) (hn : ss.length ≤ 4096) (hk : k ≤ ss.length) :
    Calls Try.prog 60 #[.slice A ss.length cap, .int .i64 k] w (RRec w (recB (secD ss) k)) := by
  have HI := hide hi
  have HL := hide hl
  have HSL := hide (secD_len ss)
  have HGD := hide (show ∀ i (h : i < ss.length), (secD ss).getD i [] = (ss[i]).l from fun i h => by rw [List.getD_eq_getElem?_getD, List.getElem?_eq_getElem (by rw [secD_len]; exact h), secD_get]; rfl)
  obtain ⟨i5, hi5⟩ := hinfo5
  have HI5 := hide hi5
  clear hi hl hi5
  have HO0 := hide (own_empty w w.heap.size 5 1 (Nat.le_refl _))
  have HB0 := hide (below_new w (.cells #[] 5))
  go_enter Try.func60, Try.ntmps60
  go_wp2_with fail
  go_loopw [6, 7] (fun v i wr => ∃ (n c g : Nat) (B : Option Addr) (acc : List UInt8), k + n ≤ ss.length ∧ i = .int .i64 n ∧ v = .slice B acc.length c ∧ Hid (wr.ownsRow w.heap.size 5 1 (.slice B acc.length c) acc.length (bs acc)) ∧ Hid (Below w.heap.size w wr) ∧ Hid (SoFar (secD ss) k n acc g) ∧ (0 < n → g = numB (((secD ss).getD k []).take 4))) (fun _ i _ => ss.length - (intOf i).toNat)
  case atStart => exact ⟨0, 0, 0, some ⟨w.heap.size, 0, none⟩, [], by omega, rfl, rfl, HO0, HB0, hide (.inl ⟨rfl, rfl⟩), fun h => absurd h (by omega)⟩
  case round =>
    obtain ⟨n, c, g, B, acc, hkn, rfl, rfl, HOWN, HBW, HSO, hg⟩ := hrel
    clear HO0 HB0
    by_cases hlt : k + n < ss.length
    · have hlt' : (k : Int) + (n : Int) < ss.length := by omega
      have HGS := hide hg
      have hkl : k < ss.length := by omega
      have hki : (k : Int) < ss.length := by omega
      obtain ⟨ba, oa, rfl, hba, hca⟩ := HI.out.at hlt
      have hck := HI.out.at hkl
      obtain ⟨ba', oa', hA', -, hck⟩ := hck
      obtain ⟨rfl, rfl⟩ : ba = ba' ∧ oa = oa' := by injection hA' with e; injection e with e1 e2; exact ⟨e1, e2⟩
      have hca' := (HBW.out.cell (p := ⟨ba, oa + (k + n), none⟩) hba).trans hca
      replace hck := (HBW.out.cell (p := ⟨ba, oa + k, none⟩) hba).trans hck
      clear hA' hca
      have hs : (ss[k + n]).l.length = 128 := HL.out _ hlt
      have hs0 : (ss[k]).l.length = 128 := HL.out _ hkl
      have HSI := hide (HI.out.each _ (List.getElem_mem hlt))
      have HSK := hide (HI.out.each _ (List.getElem_mem hkl))
      have HRD := hide (HGD.out (k + n) hlt)
      have HKD := hide (HGD.out k hkl)
      rw [HGD.out k hkl] at HGS
      clear hg
      generalize ss[k] = sk at *
      generalize ss[k + n] = s at *
      obtain ⟨sA, sl, sc⟩ := s
      obtain ⟨kA, kl, kc⟩ := sk
      replace hs : sl.length = 128 := hs
      replace hs0 : kl.length = 128 := hs0
      have hsc : 128 ≤ sc := by have := HSI.out.le; simp only [hs] at this; exact this
      have hsc2 : sc ≤ 9223372036854775807 := HSI.out.cap
      have hkc : 128 ≤ kc := by have := HSK.out.le; simp only [hs0] at this; exact this
      obtain ⟨bb, oo, hsA, hbb, hcs⟩ := HSI.out.cels.at (k := 0) (by rw [bs_len]; simp only; omega)
      obtain ⟨bk, ok, hkA, hbk, hcsk⟩ := HSK.out.cels.at (k := 0) (by rw [bs_len]; simp only; omega)
      simp only at hsA hkA
      subst hsA hkA
      have HCW := hide (show ∀ W, Below w.heap.size w W → ∀ i (h : i < sl.length), W.cell? ⟨bb, oo + i, none⟩ = some (.int .u8 (sl[i].toNat : Nat)) from fun W hW i h => by rw [hW.cell (p := ⟨bb, oo + i, none⟩) hbb, hcs i (by rw [bs_len]; exact h), bs_get])
      have HCELL := hide (HCW.out wr HBW.out)
      have HCELK := hide (show ∀ i (h : i < kl.length), wr.cell? ⟨bk, ok + i, none⟩ = some (.int .u8 (kl[i].toNat : Nat)) from fun i h => by rw [HBW.out.cell (p := ⟨bk, ok + i, none⟩) hbk, hcsk i (by rw [bs_len]; exact h), bs_get])
      clear hcs hcsk HSI HSK
      simp only [Sec.v, hs, hs0] at hca' hck
      have HG := hide (show ∀ m, Calls Try.prog 72 #[.slice (some ⟨bb, oo, none⟩) 128 sc, .int .i64 ((k : Int) + (n : Int))] (wr.drewN m) fun e w' => e = .returned (.bool (readB sl (k + n)).isSome) ∧ ∃ q, w' = (wr.drewN m).drewN q from fun m => by
        have := rgood_any bb oo sc sl (k + n) (wr.drewN m) hs hsc hsc2 (by omega) (fun i h => HCELL.out i h)
        rwa [Int.natCast_add] at this)
      have H1 := hide (show ∀ m, Calls Try.prog 61 #[.slice (some ⟨bb, oo, none⟩) 4 sc] (wr.drewN m) fun e w' => e = .returned (.int .u64 (numB (sl.take 4) : Nat)) ∧ w' = wr.drewN m from fun m => rnumber_any bb oo 4 sc (sl.take 4) (wr.drewN m) (fun i h => by rw [List.length_take] at h; have := HCELL.out i (by omega); simpa using this) (by rw [List.length_take]; omega) (by omega))
      have H2 := hide (show ∀ m, Calls Try.prog 61 #[.slice (some ⟨bk, ok, none⟩) 4 kc] (wr.drewN m) fun e w' => e = .returned (.int .u64 (numB (kl.take 4) : Nat)) ∧ w' = wr.drewN m from fun m => rnumber_any bk ok 4 kc (kl.take 4) (wr.drewN m) (fun i h => by rw [List.length_take] at h; have := HCELK.out i (by omega); simpa using this) (by rw [List.length_take]; omega) (by omega))
      have c10 : wr.cell? ⟨bb, oo + 10, none⟩ = some (.int .u8 ((sl.getD 10 0).toNat : Nat)) := by
        rw [HCELL.out 10 (by omega), List.getD_eq_getElem?_getD, List.getElem?_eq_getElem (by omega)]; rfl
      have c11 : wr.cell? ⟨bb, oo + 11, none⟩ = some (.int .u8 ((sl.getD 11 0).toNat : Nat)) := by
        rw [HCELL.out 11 (by omega), List.getD_eq_getElem?_getD, List.getElem?_eq_getElem (by omega)]; rfl
      have hv10 : (sl.getD 10 0).toNat < 256 := (sl.getD 10 0).toNat_lt
      have hv11 : (sl.getD 11 0).toNat < 256 := (sl.getD 11 0).toNat_lt
      have HBq := hide (fun q => below_drewN HBW.out q)
      have i4 : (4 : Int) ≤ (sc : Int) := by omega
      have i4k : (4 : Int) ≤ (kc : Int) := by omega
      have n12' : ¬ sc = 12 := by omega
      have hwkn : IntKind.i64.wrap ((k : Int) + (n : Int)) = (k : Int) + (n : Int) := wrap_i64 _ (by omega) (by omega)
      cases hq : readB sl (k + n) with
      | none =>
        have HX : Hid (recB (secD ss) k = none) := hide (by
          rcases HSO.out with ⟨rfl, _⟩ | hso
          · exact rec_start_no (by rw [← hq]; exact congrArg (readB · k) HRD.out)
          · exact rec_more_no hso (by rw [secD_len]; exact hlt) (by rw [HRD.out]; exact hq))
        rw [hq] at HG
        simp only [Option.isSome_none] at HG
        clear hq HGS HSO HRD HCELL HCELK HOWN 
        go_wp2_with fail
        go_quiet (first | (go_at_call 72; with_reducible refine Calls.quiet_of (HG.out _)) | (go_at_call 61; first | (with_reducible refine Calls.quiet_of_same (H1.out _)) | (with_reducible refine Calls.quiet_of_same (H2.out _))))
        go_wp2_with fail
        refine bodyPost_ret (v := .tuple #[.slice none 0 0, .int .i64 0]) (by simp [results, Try.results60, go_sem]) rfl ?_
        exact RRec.no HX.out (HBq.out _)
      | some p =>
        have HGP := (read_good hs (show k + n < 65536 by omega)).1 (by rw [hq]; rfl)
        obtain rfl : p = _ := Option.some.inj (hq.symm.trans (read_is HGP hs (by omega)))
        have hlen : ((sl.drop 12).take (sl.getD 11 0).toNat).length = (sl.getD 11 0).toNat := by rw [List.length_take, List.length_drop]; have := HGP.len; omega
        have hq' : readB ((secD ss).getD (k + n) []) (k + n) = some ⟨decide ((sl.getD 10 0).toNat % 2 = 1), decide (2 ≤ (sl.getD 10 0).toNat), (sl.drop 12).take (sl.getD 11 0).toNat, numB (sl.take 4)⟩ := by rw [HRD.out]; exact hq
        rw [hq] at HG
        simp only [Option.isSome_some] at HG
        have HQ := hide hq'
        have HLN := hide hlen
        have hfull := HGP.full
        have hmore := HGP.more
        have hv3 := HGP.kind
        have hv112 := HGP.len
        have hltS : k + n < (secD ss).length := by rw [secD_len]; exact hlt
        have HNEW := hide (show ∀ W, Below w.heap.size w W → ∀ ad, some (⟨bb, oo + 12, none⟩ : Addr) = some ad → ∀ i u, (bs ((sl.drop 12).take (sl.getD 11 0).toNat))[i]? = some u → W.cell? (ad.add i) = some u from fun W hW ad e i u hu => by
          injection e with e
          subst e
          obtain ⟨hi, rfl⟩ := List.getElem?_eq_some_iff.1 hu
          have hi2 := hi
          rw [bs_len, hlen] at hi2
          rw [Addr.add_mid, Nat.add_assoc, HCW.out W hW (12 + i) (by omega), bs_get]
          simp)
        have htm : (((sl.getD 10 0).toNat : Nat) : Int).tmod 2 = (((sl.getD 10 0).toNat : Nat) : Int) % 2 := Int.tmod_eq_emod_of_nonneg (by omega)
        have HC10 := hide (show ∀ W, Below w.heap.size w W → W.cell? ⟨bb, oo + 10, none⟩ = some (.int .u8 ((sl.getD 10 0).toNat : Nat)) from fun W hW => by
          rw [HCW.out W hW 10 (by omega), List.getD_eq_getElem?_getD, List.getElem?_eq_getElem (by omega)]; rfl)
        have HGE0 := hide (show n = 0 → numB (sl.take 4) = numB (((secD ss).getD k []).take 4) from fun h => by have := HRD.out; rw [h, Nat.add_zero] at this; rw [this])
        have HGK := hide (show numB (kl.take 4) = numB (((secD ss).getD k []).take 4) by rw [HKD.out])
        have HC11 := hide (show ∀ W, Below w.heap.size w W → W.cell? ⟨bb, oo + 11, none⟩ = some (.int .u8 ((sl.getD 11 0).toNat : Nat)) from fun W hW => by
          rw [HCW.out W hW 11 (by omega), List.getD_eq_getElem?_getD, List.getElem?_eq_getElem (by omega)]; rfl)
        clear hq hq' hlen HGP HRD HCELL HCELK HCW
        generalize hD : (sl.drop 12).take (sl.getD 11 0).toNat = D at *
        generalize (sl.getD 10 0).toNat = v10 at *
        generalize (sl.getD 11 0).toNat = v11 at *
        clear hD
        generalize numB (sl.take 4) = g1 at *
        have HSOC := HSO.out
        by_cases hn0 : n = 0
        · have en : ((n : Int) == 0) = true := beq_iff_eq.2 (by omega)
          have en2 : decide (0 < n) = false := decide_eq_false (by omega)
          have hacc0 : acc = [] := by
            rcases HSOC with ⟨_, h⟩ | h
            · exact h
            · exact absurd h.pos (by omega)
          have HQ0 := hide (show readB ((secD ss).getD k []) k = some ⟨decide (v10 % 2 = 1), decide (2 ≤ v10), D, g1⟩ by have := HQ.out; rwa [hn0, Nat.add_zero] at this)
          by_cases hb1 : v10 % 2 = 1
          · have e1 : (((v10 : Nat) : Int) % 2 == 1) = true := beq_iff_eq.2 (by omega)
            have HEND : Hid (2 ≤ v10 → recB (secD ss) k = some (acc ++ D, g1)) := hide (fun h => by rw [hacc0]; exact rec_start_ends HQ0.out (decide_eq_true hb1) (decide_eq_true h))
            have HNXT : Hid (¬ 2 ≤ v10 → RecSo (secD ss) k (n + 1) (acc ++ D) g1) := hide (fun h => by
              rw [hn0, hacc0]
              exact rec_start_so HQ0.out (decide_eq_true hb1) (decide_eq_false h) (by show D.length = 112; rw [HLN.out]; omega))
            have HGE : Hid (g1 = numB (((secD ss).getD k []).take 4)) := hide (HGE0.out hn0)
            have HSN : Hid (secN (acc ++ D).length = n + 1) := hide (by
              have := secN_pieces (n := 0) (m := D.length) (by rw [HLN.out]; exact hv112) (.inl rfl)
              rw [hacc0, List.nil_append, hn0]
              simpa using this)
            have hacc : acc.length ≤ 458752 := by rw [hacc0]; simp
            clear hacc0 hn0 hb1 HQ HQ0 HSOC HSO HGS hfull hmore HGE0 HGK
            have hle12 : (12 : Int) ≤ 12 + (v11 : Int) := by omega
            have hle13 : (12 : Int) + (v11 : Int) ≤ (sc : Int) := by omega
            have hle14 : (12 : Int) + (v11 : Int) ≤ 128 := by omega
            go_wp2_with fail
            go_quiet (first | (go_at_call 72; with_reducible refine Calls.quiet_of (HG.out _)) | (go_at_call 61; first | (with_reducible refine Calls.quiet_of_same (H1.out _)) | (with_reducible refine Calls.quiet_of_same (H2.out _))))
            have HOQ := hide (own_later HOWN.out (below_dn _ wr nq))
            have HBQ := hide (HBq.out nq)
            have HNQ := hide (HNEW.out _ HBQ.out)
            have HNL := hide (show (bs D).length = (12 + v11 - 12) * 1 by rw [bs_len, HLN.out]; omega)
            have hzq := HBQ.out.size
            have c11q := HC11.out _ HBQ.out
            clear HBW HOWN HBq HG H1 H2 c10 c11 HC11 
            generalize wr.drewN nq = wq at *
            have HOL : Hid (∀ (W : World) (A2 : Option Addr) (cap2 : Nat), W.ownsRow w.heap.size 5 1 (.slice A2 (acc.length + v11) cap2) (acc.length + v11) (bs acc ++ bs D) → W.ownsRow w.heap.size 5 1 (.slice A2 (acc ++ D).length cap2) (acc ++ D).length (bs (acc ++ D))) := hide (fun W A2 cap2 h => by
              rw [List.length_append, HLN.out, bs_app]
              exact h)
            by_cases he : 2 ≤ v10
            · have dge : decide (2 ≤ v10) = true := decide_eq_true he
              have HX := hide (HEND.out he)
              have dge2 : decide ((2 : Int) ≤ (v10 : Int)) = true := decide_eq_true (by omega)
              clear HEND HNXT
              go_wp2_with (at_builtin; refine wpList_app rfl (.tmp 56) (.tmp 63) 35 rfl w.heap.size 5 i5 _ 1 1 Try.underlying35 HI5.out rfl (by omega) _ (acc).length (bs (acc)) rfl HOQ.out (some ⟨bb, oo + 12, none⟩) (12 + v11 - 12) (sc - 12) (bs D) rfl (fun h => by cases h) HNL.out HNQ.out (bs_one _) (by unfold maxLen; omega) (by omega) hzq ?_; intro A2 cap2 w2 hown hg; rw [Nat.add_sub_cancel_left] at hown ⊢; have HO2 := hide hown; have HB2 := hide (below_app HBQ.out HOQ.out hg (Nat.le_refl _) hzq); have c10' := HC10.out w2 HB2.out; clear hown hg)
              refine bodyPost_ret (v := .tuple #[.slice A2 (acc.length + v11) cap2, .int .i64 ((n : Int) + 1)]) (by simp [results, Try.results60, go_sem]) rfl ?_
              refine RRec.yes HX.out (by rw [HSN.out]; omega) (by rw [List.length_append, HLN.out]) ?_ HB2.out
              have := HOL.out _ _ _ HO2.out
              rwa [List.length_append, HLN.out] at this
            · have dge : decide (2 ≤ v10) = false := decide_eq_false he
              have HX := hide (HNXT.out he)
              have dge2 : decide ((2 : Int) ≤ (v10 : Int)) = false := decide_eq_false (by omega)
              clear HEND HNXT
              go_wp2_with (at_builtin; refine wpList_app rfl (.tmp 56) (.tmp 63) 35 rfl w.heap.size 5 i5 _ 1 1 Try.underlying35 HI5.out rfl (by omega) _ (acc).length (bs (acc)) rfl HOQ.out (some ⟨bb, oo + 12, none⟩) (12 + v11 - 12) (sc - 12) (bs D) rfl (fun h => by cases h) HNL.out HNQ.out (bs_one _) (by unfold maxLen; omega) (by omega) hzq ?_; intro A2 cap2 w2 hown hg; rw [Nat.add_sub_cancel_left] at hown ⊢; have HO2 := hide hown; have HB2 := hide (below_app HBQ.out HOQ.out hg (Nat.le_refl _) hzq); have c10' := HC10.out w2 HB2.out; clear hown hg)
              go_roundw
              case rel => exact ⟨n + 1, cap2, g1, A2, acc ++ D, by omega, by go_num, by rw [List.length_append, HLN.out], hide (HOL.out _ _ _ HO2.out), HB2, hide (.inr HX.out), fun _ => HGE.out⟩
              case measure => simp [intOf]; omega
          · have e1 : (((v10 : Nat) : Int) % 2 == 1) = false := beq_eq_false_iff_ne.2 (by omega)
            have HX : Hid (recB (secD ss) k = none) := hide (rec_start_even HQ0.out (decide_eq_false hb1))
            clear hacc0 hn0 hb1 HQ HQ0 HSOC HSO HGS hfull hmore HOWN HNEW HLN HC10 HC11 HGE0 HGK
            go_wp2_with fail
            go_quiet (first | (go_at_call 72; with_reducible refine Calls.quiet_of (HG.out _)) | (go_at_call 61; first | (with_reducible refine Calls.quiet_of_same (H1.out _)) | (with_reducible refine Calls.quiet_of_same (H2.out _))))
            go_wp2_with fail
            refine bodyPost_ret (v := .tuple #[.slice none 0 0, .int .i64 0]) (by simp [results, Try.results60, go_sem]) rfl ?_
            exact RRec.no HX.out (HBq.out _)
        · have en : ((n : Int) == 0) = false := beq_eq_false_iff_ne.2 (by omega)
          have en2 : decide (0 < n) = true := decide_eq_true (by omega)
          have hso := HSOC.resolve_left (fun h => hn0 h.1)
          have hgk := HGS.out (by omega)
          by_cases hb1 : v10 % 2 = 1
          · have e1 : (((v10 : Nat) : Int) % 2 == 1) = true := beq_iff_eq.2 (by omega)
            have HX : Hid (recB (secD ss) k = none) := hide (rec_more_bad hso hltS HQ.out (.inl (decide_eq_true hb1)))
            clear hn0 hb1 HQ HSOC HSO HGS hfull hmore HOWN HNEW HLN HC10 HC11 hso hgk HGE0 HGK
            go_wp2_with fail
            go_quiet (first | (go_at_call 72; with_reducible refine Calls.quiet_of (HG.out _)) | (go_at_call 61; first | (with_reducible refine Calls.quiet_of_same (H1.out _)) | (with_reducible refine Calls.quiet_of_same (H2.out _))))
            go_wp2_with fail
            refine bodyPost_ret (v := .tuple #[.slice none 0 0, .int .i64 0]) (by simp [results, Try.results60, go_sem]) rfl ?_
            exact RRec.no HX.out (HBq.out _)
          · have e1 : (((v10 : Nat) : Int) % 2 == 1) = false := beq_eq_false_iff_ne.2 (by omega)
            generalize numB (kl.take 4) = gk at *
            by_cases hgg : g1 = gk
            · have e3 : ((g1 : Int) != (gk : Int)) = false := bne_eq_false_iff_eq.2 (by omega)
              have HEND : Hid (2 ≤ v10 → recB (secD ss) k = some (acc ++ D, g)) := hide (fun h => rec_more_ends hso hltS HQ.out (decide_eq_false hb1) (hgg.trans hgk.symm) (decide_eq_true h))
              have HNXT : Hid (¬ 2 ≤ v10 → RecSo (secD ss) k (n + 1) (acc ++ D) g) := hide (fun h => rec_more_so hso hltS HQ.out (decide_eq_false hb1) (hgg.trans hgk.symm) (decide_eq_false h) (by show D.length = 112; rw [HLN.out]; omega))
              have HGE : Hid (g = numB (((secD ss).getD k []).take 4)) := hide (hgk.trans HGK.out)
              have HSN : Hid (secN (acc ++ D).length = n + 1) := hide (by
                rw [List.length_append, hso.len]
                exact secN_pieces (by rw [HLN.out]; exact hv112) (.inr (by rw [HLN.out]; omega)))
              have hacc : acc.length ≤ 458752 := by rw [hso.len]; omega
              clear hn0 hb1 HQ HSOC HSO HGS hfull hmore hso hgk hgg HGE0 HGK
              have hle12 : (12 : Int) ≤ 12 + (v11 : Int) := by omega
              have hle13 : (12 : Int) + (v11 : Int) ≤ (sc : Int) := by omega
              have hle14 : (12 : Int) + (v11 : Int) ≤ 128 := by omega
              go_wp2_with fail
              go_quiet (first | (go_at_call 72; with_reducible refine Calls.quiet_of (HG.out _)) | (go_at_call 61; first | (with_reducible refine Calls.quiet_of_same (H1.out _)) | (with_reducible refine Calls.quiet_of_same (H2.out _))))
              have HOQ := hide (own_later HOWN.out (below_dn _ wr nq))
              have HBQ := hide (HBq.out nq)
              have HNQ := hide (HNEW.out _ HBQ.out)
              have HNL := hide (show (bs D).length = (12 + v11 - 12) * 1 by rw [bs_len, HLN.out]; omega)
              have hzq := HBQ.out.size
              have c11q := HC11.out _ HBQ.out
              clear HBW HOWN HBq HG H1 H2 c10 c11 HC11 
              generalize wr.drewN nq = wq at *
              have HOL : Hid (∀ (W : World) (A2 : Option Addr) (cap2 : Nat), W.ownsRow w.heap.size 5 1 (.slice A2 (acc.length + v11) cap2) (acc.length + v11) (bs acc ++ bs D) → W.ownsRow w.heap.size 5 1 (.slice A2 (acc ++ D).length cap2) (acc ++ D).length (bs (acc ++ D))) := hide (fun W A2 cap2 h => by
                rw [List.length_append, HLN.out, bs_app]
                exact h)
              by_cases he : 2 ≤ v10
              · have dge : decide (2 ≤ v10) = true := decide_eq_true he
                have HX := hide (HEND.out he)
                have dge2 : decide ((2 : Int) ≤ (v10 : Int)) = true := decide_eq_true (by omega)
                clear HEND HNXT
                go_wp2_with (at_builtin; refine wpList_app rfl (.tmp 56) (.tmp 63) 35 rfl w.heap.size 5 i5 _ 1 1 Try.underlying35 HI5.out rfl (by omega) _ (acc).length (bs (acc)) rfl HOQ.out (some ⟨bb, oo + 12, none⟩) (12 + v11 - 12) (sc - 12) (bs D) rfl (fun h => by cases h) HNL.out HNQ.out (bs_one _) (by unfold maxLen; omega) (by omega) hzq ?_; intro A2 cap2 w2 hown hg; rw [Nat.add_sub_cancel_left] at hown ⊢; have HO2 := hide hown; have HB2 := hide (below_app HBQ.out HOQ.out hg (Nat.le_refl _) hzq); have c10' := HC10.out w2 HB2.out; clear hown hg)
                refine bodyPost_ret (v := .tuple #[.slice A2 (acc.length + v11) cap2, .int .i64 ((n : Int) + 1)]) (by simp [results, Try.results60, go_sem]) rfl ?_
                refine RRec.yes HX.out (by rw [HSN.out]; omega) (by rw [List.length_append, HLN.out]) ?_ HB2.out
                have := HOL.out _ _ _ HO2.out
                rwa [List.length_append, HLN.out] at this
              · have dge : decide (2 ≤ v10) = false := decide_eq_false he
                have HX := hide (HNXT.out he)
                have dge2 : decide ((2 : Int) ≤ (v10 : Int)) = false := decide_eq_false (by omega)
                clear HEND HNXT
                go_wp2_with (at_builtin; refine wpList_app rfl (.tmp 56) (.tmp 63) 35 rfl w.heap.size 5 i5 _ 1 1 Try.underlying35 HI5.out rfl (by omega) _ (acc).length (bs (acc)) rfl HOQ.out (some ⟨bb, oo + 12, none⟩) (12 + v11 - 12) (sc - 12) (bs D) rfl (fun h => by cases h) HNL.out HNQ.out (bs_one _) (by unfold maxLen; omega) (by omega) hzq ?_; intro A2 cap2 w2 hown hg; rw [Nat.add_sub_cancel_left] at hown ⊢; have HO2 := hide hown; have HB2 := hide (below_app HBQ.out HOQ.out hg (Nat.le_refl _) hzq); have c10' := HC10.out w2 HB2.out; clear hown hg)
                go_roundw
                case rel => exact ⟨n + 1, cap2, g, A2, acc ++ D, by omega, by go_num, by rw [List.length_append, HLN.out], hide (HOL.out _ _ _ HO2.out), HB2, hide (.inr HX.out), fun _ => HGE.out⟩
                case measure => simp [intOf]; omega
            · have e3 : ((g1 : Int) != (gk : Int)) = true := bne_iff_ne.2 (by omega)
              have HX : Hid (recB (secD ss) k = none) := hide (rec_more_bad hso hltS HQ.out (.inr (fun h => hgg (h.trans hgk))))
              clear hn0 hb1 HQ HSOC HSO HGS hfull hmore HOWN HNEW HLN HC10 HC11 hso hgk hgg HGE0 HGK
              go_wp2_with fail
              go_quiet (first | (go_at_call 72; with_reducible refine Calls.quiet_of (HG.out _)) | (go_at_call 61; first | (with_reducible refine Calls.quiet_of_same (H1.out _)) | (with_reducible refine Calls.quiet_of_same (H2.out _))))
              go_wp2_with fail
              refine bodyPost_ret (v := .tuple #[.slice none 0 0, .int .i64 0]) (by simp [results, Try.results60, go_sem]) rfl ?_
              exact RRec.no HX.out (HBq.out _)
    · have hge : (ss.length : Int) ≤ (k : Int) + (n : Int) := by omega
      have hge' : decide ((k : Int) + (n : Int) < (ss.length : Int)) = false := decide_eq_false (by omega)
      have HX : Hid (recB (secD ss) k = none) := hide (by
        rcases HSO.out with ⟨rfl, _⟩ | hso
        · exact recB_end (by rw [secD_len]; omega)
        · exact rec_more_end hso (by rw [secD_len]; omega))
      clear HSO HOWN hg hlt
      go_wp2_with fail
      refine bodyPost_ret (v := .tuple #[.slice none 0 0, .int .i64 0]) (by simp [results, Try.results60, go_sem]) rfl ?_
      exact RRec.no HX.out HBW.out
end Go.Proofs.Ytgigccgklahddaa

/- Records and Open of the reference. -/
namespace Go.Proofs.Ytgigccgklahddaa
open Go.RowKit
variable {n0 : Nat}

theorem fresh_app {W w6 : World} {A : Option Addr} {c n base : Nat} {xs : List Value} {s : Sec} (hs : s.Fresh W) (hO : W.ownsRow base 35 1 (.slice A n c) n xs) (hg : W.grownBy w6 (Value.slice A n c).ownBlock) : s.Fresh w6 := by
  rcases grown_cases hO hg with hb | ⟨g, cs, hG, _, hg'⟩
  · exact hs.below hb
  · exact hs.only hg' hG (by omega)
/-- Records read, as the loop has them. -/
structure RecsIn (w : World) (B : Option Addr) (c : Nat) (l : List Sec) (W : World) : Prop where
  own : W.ownsRow w.heap.size 35 1 (.slice B l.length c) l.length (secs l)
  each : ∀ s ∈ l, s.Fresh W ∧ s.l.length ≤ 458976
  bel : Below w.heap.size w W
theorem RecsIn.below {w W W' : World} {B : Option Addr} {c : Nat} {l : List Sec} (h : RecsIn w B c l W) (hb : Below W.heap.size W W') : RecsIn w B c l W' := ⟨own_later h.own hb, fun s hs => ⟨(h.each s hs).1.below hb, (h.each s hs).2⟩, below_one h.bel hb⟩

set_option maxRecDepth 100000 in
set_option maxHeartbeats 12800000 in
theorem rrecords_any (A : Option Addr) (ss : List Sec) (cap : Nat) (w : World) (hi : SecsIn n0 A ss cap w) (hl : ∀ i (h : i < ss.length), (ss[i]).l.length = 128) (hn : ss.length ≤ 4096) :
    Calls Try.prog 34 #[.slice A ss.length cap] w fun e w' => ∃ (B : Option Addr) (c : Nat) (l : List Sec), e = .returned (.slice B l.length c) ∧ secD l = recordsB (secD ss) ∧ RecsIn w B c l w' := by
  have HI := hide hi
  have HL := hide hl
  have HSL := hide (secD_len ss)
  have HLS := hide (show ∀ s ∈ secD ss, s.length = 128 from fun s hs => by
    obtain ⟨i, hi, rfl⟩ := List.getElem_of_mem hs
    rw [secD_get]
    exact hl i (by rw [secD_len] at hi; exact hi))
  obtain ⟨i35, hi35⟩ := hinfo35
  have HI35 := hide hi35
  clear hi hl hi35
  have HR0 : Hid (RecsIn w (some ⟨w.heap.size, 0, none⟩) 0 [] (w.alloc (.cells #[] 35))) := hide ⟨own_empty w w.heap.size 35 1 (Nat.le_refl _), fun s hs => (by cases hs), below_new w (.cells #[] 35)⟩
  go_enter Try.func34, Try.ntmps34
  go_wp2_with fail
  go_loopw [3, 4, 5] (fun v i g wr => ∃ (k c h : Nat) (B : Option Addr) (l : List Sec), k ≤ ss.length ∧ l.length ≤ k ∧ i = .int .i64 k ∧ g = .int .u64 (h : Nat) ∧ v = .slice B l.length c ∧ Hid (RecsIn w B c l wr) ∧ Hid (recordsB (secD ss) = secD l ++ recsFrom (secD ss) (ss.length - l.length) k h)) (fun _ i _ _ => ss.length - (intOf i).toNat)
  case atStart => exact ⟨0, 0, 0, some ⟨w.heap.size, 0, none⟩, [], Nat.zero_le _, Nat.le_refl _, rfl, rfl, rfl, HR0, hide (by unfold recordsB; rw [secD_len]; rfl)⟩
  case round =>
    obtain ⟨k, c, h, B, l, hk, hlk, rfl, rfl, rfl, HR, HE⟩ := hrel
    clear HR0
    have HRC := hide (rrecord_any A ss cap k wr (HI.out.below HR.out.bel) HL.out hn hk)
    cases hx : recB (secD ss) k with
    | none =>
      rw [hx] at HRC
      have HX : Hid (recordsB (secD ss) = secD l) := hide (by
        rw [HE.out]
        have : recsFrom (secD ss) (ss.length - l.length) k h = [] := by
          cases hf : ss.length - l.length with
          | zero => rfl
          | succ f =>
            unfold recsFrom
            split
            · rw [hx]
            · rfl
        rw [this, List.append_nil])
      clear hx HE
      go_wp2_with fail
      refine HRC.out.mono ?_
      rintro e w2 ⟨rfl, hb⟩
      have HR2 := hide (HR.out.below hb)
      clear hb HR
      go_wp2_with fail
      go_ret
      exact ⟨B, c, l, rfl, HX.out.symm, HR2.out⟩
    | some r =>
      obtain ⟨d, q⟩ := r
      rw [hx] at HRC
      have HBL := hide (show d.length ≤ 458976 by have := recB_len hx; rw [secD_len] at this; omega)
      have hfit := rec_fits HLS.out hx
      rw [secD_len] at hfit
      have hpos := secN_pos d.length
      have hkl : k < ss.length := by omega
      have hki : (k : Int) < ss.length := by omega
      have hnz : (((secN d.length : Nat) : Int) == 0) = false := beq_eq_false_iff_ne.2 (by omega)
      obtain ⟨p, hp1, hp2⟩ := rec_gen hx
      obtain ⟨b, o, rfl, hb, hc⟩ := HI.out.at hkl
      have hs : (ss[k]).l.length = 128 := HL.out k hkl
      have HSI := hide (HI.out.each _ (List.getElem_mem hkl))
      have hgd : (secD ss).getD k [] = (ss[k]).l := by rw [List.getD_eq_getElem?_getD, List.getElem?_eq_getElem (by rw [secD_len]; exact hkl), secD_get]; rfl
      rw [hgd] at hp1
      have hq : q = numB ((ss[k]).l.take 4) := by
        have hgp := (read_good hs (show k < 65536 by omega)).1 (by rw [hp1]; rfl)
        have := Option.some.inj (hp1.symm.trans (read_is hgp hs (by omega)))
        rw [← hp2, this]
      have hfu : ∃ f, ss.length - l.length = f + 1 := ⟨ss.length - l.length - 1, by omega⟩
      obtain ⟨f, hf⟩ := hfu
      have HSTEP := hide (show recsFrom (secD ss) (ss.length - l.length) k h = if q < h then [] else d :: recsFrom (secD ss) f (k + secN d.length) q by
        rw [hf]
        conv => lhs; unfold recsFrom
        rw [if_pos (by rw [secD_len]; exact hkl), hx])
      have HF := hide hf
      clear hx hp1 hp2 hgd hf
      generalize ss[k] = s at *
      obtain ⟨sA, sl, sc⟩ := s
      replace hs : sl.length = 128 := hs
      replace hq : q = numB (sl.take 4) := hq
      have hsc : 128 ≤ sc := by have := HSI.out.le; simp only [hs] at this; exact this
      have hsc2 : sc ≤ 9223372036854775807 := HSI.out.cap
      obtain ⟨bb, oo, hsA, hbb, hcs⟩ := HSI.out.cels.at (k := 0) (by rw [bs_len]; simp only; omega)
      simp only at hsA
      subst hsA
      simp only [Sec.v, hs] at hc
      have HN := hide (show ∀ W, Below w.heap.size w W → Calls Try.prog 61 #[.slice (some ⟨bb, oo, none⟩) 4 sc] W fun e w' => e = .returned (.int .u64 (q : Nat)) ∧ w' = W from fun W hW => by
        have := rnumber_any bb oo 4 sc (sl.take 4) W (fun i h => by rw [List.length_take] at h; have := (hW.cell (p := ⟨bb, oo + i, none⟩) hbb).trans (hcs i (by rw [bs_len]; simp only; omega)); rw [bs_get] at this; simpa using this) (by rw [List.length_take]; omega) (by omega)
        rwa [← hq] at this)
      have HCB := hide (show ∀ W, Below w.heap.size w W → W.cell? ⟨b, o + k, none⟩ = some (.slice (some ⟨bb, oo, none⟩) 128 sc) from fun W hW => (hW.cell (p := ⟨b, o + k, none⟩) hb).trans hc)
      have i4 : (4 : Int) ≤ (sc : Int) := by omega
      clear hcs hc hq hs HSI
      go_wp2_with fail
      refine HRC.out.mono ?_
      rintro e w2 ⟨D, dc, rfl, hown, hb2⟩
      have HR2 := hide (HR.out.below hb2)
      have HD2 := hide (own_fresh hown rfl)
      have hcell := HCB.out w2 HR2.out.bel
      have HN2 := hide (HN.out w2 HR2.out.bel)
      clear hown hb2 HR HRC
      by_cases hlt : q < h
      · have d1 : decide (q < h) = true := decide_eq_true hlt
        have d2 : decide ((q : Int) < (h : Int)) = true := decide_eq_true (by omega)
        have HX : Hid (recordsB (secD ss) = secD l) := hide (by rw [HE.out, HSTEP.out, if_pos hlt, List.append_nil])
        clear hlt HE HSTEP
        go_wp2_with fail
        refine HN2.out.mono ?_
        rintro e w3 ⟨rfl, rfl⟩
        go_wp2_with fail
        go_ret
        exact ⟨B, c, l, rfl, HX.out.symm, HR2.out⟩
      · have d1 : decide (q < h) = false := decide_eq_false hlt
        have d2 : decide ((q : Int) < (h : Int)) = false := decide_eq_false (by omega)
        have HX : Hid (recordsB (secD ss) = secD (l ++ [⟨D, d, dc⟩]) ++ recsFrom (secD ss) (ss.length - (l ++ [(⟨D, d, dc⟩ : Sec)]).length) (k + secN d.length) q) := hide (by
          rw [HE.out, HSTEP.out, if_neg hlt, show secD (l ++ [⟨D, d, dc⟩]) = secD l ++ [d] by simp [secD], List.append_assoc, List.length_append, show ss.length - (l.length + [(⟨D, d, dc⟩ : Sec)].length) = f by have := HF.out; simp only [List.length_singleton]; omega]
          rfl)
        clear hlt HE HSTEP
        have HR3 := hide (HR2.out.below (below_new w2 (.cells #[.slice D d.length dc] 35)))
        have HD3 := hide (HD2.out.below (below_new w2 (.cells #[.slice D d.length dc] 35)))
        have hz3 := HR3.out.bel.size
        have hll : l.length ≤ 4096 := by omega
        have hkf : k + secN d.length ≤ 4096 := by omega
        generalize secN d.length = sn at *
        go_wp2_with fail
        refine HN2.out.mono ?_
        rintro e w3 ⟨rfl, rfl⟩
        go_wp2_with fail
        refine (HN.out _ HR2.out.bel).mono ?_
        rintro e w3 ⟨rfl, rfl⟩
        go_wp2_with (at_builtin; refine wpList_app rfl (.tmp 34) (.tmp 36) 22 rfl w.heap.size 35 i35 _ 1 24 Try.underlying22 HI35.out rfl (by omega) _ l.length (secs l) rfl HR3.out.own (some ⟨w3.heap.size, 0, none⟩) 1 1 [.slice D d.length dc] rfl (fun h => by cases h) rfl (new_cells w3 35 [.slice D d.length dc]) (by simp [Value.oneCell']) (by unfold maxLen; omega) (by omega) hz3 ?_; intro A2 cap2 w4 hown hg; have HO4 := hide hown; have HB4 := hide (below_app HR3.out.bel HR3.out.own hg (Nat.le_refl _) hz3); have HG4 := hide hg; clear hown hg)
        have HR4 : Hid (RecsIn w A2 cap2 (l ++ [⟨D, d, dc⟩]) w4) := hide ⟨by
          rw [List.length_append, secs_app]
          exact HO4.out, fun s hs => by
          have hF : ∀ s : Sec, s.Fresh (w3.alloc (.cells #[.slice D d.length dc] 35)) → s.Fresh w4 := fun s hs => fresh_app hs HR3.out.own HG4.out
          rcases List.mem_append.1 hs with hs | hs
          · exact ⟨hF s (HR3.out.each s hs).1, (HR3.out.each s hs).2⟩
          · obtain rfl : s = _ := by simpa using hs
            exact ⟨hF _ HD3.out, HBL.out⟩, HB4.out⟩
        go_roundw
        case rel => exact ⟨k + sn, cap2, q, A2, l ++ [⟨D, d, dc⟩], by omega, by rw [List.length_append, List.length_singleton]; omega, by go_num, rfl, by rw [List.length_append]; rfl, HR4, HX⟩
        case measure => simp [intOf]; omega
end Go.Proofs.Ytgigccgklahddaa

/- Open of the reference. -/
namespace Go.Proofs.Ytgigccgklahddaa
open Go.RowKit
variable {n0 : Nat}

theorem recs_few {l : List Sec} {ss : List (List UInt8)} (h : secD l = recordsB ss) (hn : ss.length ≤ 4096) : l.length ≤ 4096 := by
  have h1 := congrArg List.length h
  rw [secD_len] at h1
  have h2 := recsFrom_len (ss := ss) ss.length 0 0
  unfold recordsB at h1
  omega
set_option maxRecDepth 100000 in
set_option maxHeartbeats 6400000 in
theorem ropen_any (d : Dsk) (w : World) (hi : d.In n0 w) : Calls Try.prog 13 #[d.v] w (JAns n0 w d.d.jopen) := by
  have HI := hide hi
  have HB := hide ((Blk.new w 25 d.cs).alloc (.cells #[.slice none 0 0, .int .i64 0, .int .i64 0] 29))
  have HR := hide (Blk.new (w.alloc (.cells d.cs.toArray 25)) 29 [.slice none 0 0, .int .i64 0, .int .i64 0])
  rw [World.size_alloc] at HR
  have HW := hide (show Below w.heap.size w ((w.alloc (.cells d.cs.toArray 25)).alloc (.cells #[.slice none 0 0, .int .i64 0, .int .i64 0] 29)) from (below_new w _).alloc (by simp) _)
  have HC := hide (rcheck_any d _ (hi.below HW.out))
  obtain ⟨c0, c1, c2, c3⟩ := HB.out.c4
  have hle1 : d.ss.length ≤ d.sc := hi.sec.le
  have hcap1 : d.sc ≤ 9223372036854775807 := hi.sec.top
  have hle2 : d.ps.length ≤ d.pc := hi.pen.le
  have hcap2 : d.pc ≤ 9223372036854775807 := hi.pen.top
  have hpl : d.d.pen.length = d.ps.length := wrD_len _
  clear hi
  by_cases hv : d.d.valid = true
  · rw [show chk d.d = 0 by simp [chk, hv]] at HC
    by_cases hs : d.stp = true
    · have HX := hide (show d.d.jopen = (Jk.zero, 40) by
        have := cdk_stp hv hs
        unfold Dk.jopen
        rw [this, if_neg (by decide)])
      have HS := hide hs
      clear hv hs
      go_enter Try.func13, Try.ntmps13
      go_wp2_with fail
      refine HC.out.mono ?_
      rintro e w1 ⟨rfl, hb⟩
      have HF := hide (below_one HW.out hb)
      have HR1 := hide (HR.out.below hb HR.out.lt)
      replace c3 := (hb.cell (p := ⟨w.heap.size, 3, none⟩) HB.out.lt).trans c3
      rw [HS.out] at c3
      clear hb HC
      go_wp2_with (refine wpList_store_row rfl 29 (.tmp 2) (.tmp 14) rfl (w.heap.size + 1) #[.slice none 0 0, .int .i64 0, .int .i64 0] rfl rfl 29 _ HR1.out Try.size29 rfl (one29 _ _ _ _ _) ?_)
      exact bodyPost_ret (v := .tuple #[Jr.zero.v, .int .i64 40]) (results_cell_row_tmp rfl _ _ (w.heap.size + 1) 29 #[.slice none 0 0, .int .i64 0, .int .i64 0] (0, 0) _ (.int .i64 40) rfl rfl (setRow_heap _ _ _ _ _ _ HR1.out) Try.underlying29 rfl Try.size29) rfl (JAns.zero HX.out (below_setRow HF.out (by omega) _))
    · replace hs : d.stp = false := by simpa using hs
      have HS := hide hs
      by_cases hp : d.ps.length = 0
      · have hpn : d.d.pen = [] := List.eq_nil_of_length_eq_zero (by omega)
        have HX := hide (show d.d.jopen = (⟨recordsB d.d.sec, d.d.sec.length, (recordsB d.d.sec).length⟩, 0) by
          unfold Dk.jopen
          rw [if_pos (cdk_ok hv hs hpn)])
        have hv2 := hv
        rw [valid_iff] at hv2
        simp only [Bool.and_eq_true] at hv2
        obtain ⟨⟨hn1, hn2⟩, hsl⟩ := validSec_iff.1 hv2.1.1
        rw [secD_len] at hn1 hn2
        have HSL := hide (show ∀ i (h : i < d.ss.length), (d.ss[i]).l.length = 128 from fun i h => by
          have := hsl i (by rw [secD_len]; exact h)
          rw [secD_get] at this
          exact this)
        have d1 : decide ((0 : Int) < (d.ps.length : Int)) = false := decide_eq_false (by omega)
        have d2 : decide (0 < d.ps.length) = false := decide_eq_false (by omega)
        have HDL := hide (show d.d.sec.length = d.ss.length from secD_len _)
        have HN2 := hide hn2
        clear hv hv2 hsl hpn hs hp hpl
        go_enter Try.func13, Try.ntmps13
        go_wp2_with fail
        refine HC.out.mono ?_
        rintro e w1 ⟨rfl, hb⟩
        have HF := hide (below_one HW.out hb)
        have HB1 := hide (HB.out.below hb HB.out.lt)
        have HR1 := hide (HR.out.below hb HR.out.lt)
        clear hb HC c0 c1 c2 c3
        obtain ⟨c0, c1, c2, c3⟩ := HB1.out.c4
        have HRR := hide (rrecords_any d.sa d.ss d.sc w1 (HI.out.sec.below HF.out) HSL.out hn2)
        rw [HS.out] at c3
        clear c2
        go_wp2_with fail
        refine HRR.out.mono ?_
        rintro e w2 ⟨B, c, l, rfl, hsd, hri⟩
        have HRI := hide hri
        have HSD := hide hsd
        have HLF := hide (recs_few hsd (by rw [secD_len]; exact HN2.out))
        have HF2 := hide (below_one HF.out hri.bel)
        have HR2 := hide (HR1.out.below hri.bel HR1.out.lt)
        have c0' := (hri.bel.cell (p := ⟨w.heap.size, 0, none⟩) HB1.out.lt).trans c0
        have hcl : l.length ≤ c := (own_caps hri.own).1
        have hcl2 : c ≤ 9223372036854775807 := (own_caps hri.own).2
        clear hsd hri HRR c0 c1 c3
        go_wp2_with (refine wpList_store_row rfl 29 (.tmp 2) (.tmp 29) rfl (w.heap.size + 1) #[.slice B l.length c, .int .i64 d.ss.length, .int .i64 l.length] rfl rfl 29 _ HR2.out Try.size29 rfl (one29 _ _ _ _ _) ?_)
        refine bodyPost_ret (v := .tuple #[.agg #[.slice B l.length c, .int .i64 d.ss.length, .int .i64 l.length], .int .i64 0]) (results_cell_row_tmp rfl _ _ (w.heap.size + 1) 29 #[.slice B l.length c, .int .i64 d.ss.length, .int .i64 l.length] (0, 0) _ (.int .i64 0) rfl rfl (setRow_heap _ _ _ _ _ _ HR2.out) Try.underlying29 rfl Try.size29) rfl ?_
        rw [HX.out]
        have hg : w2.grownBy (w2.setRow (w.heap.size + 1) #[.slice B l.length c, .int .i64 d.ss.length, .int .i64 l.length]) (some (w.heap.size + 1)) := only_setRow (only_refl _ _) (.inl rfl) _
        refine ⟨⟨B, l, c, d.ss.length, l.length⟩, rfl, ?_, ⟨⟨?_, fun s hs => ((HRI.out.each s hs).1.only hg HR2.out (by omega)).in, hcl, hcl2, ?_⟩, ⟨by simp only; omega, by have := HN2.out; simp only; omega⟩, ⟨by simp only; omega, by simp only; omega⟩, fun s hs => by have := (HRI.out.each s hs).2; omega, by have := HLF.out; simp only; omega⟩, below_setRow HF2.out (by omega) _⟩
        · show (⟨secD l, (d.ss.length : Int), (l.length : Int)⟩ : Jk) = ⟨recordsB d.d.sec, d.d.sec.length, (recordsB d.d.sec).length⟩
          rw [← show secD l = recordsB d.d.sec from HSD.out, HDL.out, secD_len]
        · show Cels n0 _ B (secs l)
          intro hne
          obtain ⟨g, c', he, _, _⟩ := HRI.out.own.form (by
            rcases Nat.eq_zero_or_pos l.length with h | h
            · rw [List.eq_nil_of_length_eq_zero h] at hne
              exact absurd rfl hne
            · exact h)
          obtain ⟨rfl, rfl⟩ := slice_inj he
          obtain ⟨cs, hcs⟩ := own_blk HRI.out.own
          exact (hcs.only hg (hcs.ne HR2.out (by omega))).cels (by omega) hne
        · intro e
          have := HRI.out.own
          simp only at e
          subst e
          rcases this.2 with ⟨h, _⟩ | ⟨g, cap', cur, hv, _⟩
          · injection h
          · cases hv
      · have HX := hide (show d.d.jopen = (Jk.zero, 1) by
          have := cdk_pen hv hs (fun e => hp (by rw [← hpl, e]; rfl))
          unfold Dk.jopen
          rw [this, if_neg (by decide)])
        have d1 : decide ((0 : Int) < (d.ps.length : Int)) = true := decide_eq_true (by omega)
        have d2 : decide (0 < d.ps.length) = true := decide_eq_true (by omega)
        have d3 : 0 < d.ps.length := by omega
        clear hv hp hs
        go_enter Try.func13, Try.ntmps13
        go_wp2_with fail
        refine HC.out.mono ?_
        rintro e w1 ⟨rfl, hb⟩
        have HF := hide (below_one HW.out hb)
        have HR1 := hide (HR.out.below hb HR.out.lt)
        replace c3 := (hb.cell (p := ⟨w.heap.size, 3, none⟩) HB.out.lt).trans c3
        rw [HS.out] at c3
        replace c1 := (hb.cell (p := ⟨w.heap.size, 1, none⟩) HB.out.lt).trans c1
        clear hb HC
        go_wp2_with (refine wpList_store_row rfl 29 (.tmp 2) (.tmp 19) rfl (w.heap.size + 1) #[.slice none 0 0, .int .i64 0, .int .i64 0] rfl rfl 29 _ HR1.out Try.size29 rfl (one29 _ _ _ _ _) ?_)
        exact bodyPost_ret (v := .tuple #[Jr.zero.v, .int .i64 1]) (results_cell_row_tmp rfl _ _ (w.heap.size + 1) 29 #[.slice none 0 0, .int .i64 0, .int .i64 0] (0, 0) _ (.int .i64 1) rfl rfl (setRow_heap _ _ _ _ _ _ HR1.out) Try.underlying29 rfl Try.size29) rfl (JAns.zero HX.out (below_setRow HF.out (by omega) _))
  · have hv' : d.d.valid = false := by simpa using hv
    rw [show chk d.d = 40 by simp [chk, hv']] at HC
    have HX := hide (show d.d.jopen = (Jk.zero, 40) by
      unfold Dk.jopen
      rw [cdk_no hv', if_neg (by decide)])
    clear hv hv'
    go_enter Try.func13, Try.ntmps13
    go_wp2_with fail
    refine HC.out.mono ?_
    rintro e w1 ⟨rfl, hb⟩
    have HF := hide (below_one HW.out hb)
    have HR1 := hide (HR.out.below hb HR.out.lt)
    clear hb HC
    go_wp2_with (refine wpList_store_row rfl 29 (.tmp 2) (.tmp 10) rfl (w.heap.size + 1) #[.slice none 0 0, .int .i64 0, .int .i64 0] rfl rfl 29 _ HR1.out Try.size29 rfl (one29 _ _ _ _ _) ?_)
    exact bodyPost_ret (v := .tuple #[Jr.zero.v, .int .i64 40]) (results_cell_row_tmp rfl _ _ (w.heap.size + 1) 29 #[.slice none 0 0, .int .i64 0, .int .i64 0] (0, 0) _ (.int .i64 40) rfl rfl (setRow_heap _ _ _ _ _ _ HR1.out) Try.underlying29 rfl Try.size29) rfl (JAns.zero HX.out (below_setRow HF.out (by omega) _))
end Go.Proofs.Ytgigccgklahddaa
