/- numeral and generation of the reference. -/
import Derived.Test.YtgigccgklahddaaGod
import Derived.Test.YtgigccgklahddaaGen
import Derived.Test.YtgigccgklahddaaSof
import Derived.Test.YtgigccgklahddaaRWri2
import Derived.Lib.AppendZeros
import Derived.Test.YtgigccgklahddaaRop
import Derived.Test.YtgigccgklahddaaJsz
import Derived.Test.YtgigccgklahddaaRSynT
namespace Go.Proofs.Ytgigccgklahddaa
open Go.RowKit
variable {n0 : Nat}

/-- The last bytes of a number. -/
def numL (n : Nat) : Nat → List UInt8
  | 0 => []
  | j + 1 => UInt8.ofNat (n / 256 ^ j) :: numL n j
theorem numL_len (n : Nat) : ∀ j, (numL n j).length = j
  | 0 => rfl
  | j + 1 => by rw [numL, List.length_cons, numL_len n j]
theorem numL_four (n : Nat) : numL n 4 = b4 n := by
  simp only [numL, b4]
  rw [show 256 ^ 3 = 16777216 from rfl, show 256 ^ 2 = 65536 from rfl, show 256 ^ 1 = 256 from rfl, show 256 ^ 0 = 1 from rfl, Nat.div_one]
theorem numL_two (n : Nat) : numL n 2 = [UInt8.ofNat (n / 256), UInt8.ofNat n] := by
  simp only [numL]
  rw [show 256 ^ 1 = 256 from rfl, show 256 ^ 0 = 1 from rfl, Nat.div_one]
theorem rep_set (m j : Nat) (h : j < m) (l : List UInt8) (c : UInt8) : (bs (List.replicate (m - j) 0 ++ l)).set (m - 1 - j) (.int .u8 (c.toNat : Nat)) = bs (List.replicate (m - (j + 1)) 0 ++ c :: l) := by
  have e : m - j = (m - (j + 1)) + 1 := by omega
  rw [e, List.replicate_succ', List.append_assoc, bs_app, bs_app, List.set_append_right _ _ (by rw [bs_len, List.length_replicate]; omega), bs_len, List.length_replicate, show m - 1 - j - (m - (j + 1)) = 0 by omega, bs_app]
  rfl
attribute [irreducible] numL

set_option maxRecDepth 10000 in
set_option maxHeartbeats 1600000 in
theorem rnumeral_any (n m : Nat) (w : World) (hn : n < 18446744073709551616) (hm : m ≤ 8) (hm1 : 1 ≤ m) :
    Calls Try.prog 66 #[.int .u64 (n : Nat), .int .i64 (m : Nat)] w fun e w' => e = .returned (.slice (some ⟨w.heap.size, 0, none⟩) m m) ∧ Blk w' w.heap.size 5 (bs (numL n m)) ∧ Below w.heap.size w w' := by
  have hmk := make_bytes m (by omega)
  have HX := hide (Blk.new w 5 (bs (List.replicate m 0)))
  have HB := hide (below_new w (.cells (bs (List.replicate m 0)).toArray 5))
  go_enter Try.func66, Try.ntmps66
  go_wp2_with fail
  go_loopw [0, 6] (fun v i wr => ∃ j : Nat, j ≤ m ∧ v = .int .u64 ((n / 256 ^ j : Nat) : Int) ∧ i = .int .i64 ((m : Int) - 1 - j) ∧ Hid (Blk wr w.heap.size 5 (bs (List.replicate (m - j) 0 ++ numL n j))) ∧ Hid (Below w.heap.size w wr)) (fun _ i _ => (intOf i + 1).toNat)
  case atStart => exact ⟨0, Nat.zero_le _, by rw [Nat.pow_zero, Nat.div_one], by go_num, hide (by unfold numL; rw [List.append_nil]; exact HX.out), HB⟩
  case round =>
    obtain ⟨j, hj, rfl, rfl, HBK, HBW⟩ := hrel
    by_cases hlt : j < m
    · have hge : ((0 : Int) ≤ (m : Int) - 1 - j) := by omega
      have d1 : decide ((0 : Int) ≤ (m : Int) - 1 - j) = true := decide_eq_true hge
      have HP := hide (show n / 256 ^ (j + 1) = n / 256 ^ j / 256 by rw [Nat.pow_succ, Nat.div_div_eq_div_mul])
      have hnj : n / 256 ^ j ≤ n := Nat.div_le_self _ _
      have HBK2 := hide (rep_set m j hlt (numL n j) (UInt8.ofNat (n / 256 ^ j)))
      have HNL : Hid (numL n (j + 1) = UInt8.ofNat (n / 256 ^ j) :: numL n j) := hide (by conv => lhs; unfold numL)
      rw [u8_nat, show (((n / 256 ^ j % 256 : Nat)) : Int) = ((n / 256 ^ j : Nat) : Int) % 256 by omega] at HBK2
      have hi : (m : Int) - 1 - j = ((m - 1 - j : Nat) : Int) := by omega
      rw [hi] at d1 hge ⊢
      have hil : ((m - 1 - j : Nat) : Int) < m := by omega
      have hcell := HBK.out.cell (m - 1 - j)
      have hfree := HBK.out.free (m - 1 - j)
      rw [List.getElem?_eq_getElem (by rw [bs_len, List.length_append, List.length_replicate, numL_len]; omega)] at hcell
      generalize n / 256 ^ j = v at *
      have htm : ((v : Nat) : Int).tmod 256 = ((v : Nat) : Int) % 256 := Int.tmod_eq_emod_of_nonneg (by omega)
      have htd : ((v : Nat) : Int).tdiv 256 = ((v : Nat) : Int) / 256 := Int.tdiv_eq_ediv_of_nonneg (by omega)
      have HS := hide (HBK.out.set (m - 1 - j) (.int .u8 ((v : Int) % 256)))
      rw [HBK2.out] at HS
      have HW := hide (HBW.out.setCell (p := ⟨w.heap.size, m - 1 - j, none⟩) (Nat.le_refl _) (.int .u8 ((v : Int) % 256)))
      clear HBK HBW HBK2
      go_wp2_with fail
      go_roundw
      case rel => exact ⟨j + 1, by omega, by rw [HP.out]; exact val_num (by omega), val_num (by omega), hide (by rw [HNL.out]; exact HS.out), HW⟩
      case measure => simp [intOf]
    · obtain rfl : j = m := by omega
      have hge : ((j : Int) - 1 - j) < 0 := by omega
      have d1 : decide ((0 : Int) ≤ (j : Int) - 1 - j) = false := decide_eq_false (by omega)
      have HF := hide (show Blk wr w.heap.size 5 (bs (numL n j)) by
        have := HBK.out
        rwa [Nat.sub_self, List.replicate_zero, List.nil_append] at this)
      clear HBK
      go_wp2_with fail
      go_ret
      exact ⟨rfl, HF.out, HBW.out⟩
theorem genM_app : ∀ (l : List (List UInt8)) (s : List UInt8) (m : Nat), genM (l ++ [s]) m = max (max (genM l m) (genA s)) (genZ s)
  | [], _, _ => rfl
  | _ :: l, s, _ => genM_app l s _
theorem numB_genA {l : List UInt8} (h : l.length = 128) : numB (l.take 4) = genA l := by
  obtain ⟨a, b, c, d, r, rfl, hr⟩ := cons4 (l := l) (by omega)
  rw [show (a :: b :: c :: d :: r).take 4 = [a, b, c, d] from rfl, numB_four]
  rfl
theorem numB_genZ {l : List UInt8} (h : l.length = 128) : numB (l.drop 124) = genZ l := by
  have h1 : (l.drop 124).length = 4 := by rw [List.length_drop]; omega
  obtain ⟨a, b, c, d, r, hd, hr⟩ := cons4 (l := l.drop 124) (by omega)
  obtain rfl : r = [] := List.eq_nil_of_length_eq_zero (by omega)
  have hg : ∀ i, i < 4 → l.getD (124 + i) 0 = (l.drop 124).getD i 0 := fun i hi => by
    rw [List.getD_eq_getElem?_getD, List.getD_eq_getElem?_getD, List.getElem?_drop]
  rw [hd, numB_four]
  unfold genZ
  have g0 := hg 0 (by omega)
  have g1 := hg 1 (by omega)
  have g2 := hg 2 (by omega)
  have g3 := hg 3 (by omega)
  rw [hd] at g0 g1 g2 g3
  rw [g0, g1, g2, g3]
  rfl
set_option maxRecDepth 10000 in
set_option maxHeartbeats 3200000 in
theorem rgeneration_any (A : Option Addr) (ss : List Sec) (cap : Nat) (w : World) (hi : SecsIn n0 A ss cap w) (hl : ∀ i (h : i < ss.length), (ss[i]).l.length = 128) (hn : ss.length ≤ 4096) :
    Calls Try.prog 46 #[.slice A ss.length cap] w fun e w' => e = .returned (.int .u64 ((genM (secD ss) 0 + 1 : Nat) : Int)) ∧ ∃ n, w' = w.drewN n := by
  have HI := hide hi
  have HL := hide hl
  clear hi hl
  go_enter Try.func46, Try.ntmps46
  go_wp2_with fail
  go_loopw [3, 4] (fun v i wr => ∃ (k : Nat), k ≤ ss.length ∧ i = .int .i64 k ∧ v = .int .u64 (genM ((secD ss).take k) 0 : Nat) ∧ genM ((secD ss).take k) 0 < 4294967296 ∧ Hid (∃ n, wr = w.drewN n)) (fun _ i _ => ss.length - (intOf i).toNat)
  case atStart => exact ⟨0, Nat.zero_le _, rfl, rfl, by show 0 < 4294967296; omega, hide ⟨0, rfl⟩⟩
  case round =>
    obtain ⟨k, hk, rfl, rfl, hlt32, HWN⟩ := hrel
    obtain ⟨n, rfl⟩ := HWN.out
    by_cases hlt : k < ss.length
    · have hki : (k : Int) < ss.length := by omega
      obtain ⟨b, o, rfl, hb, hc⟩ := HI.out.at hlt
      have hs : (ss[k]).l.length = 128 := HL.out k hlt
      have HSI := hide (HI.out.each _ (List.getElem_mem hlt))
      have HG := hide (show genM ((secD ss).take (k + 1)) 0 = max (max (genM ((secD ss).take k) 0) (genA (ss[k]).l)) (genZ (ss[k]).l) by
        rw [List.take_succ_eq_append_getElem (by rw [secD_len]; exact hlt), genM_app, secD_get])
      have ha : genA (ss[k]).l < 4294967296 := n4_lt _ _ _ _
      have hz : genZ (ss[k]).l < 4294967296 := n4_lt _ _ _ _
      generalize ss[k] = s at *
      obtain ⟨sA, sl, sc⟩ := s
      replace hs : sl.length = 128 := hs
      have hsc : 128 ≤ sc := by have := HSI.out.le; simp only [hs] at this; exact this
      have hsc2 : sc ≤ 9223372036854775807 := HSI.out.cap
      obtain ⟨bb, oo, hsA, hbb, hcs⟩ := HSI.out.cels.at (k := 0) (by rw [bs_len]; simp only; omega)
      simp only at hsA
      subst hsA
      simp only [Sec.v, hs] at hc
      replace hc : (w.drewN n).cell? ⟨b, o + k, none⟩ = some (.slice (some ⟨bb, oo, none⟩) 128 sc) := hc
      have HDR := hide (fun x => show (w.drewN n).drewN x = w.drewN (n + x) from World.drewN_drewN ..)
      have H1 := hide (show ∀ m, Calls Try.prog 61 #[.slice (some ⟨bb, oo, none⟩) 4 sc] ((w.drewN n).drewN m) fun e w' => e = .returned (.int .u64 (genA sl : Nat)) ∧ w' = (w.drewN n).drewN m from fun m => by
        have := rnumber_any bb oo 4 sc (sl.take 4) ((w.drewN n).drewN m) (fun i h => by rw [List.length_take] at h; have := hcs i (by rw [bs_len]; simp only; omega); rw [bs_get] at this; simpa using this) (by rw [List.length_take]; omega) (by omega)
        rwa [numB_genA hs] at this)
      have H2 := hide (show ∀ m, Calls Try.prog 61 #[.slice (some ⟨bb, oo + 124, none⟩) 4 (sc - 124)] ((w.drewN n).drewN m) fun e w' => e = .returned (.int .u64 (genZ sl : Nat)) ∧ w' = (w.drewN n).drewN m from fun m => by
        have := rnumber_any bb (oo + 124) 4 (sc - 124) (sl.drop 124) ((w.drewN n).drewN m) (fun i h => by rw [List.length_drop] at h; have := hcs (124 + i) (by rw [bs_len]; simp only; omega); rw [bs_get] at this; rw [Nat.add_assoc]; simpa using this) (by rw [List.length_drop]; omega) (by omega)
        rwa [numB_genZ hs] at this)
      replace HG : Hid (genM ((secD ss).take (k + 1)) 0 = max (max (genM ((secD ss).take k) 0) (genA sl)) (genZ sl)) := HG
      replace ha : genA sl < 4294967296 := ha
      replace hz : genZ sl < 4294967296 := hz
      have i4 : (4 : Int) ≤ (sc : Int) := by omega
      have i124 : (124 : Int) ≤ (sc : Int) := by omega
      have n124' : ¬ sc = 124 := by omega
      clear hcs HSI hs
      generalize genM ((secD ss).take k) 0 = gm at *
      generalize genA sl = ga at *
      generalize genZ sl = gz at *
      generalize w.drewN n = wq at *
      go_wp2_with fail
      go_quiet (first | (go_at_call 61; first | (with_reducible refine Calls.quiet_of_same (H1.out _)) | (with_reducible refine Calls.quiet_of_same (H2.out _))))
      go_wp2_with fail
      go_roundw
      case rel =>
        refine ⟨k + 1, by omega, by go_num, ?_, by rw [HG.out]; omega, hide ⟨_, HDR.out _⟩⟩
        rw [HG.out]
        refine val_num ?_
        by_cases h1 : gm < ga
        · rw [if_pos h1]; split <;> omega
        · rw [if_neg h1]; split <;> omega
      case measure => simp [intOf]; omega
    · obtain rfl : k = ss.length := by omega
      have hge : ¬ ((ss.length : Int) < ss.length) := by omega
      have HF := hide (show (secD ss).take ss.length = secD ss from List.take_of_length_le (by rw [secD_len]; exact Nat.le_refl _))
      rw [HF.out] at hlt32 ⊢
      generalize hgm : genM (secD ss) 0 = gm at *
      have HGM := hide hgm
      clear hgm
      go_wp2_with fail
      go_ret
      exact ⟨ret_num (by rw [HGM.out]), n, rfl⟩
end Go.Proofs.Ytgigccgklahddaa

/- append(row, make([]byte, n)...). -/
namespace Go.Proofs.Ytgigccgklahddaa
open Go.RowKit

theorem zero_cells (m : Nat) : Builtin.zeroCells #[.int .u8 0] m = (bs (List.replicate m 0)).toArray := by
  apply Array.ext
  · simp [Builtin.zeroCells, bs]
  · intro i h1 h2
    simp [Builtin.zeroCells, bs, Nat.mod_one]
section
variable {P : Program} {w : World}
theorem run_app0 (base : Nat) (t tn ty e : TypeId) (i : TypeInfo) (ht : P.underlying t = some (.slice e)) (htn : P.underlying tn = some (.int .i64)) (hi : P.info? e = some i) (hz : i.zero = some (.int .u8 0)) (hsize : i.size = 1) (hby : i.bytes = 1)
    (g n cap : Nat) (xs : List Value) (hown : w.ownsRow base e 1 (.slice (some ⟨g, 0, none⟩) n cap) n xs) (m : Nat) (h63 : n + m ≤ 1000000) (hbase : base ≤ w.heap.size) :
    ∃ v' w', (Builtin.append_ #[t, tn] ty #[.slice (some ⟨g, 0, none⟩) n cap, .int .i64 (m : Nat)]).run P w = .ok v' w' ∧ w'.ownsRow base e 1 v' (n + m) (xs ++ bs (List.replicate m 0)) ∧ w.grownBy w' (some g) := by
  have hw : IntKind.i64.wrap (m : Int) = m := by rw [IntKind.wrap_i64]; omega
  have hneg : ¬ ((m : Int) < 0) := by omega
  have h48 : ¬ (281474976710656 < (m : Int)) := by omega
  have hl : (bs (List.replicate m 0)).length = m := by rw [bs_len, List.length_replicate]
  have hlen : (xs ++ bs (List.replicate m 0)).length = (n + m) * 1 := by rw [List.length_append, hown.1, hl]; omega
  rcases hown.2 with ⟨h0, _⟩ | ⟨g', cap', cur, hv, hbg, hg, hnc, hcm, hcs, htake⟩
  · cases h0
  · obtain ⟨e1, rfl⟩ := slice_inj hv
    obtain rfl : g = g' := by injection e1 with e1; injection e1
    rw [Nat.mul_one] at hcs htake
    by_cases hm : m = 0
    · subst hm
      refine ⟨.slice (some ⟨g, 0, none⟩) n cap, w, ?_, by simpa [bs] using hown, ⟨rfl, rfl, rfl, Nat.le_refl _, fun _ _ _ => rfl⟩⟩
      simp [Builtin.append_, run_underlying ht, run_underlying htn, sizeOf, typeInfo, hi, hby, asInt, asIntOf, hnc, storeCells, show IntKind.i64.wrap 0 = 0 by decide]
    by_cases hroom : n + m ≤ cap
    · have hst := run_storeCells_at P g n e (bs (List.replicate m 0)) 0 cur w hg (by rw [hl]; omega) (bs_one _)
      simp only [Nat.add_zero] at hst
      refine ⟨.slice (some ⟨g, 0, none⟩) (n + m) cap, w.setRow g (cur.toList.take n ++ bs (List.replicate m 0) ++ cur.toList.drop (n + (bs (List.replicate m 0)).length)).toArray, ?_, ⟨hlen, .inr ⟨g, cap, _, rfl, hbg, setRow_heap w g cur _ e _ hg, hroom, hcm, ?_, ?_⟩⟩, ⟨rfl, rfl, rfl, by simp, fun k _ hk => setRow_other w g k _ (fun e => hk (by simp [e]))⟩⟩
      · simp [Builtin.append_, run_underlying ht, run_underlying htn, sizeOf, typeInfo, zeroValue, hi, hz, hsize, hby, asInt, asIntOf, hw, hneg, h48, hroom, hm, Value.cells, zero_cells, Addr.add_lit, hst]
      · simp only [List.size_toArray, List.length_append, List.length_take, List.length_drop, Array.length_toList, hl]
        omega
      · rw [htake, ← hlen]
        exact List.take_left
    · have hge := grownCap_ge w (n + m) cap e
      have hcm2 : grownCap w (n + m) cap e ≤ maxLen := grownCap_le_maxLen w (n + m) cap e (by unfold maxLen; omega)
      have holds : ∀ j u, xs[j]? = some u → w.cell? ((⟨g, 0, none⟩ : Addr).add j) = some u := hown.cells (g := g) rfl
      have hf := run_firstCells_some (P := P) w.drew 1 n ⟨g, 0, none⟩ n cap xs hown.1 (fun j u h => holds j u h)
      have h48g : ¬ (281474976710656 < Builtin.nextslicecap (n + m) cap) := by
        have := growslice_fits (need := n + m) (old := cap) (bytes := 1) (by omega) (by omega)
        omega
      refine ⟨.slice (some ⟨w.heap.size, 0, none⟩) (n + m) (grownCap w (n + m) cap e), w.drew.alloc (.cells (xs.toArray ++ (bs (List.replicate m 0)).toArray ++ Builtin.zeroCells #[.int .u8 0] (grownCap w (n + m) cap e - (n + m))) e), ?_, ⟨hlen, .inr ⟨w.heap.size, _, _, rfl, hbase, heap_alloc_new w.drew _, hge, hcm2, ?_, ?_⟩⟩, ⟨rfl, rfl, rfl, by simp, fun k hk _ => heap_alloc_old w.drew _ hk⟩⟩
      · have h63' : ¬ (9223372036854775807 < ((n : Int) + m)) := by omega
        simp [Builtin.append_, run_underlying ht, run_underlying htn, sizeOf, typeInfo, zeroValue, hi, hz, hsize, hby, asInt, asIntOf, hw, hneg, h48, hroom, hm, Value.cells, zero_cells, hf, h63', h48g, newRow, grownCap, Question.forced]
      · simp only [Array.size_append, List.size_toArray, size_zeroCells, hown.1, hl]
        simp
        omega
      · simp only [Array.toList_append, List.append_assoc]
        rw [← List.append_assoc, ← hlen]
        exact List.take_left
/-- The operation. -/
theorem wpList_app0 {ops : Array Oper} {rest : List Oper} {o : Oper} {a : Act} {Q : Exit → Act → World → Prop} (hgd : o.guard = none) (s x : Operand) (t tn : TypeId) (ho : o.op = .call { callee := .builtin .append, args := #[s, x], argTypes := #[t, tn] })
    (base : Nat) (e : TypeId) (i : TypeInfo) (ht : P.underlying t = some (.slice e)) (htn : P.underlying tn = some (.int .i64)) (hi : P.info? e = some i ∧ i.zero = some (.int .u8 0) ∧ i.size = 1 ∧ i.bytes = 1)
    (g n cap : Nat) (xs : List Value) (hs : a.eval s = .slice (some ⟨g, 0, none⟩) n cap) (hown : w.ownsRow base e 1 (.slice (some ⟨g, 0, none⟩) n cap) n xs) (m : Nat) (hx : a.eval x = .int .i64 (m : Nat)) (h63 : n + m ≤ 1000000) (hbase : base ≤ w.heap.size)
    (h : ∀ A' cap' w', w'.ownsRow base e 1 (.slice A' (n + m) cap') (n + m) (xs ++ bs (List.replicate m 0)) → w.grownBy w' (some g) → wpList P ops Q rest (a.put o.dst (.slice A' (n + m) cap')) w') : wpList P ops Q (o :: rest) a w := by
  obtain ⟨v', w', hr, h2, h3⟩ := run_app0 (P := P) (w := w) base t tn o.type e i ht htn hi.1 hi.2.1 hi.2.2.1 hi.2.2.2 g n cap xs hown m h63 hbase
  obtain ⟨A', cap', rfl⟩ := own_form h2
  exact Lib.wpList_append_run w hgd s x t tn ho _ _ hs hx _ w' hr (h A' cap' w' h2 h3)
end
end Go.Proofs.Ytgigccgklahddaa

/- Sector of the reference. -/
namespace Go.Proofs.Ytgigccgklahddaa
open Go.RowKit
variable {n0 : Nat}

theorem own_of_blk {w : World} {base g e n : Nat} {xs : List Value} (h : Blk w g e xs) (hb : base ≤ g) (hn : xs.length = n) (hm : n ≤ maxLen) : w.ownsRow base e 1 (.slice (some ⟨g, 0, none⟩) n n) n xs :=
  ⟨by omega, .inr ⟨g, n, xs.toArray, rfl, hb, h, Nat.le_refl _, hm, by simp; omega, by
    rw [Nat.mul_one, List.toList_toArray, ← hn, List.take_length]⟩⟩
theorem blk_cells {w : World} {g e : Nat} {xs : List Value} (h : Blk w g e xs) : ∀ ad, some (⟨g, 0, none⟩ : Addr) = some ad → ∀ j u, xs[j]? = some u → w.cell? (ad.add j) = some u := fun ad e j u hu => by
  injection e with e
  subst e
  rw [Addr.add_mid, Nat.zero_add]
  exact (h.cell j).trans hu
theorem own_cells' {w : World} {base e n c g : Nat} {xs : List Value} (h : w.ownsRow base e 1 (.slice (some ⟨g, 0, none⟩) n c) n xs) : ∀ ad, some (⟨g, 0, none⟩ : Addr) = some ad → ∀ j u, xs[j]? = some u → w.cell? (ad.add j) = some u := fun ad e j u hu => by
  injection e with e
  subst e
  exact h.cells rfl j u hu
/-- What Sector answers. -/
def RSec (w : World) (l : List UInt8) (e : Ending) (w' : World) : Prop := ∃ A c, e = .returned (.slice A 128 c) ∧ w'.ownsRow w.heap.size 5 1 (.slice A 128 c) 128 (bs l) ∧ Below w.heap.size w w'

set_option maxRecDepth 100000 in
set_option maxHeartbeats 6400000 in
theorem rsector_0 (g k : Nat) (s : Sec) (w : World) (hg : g < 4294967296) (hk : k < 65536) (hs : s.In n0 w) (hl : s.l.length ≤ 112) :
    Calls Try.prog 48 #[.int .u64 (g : Nat), .int .i64 (k : Nat), .bool false, .bool false, s.v] w (RSec w (secB false false s.l k g)) := by
  have HSI := hide hs
  obtain ⟨sA, sl, sc⟩ := s
  replace hl : sl.length ≤ 112 := hl
  obtain ⟨i5, hi5⟩ := hinfo5
  have HI5 := hide hi5
  have HN1 := hide (rnumeral_any k 2 w (by omega) (by omega) (by omega))
  have HNG := hide (fun W => rnumeral_any g 4 W (by omega) (by omega) (by omega))
  have HNIL := hide (show sA = none → sl.length = 0 ∧ sc = 0 from fun h => by
    have h3 := hs.nil h
    have h4 := hs.le
    simp only at h3 h4
    omega)
  have hle : sl.length ≤ sc := hs.le
  have hcap : sc ≤ 9223372036854775807 := hs.cap
  have hlm : (sl.length : Int) % 256 = (sl.length : Int) := by omega
  have hkm : (k : Int) % 18446744073709551616 = (k : Int) := by omega
  have HBD := hide (show bs (bodyB false false sl k) = bs (numL k 2) ++ [Value.int .u8 0, Value.int .u8 (sl.length : Nat)] ++ bs sl ++ bs (List.replicate (112 - sl.length) 0) by
    unfold bodyB
    rw [bs_app, bs_app, numL_two, show [UInt8.ofNat (k / 256), UInt8.ofNat k, UInt8.ofNat (kindB false false), UInt8.ofNat sl.length] = [UInt8.ofNat (k / 256), UInt8.ofNat k] ++ [UInt8.ofNat (kindB false false), UInt8.ofNat sl.length] from rfl, bs_app, show bs [UInt8.ofNat (kindB false false), UInt8.ofNat sl.length] = [Value.int .u8 0, Value.int .u8 (sl.length : Nat)] by
      simp only [bs, List.map_cons, List.map_nil, u8_nat]
      rw [show sl.length % 256 = sl.length by omega]
      rfl, List.append_assoc, List.append_assoc, List.append_assoc])
  clear hs hi5
  go_enter Try.func48, Try.ntmps48
  go_wp2_with fail
  refine HN1.out.mono ?_
  rintro e w1 ⟨rfl, hb1, hbl1⟩
  have HB1 := hide hbl1
  have HO1 := hide (own_of_blk (base := w.heap.size) (n := 2) (hb1.alloc (.cells #[.int .u8 0, .int .u8 (sl.length : Nat)] 5)) (Nat.le_refl _) (by rw [bs_len, numL_len]) (by decide))
  have HC1 := hide (new_cells w1 5 [.int .u8 0, .int .u8 (sl.length : Nat)])
  have HB1a := hide (hbl1.alloc hbl1.size (.cells #[.int .u8 0, .int .u8 (sl.length : Nat)] 5))
  have hz1 := HB1a.out.size
  clear hb1 hbl1 HN1
  go_wp2_with (first
    | (at_builtin; refine wpList_app rfl (.tmp 22) (.tmp 27) 35 rfl w.heap.size 5 i5 _ 1 1 Try.underlying35 HI5.out rfl (by omega) _ 2 (bs (numL k 2)) rfl HO1.out (some ⟨w1.heap.size, 0, none⟩) 2 2 [.int .u8 0, .int .u8 (sl.length : Nat)] rfl (fun h => by cases h) rfl HC1.out (by simp [Value.oneCell']) (by decide) (by omega) hz1 ?_; intro A2 cap2 w2 hown hgr; have HO2 := hide (show w2.ownsRow w.heap.size 5 1 (.slice A2 4 cap2) 4 (bs (numL k 2) ++ [Value.int .u8 0, Value.int .u8 (sl.length : Nat)]) from hown); have HB2 := hide (below_app HB1a.out HO1.out hgr (Nat.le_refl _) hz1); have HS2 := hide ((HSI.out.below HB2.out).cels.opt); have hz2 := HB2.out.size; clear hown hgr)
    | (at_builtin; refine wpList_app rfl (.tmp 29) (.tmp 30) 35 rfl w.heap.size 5 i5 _ 1 1 Try.underlying35 HI5.out rfl (by omega) (.slice A2 4 cap2) 4 (bs (numL k 2) ++ [Value.int .u8 0, Value.int .u8 (sl.length : Nat)]) rfl HO2.out sA sl.length sc (bs sl) rfl HNIL.out (by rw [bs_len, Nat.mul_one]) HS2.out (bs_one _) (by unfold maxLen; omega) (by omega) hz2 ?_; intro A3 cap3 w3 hown hgr; have HB3 := hide (below_app HB2.out HO2.out hgr (Nat.le_refl _) hz2); obtain ⟨g3, c3', he3, hg3, _⟩ := hown.form (by omega); obtain ⟨rfl, rfl⟩ := slice_inj he3; have HO3 := hide hown; have hz3 := HB3.out.size; clear hown hgr he3 hg3)
    | (at_builtin; refine wpList_app0 rfl (.tmp 32) (.tmp 35) 35 3 rfl w.heap.size 5 i5 Try.underlying35 Try.underlying3 HI5.out g3 (4 + sl.length) _ (bs (numL k 2) ++ [Value.int .u8 0, Value.int .u8 (sl.length : Nat)] ++ bs sl) rfl HO3.out (112 - sl.length) (val_num (by omega)) (by omega) hz3 ?_; intro A4 cap4 w4 hown hgr; have HB4 := hide (below_app (v := .slice (some ⟨g3, 0, none⟩) (4 + sl.length) _) HB3.out HO3.out hgr (Nat.le_refl _) hz3); obtain ⟨g4, c4', he4, hg4, hg4b⟩ := hown.form (by omega); obtain ⟨rfl, rfl⟩ := slice_inj he4; rw [show 4 + sl.length + (112 - sl.length) = 116 by omega] at hown ⊢; rw [← HBD.out] at hown; have HO4 := hide hown; clear hown hgr he4))
  refine (HNG.out w4).mono ?_
  rintro e w5 ⟨rfl, hbY, hb5⟩
  have HB5 := hide (below_one HB4.out hb5)
  have HO5 := hide (own_later HO4.out hb5)
  have HY5 := hide hbY
  have hg45 : w4.heap.size < w5.heap.size := hbY.lt
  have HCK := hide (rchecksum_any g4 0 116 cap4 (bodyB false false sl k) w5 (fun i h => by
    have := HO5.out.cells (g := g4) rfl i _ (List.getElem?_eq_getElem (by rw [bs_len]; exact h))
    rw [Addr.add_mid, bs_get] at this
    exact this) (bodyB_len hl).symm (by omega))
  clear hbY hb5
  go_wp2_with fail
  refine HCK.out.mono ?_
  rintro e w6 ⟨rfl, rfl⟩
  have hcl := (crc (bodyB false false sl k)).isLt
  obtain ⟨cn, hcn⟩ : ∃ x, x = (crc (bodyB false false sl k)).toNat := ⟨_, rfl⟩
  have HCE0 := hide (show b4 (crc (bodyB false false sl k)).toNat = numL cn 4 by rw [hcn, numL_four])
  simp only [uv]
  rw [← hcn] at hcl ⊢
  clear hcn
  have HNC := hide (rnumeral_any cn 4 w6 (by omega) (by omega) (by omega))
  have hcm : (cn : Int) % 18446744073709551616 = (cn : Int) := by omega
  clear HCK
  go_wp2_with fail
  refine HNC.out.mono ?_
  rintro e w7 ⟨rfl, hbZ, hb7⟩
  have HB7 := hide (below_one HB5.out hb7)
  have HO7 := hide (own_later HO5.out hb7)
  have HY7 := hide (own_of_blk (base := w.heap.size) (n := 4) (HY5.out.below hb7 HY5.out.lt) HB4.out.size (by rw [bs_len, numL_len]) (by decide))
  have HZ7 := hide (blk_cells hbZ)
  have hz7 := HB7.out.size
  clear hbZ hb7 HNC
  go_wp2_with (first
    | (at_builtin; refine wpList_app rfl (.tmp 38) (.tmp 42) 35 rfl w.heap.size 5 i5 _ 1 1 Try.underlying35 HI5.out rfl (by omega) (.slice (some ⟨w4.heap.size, 0, none⟩) 4 4) 4 (bs (numL g 4)) rfl HY7.out (some ⟨w6.heap.size, 0, none⟩) 4 4 (bs (numL cn 4)) rfl (fun h => by cases h) (by rw [bs_len, numL_len]) HZ7.out (bs_one _) (by decide) (by omega) hz7 ?_; intro A8 cap8 w8 hown hgr; have HO8 := hide (show w8.ownsRow w.heap.size 5 1 (.slice A8 8 cap8) 8 (bs (numL g 4) ++ bs (numL cn 4)) from hown); have HB8 := hide (below_app HB7.out HY7.out hgr (Nat.le_refl _) hz7); have HK8 := hide (own_cells' (HO7.out.kept hgr (.inr (by simp only [Value.ownBlock, ne_eq, Option.some.injEq]; omega)))); have hz8 := HB8.out.size; clear hown hgr)
    | (at_builtin; refine wpList_app rfl (.tmp 44) (.tmp 45) 35 rfl w.heap.size 5 i5 _ 1 1 Try.underlying35 HI5.out rfl (by omega) (.slice A8 8 cap8) 8 (bs (numL g 4) ++ bs (numL cn 4)) rfl HO8.out (some ⟨g4, 0, none⟩) 116 cap4 (bs (bodyB false false sl k)) rfl (fun h => by cases h) (by rw [bs_len, bodyB_len hl]) HK8.out (bs_one _) (by decide) (by omega) hz8 ?_; intro A9 cap9 w9 hown hgr; have HO9 := hide (show w9.ownsRow w.heap.size 5 1 (.slice A9 124 cap9) 124 (bs (numL g 4) ++ bs (numL cn 4) ++ bs (bodyB false false sl k)) from hown); have HB9 := hide (below_app HB8.out HO8.out hgr (Nat.le_refl _) hz8); clear hown hgr))
  refine (HNG.out w9).mono ?_
  rintro e w10 ⟨rfl, hbV, hb10⟩
  have HB10 := hide (below_one HB9.out hb10)
  have HO10 := hide (own_later HO9.out hb10)
  have HV10 := hide (blk_cells hbV)
  have hz10 := HB10.out.size
  clear hbV hb10
  go_wp2_with (at_builtin; refine wpList_app rfl (.tmp 46) (.tmp 48) 35 rfl w.heap.size 5 i5 _ 1 1 Try.underlying35 HI5.out rfl (by omega) (.slice A9 124 cap9) 124 (bs (numL g 4) ++ bs (numL cn 4) ++ bs (bodyB false false sl k)) rfl HO10.out (some ⟨w9.heap.size, 0, none⟩) 4 4 (bs (numL g 4)) rfl (fun h => by cases h) (by rw [bs_len, numL_len]) HV10.out (bs_one _) (by decide) (by omega) hz10 ?_; intro A11 cap11 w11 hown hgr; have HO11 := hide (show w11.ownsRow w.heap.size 5 1 (.slice A11 128 cap11) 128 (bs (numL g 4) ++ bs (numL cn 4) ++ bs (bodyB false false sl k) ++ bs (numL g 4)) from hown); have HB11 := hide (below_app HB10.out HO10.out hgr (Nat.le_refl _) hz10); clear hown hgr)
  go_ret
  refine ⟨A11, cap11, rfl, ?_, HB11.out⟩
  unfold secB
  have := HO11.out
  rw [bs_app, bs_app, bs_app, HCE0.out, ← numL_four g]
  simpa only [List.append_assoc] using this

set_option maxRecDepth 100000 in
set_option maxHeartbeats 6400000 in
theorem rsector_2 (g k : Nat) (s : Sec) (w : World) (hg : g < 4294967296) (hk : k < 65536) (hs : s.In n0 w) (hl : s.l.length ≤ 112) :
    Calls Try.prog 48 #[.int .u64 (g : Nat), .int .i64 (k : Nat), .bool false, .bool true, s.v] w (RSec w (secB false true s.l k g)) := by
  have HSI := hide hs
  obtain ⟨sA, sl, sc⟩ := s
  replace hl : sl.length ≤ 112 := hl
  obtain ⟨i5, hi5⟩ := hinfo5
  have HI5 := hide hi5
  have HN1 := hide (rnumeral_any k 2 w (by omega) (by omega) (by omega))
  have HNG := hide (fun W => rnumeral_any g 4 W (by omega) (by omega) (by omega))
  have HNIL := hide (show sA = none → sl.length = 0 ∧ sc = 0 from fun h => by
    have h3 := hs.nil h
    have h4 := hs.le
    simp only at h3 h4
    omega)
  have hle : sl.length ≤ sc := hs.le
  have hcap : sc ≤ 9223372036854775807 := hs.cap
  have hlm : (sl.length : Int) % 256 = (sl.length : Int) := by omega
  have hkm : (k : Int) % 18446744073709551616 = (k : Int) := by omega
  have HBD := hide (show bs (bodyB false true sl k) = bs (numL k 2) ++ [Value.int .u8 2, Value.int .u8 (sl.length : Nat)] ++ bs sl ++ bs (List.replicate (112 - sl.length) 0) by
    unfold bodyB
    rw [bs_app, bs_app, numL_two, show [UInt8.ofNat (k / 256), UInt8.ofNat k, UInt8.ofNat (kindB false true), UInt8.ofNat sl.length] = [UInt8.ofNat (k / 256), UInt8.ofNat k] ++ [UInt8.ofNat (kindB false true), UInt8.ofNat sl.length] from rfl, bs_app, show bs [UInt8.ofNat (kindB false true), UInt8.ofNat sl.length] = [Value.int .u8 2, Value.int .u8 (sl.length : Nat)] by
      simp only [bs, List.map_cons, List.map_nil, u8_nat]
      rw [show sl.length % 256 = sl.length by omega]
      rfl, List.append_assoc, List.append_assoc, List.append_assoc])
  clear hs hi5
  go_enter Try.func48, Try.ntmps48
  go_wp2_with fail
  refine HN1.out.mono ?_
  rintro e w1 ⟨rfl, hb1, hbl1⟩
  have HB1 := hide hbl1
  have HO1 := hide (own_of_blk (base := w.heap.size) (n := 2) (hb1.alloc (.cells #[.int .u8 2, .int .u8 (sl.length : Nat)] 5)) (Nat.le_refl _) (by rw [bs_len, numL_len]) (by decide))
  have HC1 := hide (new_cells w1 5 [.int .u8 2, .int .u8 (sl.length : Nat)])
  have HB1a := hide (hbl1.alloc hbl1.size (.cells #[.int .u8 2, .int .u8 (sl.length : Nat)] 5))
  have hz1 := HB1a.out.size
  clear hb1 hbl1 HN1
  go_wp2_with (first
    | (at_builtin; refine wpList_app rfl (.tmp 22) (.tmp 27) 35 rfl w.heap.size 5 i5 _ 1 1 Try.underlying35 HI5.out rfl (by omega) _ 2 (bs (numL k 2)) rfl HO1.out (some ⟨w1.heap.size, 0, none⟩) 2 2 [.int .u8 2, .int .u8 (sl.length : Nat)] rfl (fun h => by cases h) rfl HC1.out (by simp [Value.oneCell']) (by decide) (by omega) hz1 ?_; intro A2 cap2 w2 hown hgr; have HO2 := hide (show w2.ownsRow w.heap.size 5 1 (.slice A2 4 cap2) 4 (bs (numL k 2) ++ [Value.int .u8 2, Value.int .u8 (sl.length : Nat)]) from hown); have HB2 := hide (below_app HB1a.out HO1.out hgr (Nat.le_refl _) hz1); have HS2 := hide ((HSI.out.below HB2.out).cels.opt); have hz2 := HB2.out.size; clear hown hgr)
    | (at_builtin; refine wpList_app rfl (.tmp 29) (.tmp 30) 35 rfl w.heap.size 5 i5 _ 1 1 Try.underlying35 HI5.out rfl (by omega) (.slice A2 4 cap2) 4 (bs (numL k 2) ++ [Value.int .u8 2, Value.int .u8 (sl.length : Nat)]) rfl HO2.out sA sl.length sc (bs sl) rfl HNIL.out (by rw [bs_len, Nat.mul_one]) HS2.out (bs_one _) (by unfold maxLen; omega) (by omega) hz2 ?_; intro A3 cap3 w3 hown hgr; have HB3 := hide (below_app HB2.out HO2.out hgr (Nat.le_refl _) hz2); obtain ⟨g3, c3', he3, hg3, _⟩ := hown.form (by omega); obtain ⟨rfl, rfl⟩ := slice_inj he3; have HO3 := hide hown; have hz3 := HB3.out.size; clear hown hgr he3 hg3)
    | (at_builtin; refine wpList_app0 rfl (.tmp 32) (.tmp 35) 35 3 rfl w.heap.size 5 i5 Try.underlying35 Try.underlying3 HI5.out g3 (4 + sl.length) _ (bs (numL k 2) ++ [Value.int .u8 2, Value.int .u8 (sl.length : Nat)] ++ bs sl) rfl HO3.out (112 - sl.length) (val_num (by omega)) (by omega) hz3 ?_; intro A4 cap4 w4 hown hgr; have HB4 := hide (below_app (v := .slice (some ⟨g3, 0, none⟩) (4 + sl.length) _) HB3.out HO3.out hgr (Nat.le_refl _) hz3); obtain ⟨g4, c4', he4, hg4, hg4b⟩ := hown.form (by omega); obtain ⟨rfl, rfl⟩ := slice_inj he4; rw [show 4 + sl.length + (112 - sl.length) = 116 by omega] at hown ⊢; rw [← HBD.out] at hown; have HO4 := hide hown; clear hown hgr he4))
  refine (HNG.out w4).mono ?_
  rintro e w5 ⟨rfl, hbY, hb5⟩
  have HB5 := hide (below_one HB4.out hb5)
  have HO5 := hide (own_later HO4.out hb5)
  have HY5 := hide hbY
  have hg45 : w4.heap.size < w5.heap.size := hbY.lt
  have HCK := hide (rchecksum_any g4 0 116 cap4 (bodyB false true sl k) w5 (fun i h => by
    have := HO5.out.cells (g := g4) rfl i _ (List.getElem?_eq_getElem (by rw [bs_len]; exact h))
    rw [Addr.add_mid, bs_get] at this
    exact this) (bodyB_len hl).symm (by omega))
  clear hbY hb5
  go_wp2_with fail
  refine HCK.out.mono ?_
  rintro e w6 ⟨rfl, rfl⟩
  have hcl := (crc (bodyB false true sl k)).isLt
  obtain ⟨cn, hcn⟩ : ∃ x, x = (crc (bodyB false true sl k)).toNat := ⟨_, rfl⟩
  have HCE0 := hide (show b4 (crc (bodyB false true sl k)).toNat = numL cn 4 by rw [hcn, numL_four])
  simp only [uv]
  rw [← hcn] at hcl ⊢
  clear hcn
  have HNC := hide (rnumeral_any cn 4 w6 (by omega) (by omega) (by omega))
  have hcm : (cn : Int) % 18446744073709551616 = (cn : Int) := by omega
  clear HCK
  go_wp2_with fail
  refine HNC.out.mono ?_
  rintro e w7 ⟨rfl, hbZ, hb7⟩
  have HB7 := hide (below_one HB5.out hb7)
  have HO7 := hide (own_later HO5.out hb7)
  have HY7 := hide (own_of_blk (base := w.heap.size) (n := 4) (HY5.out.below hb7 HY5.out.lt) HB4.out.size (by rw [bs_len, numL_len]) (by decide))
  have HZ7 := hide (blk_cells hbZ)
  have hz7 := HB7.out.size
  clear hbZ hb7 HNC
  go_wp2_with (first
    | (at_builtin; refine wpList_app rfl (.tmp 38) (.tmp 42) 35 rfl w.heap.size 5 i5 _ 1 1 Try.underlying35 HI5.out rfl (by omega) (.slice (some ⟨w4.heap.size, 0, none⟩) 4 4) 4 (bs (numL g 4)) rfl HY7.out (some ⟨w6.heap.size, 0, none⟩) 4 4 (bs (numL cn 4)) rfl (fun h => by cases h) (by rw [bs_len, numL_len]) HZ7.out (bs_one _) (by decide) (by omega) hz7 ?_; intro A8 cap8 w8 hown hgr; have HO8 := hide (show w8.ownsRow w.heap.size 5 1 (.slice A8 8 cap8) 8 (bs (numL g 4) ++ bs (numL cn 4)) from hown); have HB8 := hide (below_app HB7.out HY7.out hgr (Nat.le_refl _) hz7); have HK8 := hide (own_cells' (HO7.out.kept hgr (.inr (by simp only [Value.ownBlock, ne_eq, Option.some.injEq]; omega)))); have hz8 := HB8.out.size; clear hown hgr)
    | (at_builtin; refine wpList_app rfl (.tmp 44) (.tmp 45) 35 rfl w.heap.size 5 i5 _ 1 1 Try.underlying35 HI5.out rfl (by omega) (.slice A8 8 cap8) 8 (bs (numL g 4) ++ bs (numL cn 4)) rfl HO8.out (some ⟨g4, 0, none⟩) 116 cap4 (bs (bodyB false true sl k)) rfl (fun h => by cases h) (by rw [bs_len, bodyB_len hl]) HK8.out (bs_one _) (by decide) (by omega) hz8 ?_; intro A9 cap9 w9 hown hgr; have HO9 := hide (show w9.ownsRow w.heap.size 5 1 (.slice A9 124 cap9) 124 (bs (numL g 4) ++ bs (numL cn 4) ++ bs (bodyB false true sl k)) from hown); have HB9 := hide (below_app HB8.out HO8.out hgr (Nat.le_refl _) hz8); clear hown hgr))
  refine (HNG.out w9).mono ?_
  rintro e w10 ⟨rfl, hbV, hb10⟩
  have HB10 := hide (below_one HB9.out hb10)
  have HO10 := hide (own_later HO9.out hb10)
  have HV10 := hide (blk_cells hbV)
  have hz10 := HB10.out.size
  clear hbV hb10
  go_wp2_with (at_builtin; refine wpList_app rfl (.tmp 46) (.tmp 48) 35 rfl w.heap.size 5 i5 _ 1 1 Try.underlying35 HI5.out rfl (by omega) (.slice A9 124 cap9) 124 (bs (numL g 4) ++ bs (numL cn 4) ++ bs (bodyB false true sl k)) rfl HO10.out (some ⟨w9.heap.size, 0, none⟩) 4 4 (bs (numL g 4)) rfl (fun h => by cases h) (by rw [bs_len, numL_len]) HV10.out (bs_one _) (by decide) (by omega) hz10 ?_; intro A11 cap11 w11 hown hgr; have HO11 := hide (show w11.ownsRow w.heap.size 5 1 (.slice A11 128 cap11) 128 (bs (numL g 4) ++ bs (numL cn 4) ++ bs (bodyB false true sl k) ++ bs (numL g 4)) from hown); have HB11 := hide (below_app HB10.out HO10.out hgr (Nat.le_refl _) hz10); clear hown hgr)
  go_ret
  refine ⟨A11, cap11, rfl, ?_, HB11.out⟩
  unfold secB
  have := HO11.out
  rw [bs_app, bs_app, bs_app, HCE0.out, ← numL_four g]
  simpa only [List.append_assoc] using this

set_option maxRecDepth 100000 in
set_option maxHeartbeats 6400000 in
theorem rsector_1 (g k : Nat) (s : Sec) (w : World) (hg : g < 4294967296) (hk : k < 65536) (hs : s.In n0 w) (hl : s.l.length ≤ 112) :
    Calls Try.prog 48 #[.int .u64 (g : Nat), .int .i64 (k : Nat), .bool true, .bool false, s.v] w (RSec w (secB true false s.l k g)) := by
  have HSI := hide hs
  obtain ⟨sA, sl, sc⟩ := s
  replace hl : sl.length ≤ 112 := hl
  obtain ⟨i5, hi5⟩ := hinfo5
  have HI5 := hide hi5
  have HN1 := hide (rnumeral_any k 2 w (by omega) (by omega) (by omega))
  have HNG := hide (fun W => rnumeral_any g 4 W (by omega) (by omega) (by omega))
  have HNIL := hide (show sA = none → sl.length = 0 ∧ sc = 0 from fun h => by
    have h3 := hs.nil h
    have h4 := hs.le
    simp only at h3 h4
    omega)
  have hle : sl.length ≤ sc := hs.le
  have hcap : sc ≤ 9223372036854775807 := hs.cap
  have hlm : (sl.length : Int) % 256 = (sl.length : Int) := by omega
  have hkm : (k : Int) % 18446744073709551616 = (k : Int) := by omega
  have HBD := hide (show bs (bodyB true false sl k) = bs (numL k 2) ++ [Value.int .u8 1, Value.int .u8 (sl.length : Nat)] ++ bs sl ++ bs (List.replicate (112 - sl.length) 0) by
    unfold bodyB
    rw [bs_app, bs_app, numL_two, show [UInt8.ofNat (k / 256), UInt8.ofNat k, UInt8.ofNat (kindB true false), UInt8.ofNat sl.length] = [UInt8.ofNat (k / 256), UInt8.ofNat k] ++ [UInt8.ofNat (kindB true false), UInt8.ofNat sl.length] from rfl, bs_app, show bs [UInt8.ofNat (kindB true false), UInt8.ofNat sl.length] = [Value.int .u8 1, Value.int .u8 (sl.length : Nat)] by
      simp only [bs, List.map_cons, List.map_nil, u8_nat]
      rw [show sl.length % 256 = sl.length by omega]
      rfl, List.append_assoc, List.append_assoc, List.append_assoc])
  clear hs hi5
  go_enter Try.func48, Try.ntmps48
  go_wp2_with fail
  refine HN1.out.mono ?_
  rintro e w1 ⟨rfl, hb1, hbl1⟩
  have HB1 := hide hbl1
  have HO1 := hide (own_of_blk (base := w.heap.size) (n := 2) (hb1.alloc (.cells #[.int .u8 1, .int .u8 (sl.length : Nat)] 5)) (Nat.le_refl _) (by rw [bs_len, numL_len]) (by decide))
  have HC1 := hide (new_cells w1 5 [.int .u8 1, .int .u8 (sl.length : Nat)])
  have HB1a := hide (hbl1.alloc hbl1.size (.cells #[.int .u8 1, .int .u8 (sl.length : Nat)] 5))
  have hz1 := HB1a.out.size
  clear hb1 hbl1 HN1
  go_wp2_with (first
    | (at_builtin; refine wpList_app rfl (.tmp 22) (.tmp 27) 35 rfl w.heap.size 5 i5 _ 1 1 Try.underlying35 HI5.out rfl (by omega) _ 2 (bs (numL k 2)) rfl HO1.out (some ⟨w1.heap.size, 0, none⟩) 2 2 [.int .u8 1, .int .u8 (sl.length : Nat)] rfl (fun h => by cases h) rfl HC1.out (by simp [Value.oneCell']) (by decide) (by omega) hz1 ?_; intro A2 cap2 w2 hown hgr; have HO2 := hide (show w2.ownsRow w.heap.size 5 1 (.slice A2 4 cap2) 4 (bs (numL k 2) ++ [Value.int .u8 1, Value.int .u8 (sl.length : Nat)]) from hown); have HB2 := hide (below_app HB1a.out HO1.out hgr (Nat.le_refl _) hz1); have HS2 := hide ((HSI.out.below HB2.out).cels.opt); have hz2 := HB2.out.size; clear hown hgr)
    | (at_builtin; refine wpList_app rfl (.tmp 29) (.tmp 30) 35 rfl w.heap.size 5 i5 _ 1 1 Try.underlying35 HI5.out rfl (by omega) (.slice A2 4 cap2) 4 (bs (numL k 2) ++ [Value.int .u8 1, Value.int .u8 (sl.length : Nat)]) rfl HO2.out sA sl.length sc (bs sl) rfl HNIL.out (by rw [bs_len, Nat.mul_one]) HS2.out (bs_one _) (by unfold maxLen; omega) (by omega) hz2 ?_; intro A3 cap3 w3 hown hgr; have HB3 := hide (below_app HB2.out HO2.out hgr (Nat.le_refl _) hz2); obtain ⟨g3, c3', he3, hg3, _⟩ := hown.form (by omega); obtain ⟨rfl, rfl⟩ := slice_inj he3; have HO3 := hide hown; have hz3 := HB3.out.size; clear hown hgr he3 hg3)
    | (at_builtin; refine wpList_app0 rfl (.tmp 32) (.tmp 35) 35 3 rfl w.heap.size 5 i5 Try.underlying35 Try.underlying3 HI5.out g3 (4 + sl.length) _ (bs (numL k 2) ++ [Value.int .u8 1, Value.int .u8 (sl.length : Nat)] ++ bs sl) rfl HO3.out (112 - sl.length) (val_num (by omega)) (by omega) hz3 ?_; intro A4 cap4 w4 hown hgr; have HB4 := hide (below_app (v := .slice (some ⟨g3, 0, none⟩) (4 + sl.length) _) HB3.out HO3.out hgr (Nat.le_refl _) hz3); obtain ⟨g4, c4', he4, hg4, hg4b⟩ := hown.form (by omega); obtain ⟨rfl, rfl⟩ := slice_inj he4; rw [show 4 + sl.length + (112 - sl.length) = 116 by omega] at hown ⊢; rw [← HBD.out] at hown; have HO4 := hide hown; clear hown hgr he4))
  refine (HNG.out w4).mono ?_
  rintro e w5 ⟨rfl, hbY, hb5⟩
  have HB5 := hide (below_one HB4.out hb5)
  have HO5 := hide (own_later HO4.out hb5)
  have HY5 := hide hbY
  have hg45 : w4.heap.size < w5.heap.size := hbY.lt
  have HCK := hide (rchecksum_any g4 0 116 cap4 (bodyB true false sl k) w5 (fun i h => by
    have := HO5.out.cells (g := g4) rfl i _ (List.getElem?_eq_getElem (by rw [bs_len]; exact h))
    rw [Addr.add_mid, bs_get] at this
    exact this) (bodyB_len hl).symm (by omega))
  clear hbY hb5
  go_wp2_with fail
  refine HCK.out.mono ?_
  rintro e w6 ⟨rfl, rfl⟩
  have hcl := (crc (bodyB true false sl k)).isLt
  obtain ⟨cn, hcn⟩ : ∃ x, x = (crc (bodyB true false sl k)).toNat := ⟨_, rfl⟩
  have HCE0 := hide (show b4 (crc (bodyB true false sl k)).toNat = numL cn 4 by rw [hcn, numL_four])
  simp only [uv]
  rw [← hcn] at hcl ⊢
  clear hcn
  have HNC := hide (rnumeral_any cn 4 w6 (by omega) (by omega) (by omega))
  have hcm : (cn : Int) % 18446744073709551616 = (cn : Int) := by omega
  clear HCK
  go_wp2_with fail
  refine HNC.out.mono ?_
  rintro e w7 ⟨rfl, hbZ, hb7⟩
  have HB7 := hide (below_one HB5.out hb7)
  have HO7 := hide (own_later HO5.out hb7)
  have HY7 := hide (own_of_blk (base := w.heap.size) (n := 4) (HY5.out.below hb7 HY5.out.lt) HB4.out.size (by rw [bs_len, numL_len]) (by decide))
  have HZ7 := hide (blk_cells hbZ)
  have hz7 := HB7.out.size
  clear hbZ hb7 HNC
  go_wp2_with (first
    | (at_builtin; refine wpList_app rfl (.tmp 38) (.tmp 42) 35 rfl w.heap.size 5 i5 _ 1 1 Try.underlying35 HI5.out rfl (by omega) (.slice (some ⟨w4.heap.size, 0, none⟩) 4 4) 4 (bs (numL g 4)) rfl HY7.out (some ⟨w6.heap.size, 0, none⟩) 4 4 (bs (numL cn 4)) rfl (fun h => by cases h) (by rw [bs_len, numL_len]) HZ7.out (bs_one _) (by decide) (by omega) hz7 ?_; intro A8 cap8 w8 hown hgr; have HO8 := hide (show w8.ownsRow w.heap.size 5 1 (.slice A8 8 cap8) 8 (bs (numL g 4) ++ bs (numL cn 4)) from hown); have HB8 := hide (below_app HB7.out HY7.out hgr (Nat.le_refl _) hz7); have HK8 := hide (own_cells' (HO7.out.kept hgr (.inr (by simp only [Value.ownBlock, ne_eq, Option.some.injEq]; omega)))); have hz8 := HB8.out.size; clear hown hgr)
    | (at_builtin; refine wpList_app rfl (.tmp 44) (.tmp 45) 35 rfl w.heap.size 5 i5 _ 1 1 Try.underlying35 HI5.out rfl (by omega) (.slice A8 8 cap8) 8 (bs (numL g 4) ++ bs (numL cn 4)) rfl HO8.out (some ⟨g4, 0, none⟩) 116 cap4 (bs (bodyB true false sl k)) rfl (fun h => by cases h) (by rw [bs_len, bodyB_len hl]) HK8.out (bs_one _) (by decide) (by omega) hz8 ?_; intro A9 cap9 w9 hown hgr; have HO9 := hide (show w9.ownsRow w.heap.size 5 1 (.slice A9 124 cap9) 124 (bs (numL g 4) ++ bs (numL cn 4) ++ bs (bodyB true false sl k)) from hown); have HB9 := hide (below_app HB8.out HO8.out hgr (Nat.le_refl _) hz8); clear hown hgr))
  refine (HNG.out w9).mono ?_
  rintro e w10 ⟨rfl, hbV, hb10⟩
  have HB10 := hide (below_one HB9.out hb10)
  have HO10 := hide (own_later HO9.out hb10)
  have HV10 := hide (blk_cells hbV)
  have hz10 := HB10.out.size
  clear hbV hb10
  go_wp2_with (at_builtin; refine wpList_app rfl (.tmp 46) (.tmp 48) 35 rfl w.heap.size 5 i5 _ 1 1 Try.underlying35 HI5.out rfl (by omega) (.slice A9 124 cap9) 124 (bs (numL g 4) ++ bs (numL cn 4) ++ bs (bodyB true false sl k)) rfl HO10.out (some ⟨w9.heap.size, 0, none⟩) 4 4 (bs (numL g 4)) rfl (fun h => by cases h) (by rw [bs_len, numL_len]) HV10.out (bs_one _) (by decide) (by omega) hz10 ?_; intro A11 cap11 w11 hown hgr; have HO11 := hide (show w11.ownsRow w.heap.size 5 1 (.slice A11 128 cap11) 128 (bs (numL g 4) ++ bs (numL cn 4) ++ bs (bodyB true false sl k) ++ bs (numL g 4)) from hown); have HB11 := hide (below_app HB10.out HO10.out hgr (Nat.le_refl _) hz10); clear hown hgr)
  go_ret
  refine ⟨A11, cap11, rfl, ?_, HB11.out⟩
  unfold secB
  have := HO11.out
  rw [bs_app, bs_app, bs_app, HCE0.out, ← numL_four g]
  simpa only [List.append_assoc] using this

set_option maxRecDepth 100000 in
set_option maxHeartbeats 6400000 in
theorem rsector_3 (g k : Nat) (s : Sec) (w : World) (hg : g < 4294967296) (hk : k < 65536) (hs : s.In n0 w) (hl : s.l.length ≤ 112) :
    Calls Try.prog 48 #[.int .u64 (g : Nat), .int .i64 (k : Nat), .bool true, .bool true, s.v] w (RSec w (secB true true s.l k g)) := by
  have HSI := hide hs
  obtain ⟨sA, sl, sc⟩ := s
  replace hl : sl.length ≤ 112 := hl
  obtain ⟨i5, hi5⟩ := hinfo5
  have HI5 := hide hi5
  have HN1 := hide (rnumeral_any k 2 w (by omega) (by omega) (by omega))
  have HNG := hide (fun W => rnumeral_any g 4 W (by omega) (by omega) (by omega))
  have HNIL := hide (show sA = none → sl.length = 0 ∧ sc = 0 from fun h => by
    have h3 := hs.nil h
    have h4 := hs.le
    simp only at h3 h4
    omega)
  have hle : sl.length ≤ sc := hs.le
  have hcap : sc ≤ 9223372036854775807 := hs.cap
  have hlm : (sl.length : Int) % 256 = (sl.length : Int) := by omega
  have hkm : (k : Int) % 18446744073709551616 = (k : Int) := by omega
  have HBD := hide (show bs (bodyB true true sl k) = bs (numL k 2) ++ [Value.int .u8 3, Value.int .u8 (sl.length : Nat)] ++ bs sl ++ bs (List.replicate (112 - sl.length) 0) by
    unfold bodyB
    rw [bs_app, bs_app, numL_two, show [UInt8.ofNat (k / 256), UInt8.ofNat k, UInt8.ofNat (kindB true true), UInt8.ofNat sl.length] = [UInt8.ofNat (k / 256), UInt8.ofNat k] ++ [UInt8.ofNat (kindB true true), UInt8.ofNat sl.length] from rfl, bs_app, show bs [UInt8.ofNat (kindB true true), UInt8.ofNat sl.length] = [Value.int .u8 3, Value.int .u8 (sl.length : Nat)] by
      simp only [bs, List.map_cons, List.map_nil, u8_nat]
      rw [show sl.length % 256 = sl.length by omega]
      rfl, List.append_assoc, List.append_assoc, List.append_assoc])
  clear hs hi5
  go_enter Try.func48, Try.ntmps48
  go_wp2_with fail
  refine HN1.out.mono ?_
  rintro e w1 ⟨rfl, hb1, hbl1⟩
  have HB1 := hide hbl1
  have HO1 := hide (own_of_blk (base := w.heap.size) (n := 2) (hb1.alloc (.cells #[.int .u8 3, .int .u8 (sl.length : Nat)] 5)) (Nat.le_refl _) (by rw [bs_len, numL_len]) (by decide))
  have HC1 := hide (new_cells w1 5 [.int .u8 3, .int .u8 (sl.length : Nat)])
  have HB1a := hide (hbl1.alloc hbl1.size (.cells #[.int .u8 3, .int .u8 (sl.length : Nat)] 5))
  have hz1 := HB1a.out.size
  clear hb1 hbl1 HN1
  go_wp2_with (first
    | (at_builtin; refine wpList_app rfl (.tmp 22) (.tmp 27) 35 rfl w.heap.size 5 i5 _ 1 1 Try.underlying35 HI5.out rfl (by omega) _ 2 (bs (numL k 2)) rfl HO1.out (some ⟨w1.heap.size, 0, none⟩) 2 2 [.int .u8 3, .int .u8 (sl.length : Nat)] rfl (fun h => by cases h) rfl HC1.out (by simp [Value.oneCell']) (by decide) (by omega) hz1 ?_; intro A2 cap2 w2 hown hgr; have HO2 := hide (show w2.ownsRow w.heap.size 5 1 (.slice A2 4 cap2) 4 (bs (numL k 2) ++ [Value.int .u8 3, Value.int .u8 (sl.length : Nat)]) from hown); have HB2 := hide (below_app HB1a.out HO1.out hgr (Nat.le_refl _) hz1); have HS2 := hide ((HSI.out.below HB2.out).cels.opt); have hz2 := HB2.out.size; clear hown hgr)
    | (at_builtin; refine wpList_app rfl (.tmp 29) (.tmp 30) 35 rfl w.heap.size 5 i5 _ 1 1 Try.underlying35 HI5.out rfl (by omega) (.slice A2 4 cap2) 4 (bs (numL k 2) ++ [Value.int .u8 3, Value.int .u8 (sl.length : Nat)]) rfl HO2.out sA sl.length sc (bs sl) rfl HNIL.out (by rw [bs_len, Nat.mul_one]) HS2.out (bs_one _) (by unfold maxLen; omega) (by omega) hz2 ?_; intro A3 cap3 w3 hown hgr; have HB3 := hide (below_app HB2.out HO2.out hgr (Nat.le_refl _) hz2); obtain ⟨g3, c3', he3, hg3, _⟩ := hown.form (by omega); obtain ⟨rfl, rfl⟩ := slice_inj he3; have HO3 := hide hown; have hz3 := HB3.out.size; clear hown hgr he3 hg3)
    | (at_builtin; refine wpList_app0 rfl (.tmp 32) (.tmp 35) 35 3 rfl w.heap.size 5 i5 Try.underlying35 Try.underlying3 HI5.out g3 (4 + sl.length) _ (bs (numL k 2) ++ [Value.int .u8 3, Value.int .u8 (sl.length : Nat)] ++ bs sl) rfl HO3.out (112 - sl.length) (val_num (by omega)) (by omega) hz3 ?_; intro A4 cap4 w4 hown hgr; have HB4 := hide (below_app (v := .slice (some ⟨g3, 0, none⟩) (4 + sl.length) _) HB3.out HO3.out hgr (Nat.le_refl _) hz3); obtain ⟨g4, c4', he4, hg4, hg4b⟩ := hown.form (by omega); obtain ⟨rfl, rfl⟩ := slice_inj he4; rw [show 4 + sl.length + (112 - sl.length) = 116 by omega] at hown ⊢; rw [← HBD.out] at hown; have HO4 := hide hown; clear hown hgr he4))
  refine (HNG.out w4).mono ?_
  rintro e w5 ⟨rfl, hbY, hb5⟩
  have HB5 := hide (below_one HB4.out hb5)
  have HO5 := hide (own_later HO4.out hb5)
  have HY5 := hide hbY
  have hg45 : w4.heap.size < w5.heap.size := hbY.lt
  have HCK := hide (rchecksum_any g4 0 116 cap4 (bodyB true true sl k) w5 (fun i h => by
    have := HO5.out.cells (g := g4) rfl i _ (List.getElem?_eq_getElem (by rw [bs_len]; exact h))
    rw [Addr.add_mid, bs_get] at this
    exact this) (bodyB_len hl).symm (by omega))
  clear hbY hb5
  go_wp2_with fail
  refine HCK.out.mono ?_
  rintro e w6 ⟨rfl, rfl⟩
  have hcl := (crc (bodyB true true sl k)).isLt
  obtain ⟨cn, hcn⟩ : ∃ x, x = (crc (bodyB true true sl k)).toNat := ⟨_, rfl⟩
  have HCE0 := hide (show b4 (crc (bodyB true true sl k)).toNat = numL cn 4 by rw [hcn, numL_four])
  simp only [uv]
  rw [← hcn] at hcl ⊢
  clear hcn
  have HNC := hide (rnumeral_any cn 4 w6 (by omega) (by omega) (by omega))
  have hcm : (cn : Int) % 18446744073709551616 = (cn : Int) := by omega
  clear HCK
  go_wp2_with fail
  refine HNC.out.mono ?_
  rintro e w7 ⟨rfl, hbZ, hb7⟩
  have HB7 := hide (below_one HB5.out hb7)
  have HO7 := hide (own_later HO5.out hb7)
  have HY7 := hide (own_of_blk (base := w.heap.size) (n := 4) (HY5.out.below hb7 HY5.out.lt) HB4.out.size (by rw [bs_len, numL_len]) (by decide))
  have HZ7 := hide (blk_cells hbZ)
  have hz7 := HB7.out.size
  clear hbZ hb7 HNC
  go_wp2_with (first
    | (at_builtin; refine wpList_app rfl (.tmp 38) (.tmp 42) 35 rfl w.heap.size 5 i5 _ 1 1 Try.underlying35 HI5.out rfl (by omega) (.slice (some ⟨w4.heap.size, 0, none⟩) 4 4) 4 (bs (numL g 4)) rfl HY7.out (some ⟨w6.heap.size, 0, none⟩) 4 4 (bs (numL cn 4)) rfl (fun h => by cases h) (by rw [bs_len, numL_len]) HZ7.out (bs_one _) (by decide) (by omega) hz7 ?_; intro A8 cap8 w8 hown hgr; have HO8 := hide (show w8.ownsRow w.heap.size 5 1 (.slice A8 8 cap8) 8 (bs (numL g 4) ++ bs (numL cn 4)) from hown); have HB8 := hide (below_app HB7.out HY7.out hgr (Nat.le_refl _) hz7); have HK8 := hide (own_cells' (HO7.out.kept hgr (.inr (by simp only [Value.ownBlock, ne_eq, Option.some.injEq]; omega)))); have hz8 := HB8.out.size; clear hown hgr)
    | (at_builtin; refine wpList_app rfl (.tmp 44) (.tmp 45) 35 rfl w.heap.size 5 i5 _ 1 1 Try.underlying35 HI5.out rfl (by omega) (.slice A8 8 cap8) 8 (bs (numL g 4) ++ bs (numL cn 4)) rfl HO8.out (some ⟨g4, 0, none⟩) 116 cap4 (bs (bodyB true true sl k)) rfl (fun h => by cases h) (by rw [bs_len, bodyB_len hl]) HK8.out (bs_one _) (by decide) (by omega) hz8 ?_; intro A9 cap9 w9 hown hgr; have HO9 := hide (show w9.ownsRow w.heap.size 5 1 (.slice A9 124 cap9) 124 (bs (numL g 4) ++ bs (numL cn 4) ++ bs (bodyB true true sl k)) from hown); have HB9 := hide (below_app HB8.out HO8.out hgr (Nat.le_refl _) hz8); clear hown hgr))
  refine (HNG.out w9).mono ?_
  rintro e w10 ⟨rfl, hbV, hb10⟩
  have HB10 := hide (below_one HB9.out hb10)
  have HO10 := hide (own_later HO9.out hb10)
  have HV10 := hide (blk_cells hbV)
  have hz10 := HB10.out.size
  clear hbV hb10
  go_wp2_with (at_builtin; refine wpList_app rfl (.tmp 46) (.tmp 48) 35 rfl w.heap.size 5 i5 _ 1 1 Try.underlying35 HI5.out rfl (by omega) (.slice A9 124 cap9) 124 (bs (numL g 4) ++ bs (numL cn 4) ++ bs (bodyB true true sl k)) rfl HO10.out (some ⟨w9.heap.size, 0, none⟩) 4 4 (bs (numL g 4)) rfl (fun h => by cases h) (by rw [bs_len, numL_len]) HV10.out (bs_one _) (by decide) (by omega) hz10 ?_; intro A11 cap11 w11 hown hgr; have HO11 := hide (show w11.ownsRow w.heap.size 5 1 (.slice A11 128 cap11) 128 (bs (numL g 4) ++ bs (numL cn 4) ++ bs (bodyB true true sl k) ++ bs (numL g 4)) from hown); have HB11 := hide (below_app HB10.out HO10.out hgr (Nat.le_refl _) hz10); clear hown hgr)
  go_ret
  refine ⟨A11, cap11, rfl, ?_, HB11.out⟩
  unfold secB
  have := HO11.out
  rw [bs_app, bs_app, bs_app, HCE0.out, ← numL_four g]
  simpa only [List.append_assoc] using this

theorem rsector_any (g k : Nat) (bg en : Bool) (s : Sec) (w : World) (hg : g < 4294967296) (hk : k < 65536) (hs : s.In n0 w) (hl : s.l.length ≤ 112) :
    Calls Try.prog 48 #[.int .u64 (g : Nat), .int .i64 (k : Nat), .bool bg, .bool en, s.v] w (RSec w (secB bg en s.l k g)) := by
  cases bg <;> cases en
  · exact rsector_0 g k s w hg hk hs hl
  · exact rsector_2 g k s w hg hk hs hl
  · exact rsector_1 g k s w hg hk hs hl
  · exact rsector_3 g k s w hg hk hs hl
end Go.Proofs.Ytgigccgklahddaa

/- Sync of the reference: its errors. -/
namespace Go.Proofs.Ytgigccgklahddaa
open Go.RowKit
variable {n0 : Nat}

set_option maxRecDepth 100000 in
set_option maxHeartbeats 1600000 in
theorem rsync_e1 (j : Jr) (d : Dsk) (w : World) (hj : j.In n0 w) (h : jchk j.k ≠ 0) : Calls Try.prog 22 #[j.v, d.v] w (JSAns n0 w (jsyncB j.k d.d)) := by
  have HB := hide (JB.new w j d)
  have HC := hide (jrcheck_any j _ (hj.below HB.out.bel))
  have HX := hide (show jsyncB j.k d.d = (Jk.zero, Dk.zero, jchk j.k) by unfold jsyncB; rw [if_neg h])
  have h' : (jchk j.k != 0) = true := by simpa using h
  obtain ⟨A, rs, cap, many, synced⟩ := j
  generalize jchk _ = m at *
  clear hj h
  go_enter Try.func22, Try.ntmps22
  go_wp2_with fail
  refine HC.out.mono ?_
  rintro e w1 ⟨rfl, hb⟩
  have HB1 := hide (HB.out.below hb)
  have HB2 := hide (HB1.out.nought)
  have HR := hide (HB1.out.b3.far (Y := w.heap.size + 1 + 1) (by omega) #[.slice none 0 0, .int .i64 0, .int .i64 0])
  clear hb
  go_wp2_with (first | (refine wpList_store_row rfl 29 (.tmp 4) (.tmp 22) rfl (w.heap.size + 1 + 1) #[.slice none 0 0, .int .i64 0, .int .i64 0] rfl rfl 29 _ HB1.out.b2 Try.size29 rfl (one29 _ _ _ _ _) ?_) | (refine wpList_store_row rfl 25 (.tmp 5) (.tmp 23) rfl (w.heap.size + 1 + 1 + 1) #[.slice none 0 0, .slice none 0 0, .int .i64 0, .bool false] rfl rfl 25 _ HR.out Try.size25 rfl (one25 _ _ _ _ _ _ _ _) ?_))
  exact bodyPost_ret (v := .tuple #[Jr.zero.v, Dsk.zero.v, .int .i64 m]) (results_cells_tmp rfl _ _ (w.heap.size + 1 + 1) (w.heap.size + 1 + 1 + 1) 29 25 _ _ _ _ (.int .i64 m) rfl rfl rfl HB2.out.1 HB2.out.2.1 Try.underlying29 rfl Try.size29 Try.underlying25 rfl Try.size25) rfl (JSAns.zero HX.out HB2.out.2.2)

set_option maxRecDepth 100000 in
set_option maxHeartbeats 1600000 in
theorem rsync_e2 (j : Jr) (d : Dsk) (w : World) (hj : j.In n0 w) (hd : d.In n0 w) (h : jchk j.k = 0) (h2 : d.d.valid = false) : Calls Try.prog 22 #[j.v, d.v] w (JSAns n0 w (jsyncB j.k d.d)) := by
  have HB := hide (JB.new w j d)
  have HC := hide (jrcheck_any j _ (hj.below HB.out.bel))
  have HCD := hide (fun W (hW : Below w.heap.size w W) => rcheck_any d W (hd.below hW))
  have HX := hide (show jsyncB j.k d.d = (Jk.zero, Dk.zero, 40) by unfold jsyncB; rw [if_pos h, if_neg (by rw [cdk_no h2]; decide), cdk_no h2])
  rw [show chk d.d = 40 by simp [chk, h2]] at HCD
  rw [h] at HC
  obtain ⟨A, rs, cap, many, synced⟩ := j
  clear hj hd h h2
  go_enter Try.func22, Try.ntmps22
  go_wp2_with fail
  refine HC.out.mono ?_
  rintro e w0 ⟨rfl, hb⟩
  have HB0 := hide (HB.out.below hb)
  obtain ⟨c0, c1, c2, c3⟩ := HB0.out.b1.c4
  clear hb
  go_wp2_with fail
  refine (HCD.out _ HB0.out.bel).mono ?_
  rintro e w1 ⟨rfl, hb⟩
  have HB1 := hide (HB0.out.below hb)
  have HB2 := hide (HB1.out.nought)
  have HR := hide (HB1.out.b3.far (Y := w.heap.size + 1 + 1) (by omega) #[.slice none 0 0, .int .i64 0, .int .i64 0])
  clear hb c0 c1 c2 c3
  go_wp2_with (first | (refine wpList_store_row rfl 29 (.tmp 4) (.tmp 29) rfl (w.heap.size + 1 + 1) #[.slice none 0 0, .int .i64 0, .int .i64 0] rfl rfl 29 _ HB1.out.b2 Try.size29 rfl (one29 _ _ _ _ _) ?_) | (refine wpList_store_row rfl 25 (.tmp 5) (.tmp 30) rfl (w.heap.size + 1 + 1 + 1) #[.slice none 0 0, .slice none 0 0, .int .i64 0, .bool false] rfl rfl 25 _ HR.out Try.size25 rfl (one25 _ _ _ _ _ _ _ _) ?_))
  exact bodyPost_ret (v := .tuple #[Jr.zero.v, Dsk.zero.v, .int .i64 40]) (results_cells_tmp rfl _ _ (w.heap.size + 1 + 1) (w.heap.size + 1 + 1 + 1) 29 25 _ _ _ _ (.int .i64 40) rfl rfl rfl HB2.out.1 HB2.out.2.1 Try.underlying29 rfl Try.size29 Try.underlying25 rfl Try.size25) rfl (JSAns.zero HX.out HB2.out.2.2)

set_option maxRecDepth 100000 in
set_option maxHeartbeats 1600000 in
theorem rsync_e3 (j : Jr) (d : Dsk) (w : World) (hj : j.In n0 w) (hd : d.In n0 w) (h : jchk j.k = 0) (h2 : d.d.valid = true) (h3 : d.stp = true) : Calls Try.prog 22 #[j.v, d.v] w (JSAns n0 w (jsyncB j.k d.d)) := by
  have HB := hide (JB.new w j d)
  have HC := hide (jrcheck_any j _ (hj.below HB.out.bel))
  have HCD := hide (fun W (hW : Below w.heap.size w W) => rcheck_any d W (hd.below hW))
  have HX := hide (show jsyncB j.k d.d = (Jk.zero, Dk.zero, 40) by unfold jsyncB; rw [if_pos h, if_neg (by rw [cdk_stp h2 h3]; decide), cdk_stp h2 h3])
  rw [show chk d.d = 0 by simp [chk, h2]] at HCD
  rw [h] at HC
  have HS := hide h3
  obtain ⟨A, rs, cap, many, synced⟩ := j
  clear hj hd h h2 h3
  go_enter Try.func22, Try.ntmps22
  go_wp2_with fail
  refine HC.out.mono ?_
  rintro e w0 ⟨rfl, hb⟩
  have HB0 := hide (HB.out.below hb)
  obtain ⟨c0, c1, c2, c3⟩ := HB0.out.b1.c4
  clear hb
  go_wp2_with fail
  refine (HCD.out _ HB0.out.bel).mono ?_
  rintro e w1 ⟨rfl, hb⟩
  have HB1 := hide (HB0.out.below hb)
  have HB2 := hide (HB1.out.nought)
  have HR := hide (HB1.out.b3.far (Y := w.heap.size + 1 + 1) (by omega) #[.slice none 0 0, .int .i64 0, .int .i64 0])
  clear c0 c1 c2 c3
  obtain ⟨-, -, -, c3⟩ := HB1.out.b1.c4
  rw [HS.out] at c3
  clear hb
  go_wp2_with (first | (refine wpList_store_row rfl 29 (.tmp 4) (.tmp 34) rfl (w.heap.size + 1 + 1) #[.slice none 0 0, .int .i64 0, .int .i64 0] rfl rfl 29 _ HB1.out.b2 Try.size29 rfl (one29 _ _ _ _ _) ?_) | (refine wpList_store_row rfl 25 (.tmp 5) (.tmp 35) rfl (w.heap.size + 1 + 1 + 1) #[.slice none 0 0, .slice none 0 0, .int .i64 0, .bool false] rfl rfl 25 _ HR.out Try.size25 rfl (one25 _ _ _ _ _ _ _ _) ?_))
  exact bodyPost_ret (v := .tuple #[Jr.zero.v, Dsk.zero.v, .int .i64 40]) (results_cells_tmp rfl _ _ (w.heap.size + 1 + 1) (w.heap.size + 1 + 1 + 1) 29 25 _ _ _ _ (.int .i64 40) rfl rfl rfl HB2.out.1 HB2.out.2.1 Try.underlying29 rfl Try.size29 Try.underlying25 rfl Try.size25) rfl (JSAns.zero HX.out HB2.out.2.2)

set_option maxRecDepth 100000 in
set_option maxHeartbeats 1600000 in
theorem rsync_e4 (j : Jr) (d : Dsk) (w : World) (hj : j.In n0 w) (hd : d.In n0 w) (h : jchk j.k = 0) (h2 : d.d.valid = true) (h3 : d.stp = false) (h4 : j.many ≠ d.ss.length ∨ (j.many = d.ss.length ∧ 0 < d.ps.length)) : Calls Try.prog 22 #[j.v, d.v] w (JSAns n0 w (jsyncB j.k d.d)) := by
  have HB := hide (JB.new w j d)
  have HC := hide (jrcheck_any j _ (hj.below HB.out.bel))
  have HCD := hide (fun W (hW : Below w.heap.size w W) => rcheck_any d W (hd.below hW))
  have HX := hide (show jsyncB j.k d.d = (Jk.zero, Dk.zero, 1) by
    unfold jsyncB
    rw [if_pos h]
    by_cases hp : d.d.pen = []
    · rw [if_pos (cdk_ok h2 h3 hp), if_neg]
      show ¬ (j.many = ((secD d.ss).length : Nat))
      rw [secD_len]
      rcases h4 with h4 | h4
      · exact h4
      · have : (wrD d.ps).length = 0 := by rw [show wrD d.ps = d.d.pen from rfl, hp]; rfl
        rw [wrD_len] at this
        omega
    · rw [if_neg (by rw [cdk_pen h2 h3 hp]; decide), cdk_pen h2 h3 hp])
  rw [show chk d.d = 0 by simp [chk, h2]] at HCD
  rw [h] at HC
  have HS := hide h3
  have hl1 : d.ss.length ≤ d.sc := hd.sec.le
  have hl2 : d.sc ≤ 9223372036854775807 := hd.sec.top
  have hl3 : d.ps.length ≤ d.pc := hd.pen.le
  have hl4 : d.pc ≤ 9223372036854775807 := hd.pen.top
  obtain ⟨A, rs, cap, many, synced⟩ := j
  have h5 : (many != (d.ss.length : Int)) = true ∨ ((many != (d.ss.length : Int)) = false ∧ decide (0 < d.ps.length) = true ∧ decide ((0 : Int) < (d.ps.length : Int)) = true) := by
    rcases h4 with h4 | ⟨h4, h5⟩
    · exact .inl (bne_iff_ne.2 h4)
    · exact .inr ⟨bne_eq_false_iff_eq.2 h4, decide_eq_true h5, decide_eq_true (by omega)⟩
  clear hj hd h h2 h3 h4
  rcases h5 with h5 | ⟨h5, h6, h7⟩
  all_goals
    go_enter Try.func22, Try.ntmps22
    go_wp2_with fail
    refine HC.out.mono ?_
    rintro e w0 ⟨rfl, hb⟩
    have HB0 := hide (HB.out.below hb)
    obtain ⟨c0, c1, c2, c3⟩ := HB0.out.b1.c4
    clear hb
    go_wp2_with fail
    refine (HCD.out _ HB0.out.bel).mono ?_
    rintro e w1 ⟨rfl, hb⟩
    have HB1 := hide (HB0.out.below hb)
    have HB2 := hide (HB1.out.nought)
    have HR := hide (HB1.out.b3.far (Y := w.heap.size + 1 + 1) (by omega) #[.slice none 0 0, .int .i64 0, .int .i64 0])
    clear c0 c1 c2 c3
    obtain ⟨c0, c1, c2, c3⟩ := HB1.out.b1.c4
    rw [HS.out] at c3
    have j1 := HB1.out.b0.cell 1
    simp only [List.getElem?_cons_zero, List.getElem?_cons_succ] at j1
    clear hb
    go_wp2_with (first | (refine wpList_store_row rfl 29 (.tmp 4) (.tmp 48) rfl (w.heap.size + 1 + 1) #[.slice none 0 0, .int .i64 0, .int .i64 0] rfl rfl 29 _ HB1.out.b2 Try.size29 rfl (one29 _ _ _ _ _) ?_) | (refine wpList_store_row rfl 25 (.tmp 5) (.tmp 49) rfl (w.heap.size + 1 + 1 + 1) #[.slice none 0 0, .slice none 0 0, .int .i64 0, .bool false] rfl rfl 25 _ HR.out Try.size25 rfl (one25 _ _ _ _ _ _ _ _) ?_))
    exact bodyPost_ret (v := .tuple #[Jr.zero.v, Dsk.zero.v, .int .i64 1]) (results_cells_tmp rfl _ _ (w.heap.size + 1 + 1) (w.heap.size + 1 + 1 + 1) 29 25 _ _ _ _ (.int .i64 1) rfl rfl rfl HB2.out.1 HB2.out.2.1 Try.underlying29 rfl Try.size29 Try.underlying25 rfl Try.size25) rfl (JSAns.zero HX.out HB2.out.2.2)
end Go.Proofs.Ytgigccgklahddaa

/- Sync of the reference. -/
namespace Go.Proofs.Ytgigccgklahddaa
open Go.RowKit
variable {n0 : Nat}

theorem Blk.t3 {w : World} {X T : Nat} {v0 v1 v2 : Value} (h : Blk w X T [v0, v1, v2]) : w.cell? ⟨X, 0, none⟩ = some v0 ∧ w.cell? ⟨X, 1, none⟩ = some v1 ∧ w.cell? ⟨X, 2, none⟩ = some v2 := ⟨h.cell 0, h.cell 1, h.cell 2⟩
/-- The records that were read, as a list in memory. -/
theorem recs_in {w W : World} {B : Option Addr} {c : Nat} {l : List Sec} (h : RecsIn w B c l W) : SecsIn n0 B l c W := by
  refine ⟨fun hne => ?_, fun s hs => (h.each s hs).1.in, (own_caps h.own).1, (own_caps h.own).2, fun e => ?_⟩
  · obtain ⟨g, c', he, _, _⟩ := h.own.form (by
      rcases Nat.eq_zero_or_pos l.length with h | h
      · rw [List.eq_nil_of_length_eq_zero h] at hne
        exact absurd rfl hne
      · exact h)
    obtain ⟨rfl, rfl⟩ := slice_inj he
    obtain ⟨cs, hcs⟩ := own_blk h.own
    exact hcs.cels (by omega) hne
  · subst e
    rcases h.own.2 with ⟨h, _⟩ | ⟨g, cap', cur, hv, _⟩
    · injection h
    · cases hv

set_option maxRecDepth 100000 in
set_option maxHeartbeats 6400000 in
theorem rsync_go (j : Jr) (d : Dsk) (w : World) (hn0 : n0 ≤ w.heap.size) (hj : j.In n0 w) (hd : d.In n0 w) (h : jchk j.k = 0) (hv : d.d.valid = true) (hst : d.stp = false) (hpen : d.ps.length = 0) (h3 : j.many = d.ss.length) : Calls Try.prog 22 #[j.v, d.v] w (JSAns n0 w (jsyncB j.k d.d)) := by
  have HB := hide (JB.new w j d)
  have HC := hide (jrcheck_any j _ (hj.below HB.out.bel))
  have HCD := hide (fun W (hW : Below w.heap.size w W) => rcheck_any d W (hd.below hW))
  rw [show chk d.d = 0 by simp [chk, hv]] at HCD
  have hok := ok_iff.1 (jchk_zero h)
  have hpn : d.d.pen = [] := List.eq_nil_of_length_eq_zero (by show (wrD d.ps).length = 0; rw [wrD_len]; exact hpen)
  have hc0 : cdk d.d = 0 := cdk_ok hv hst hpn
  have hrun : d.d.runs = true := by
    unfold Dk.runs
    rw [hv, show d.d.stp = d.stp from rfl, hst]
    rfl
  have hv1 := hv
  rw [valid_iff] at hv1
  simp only [Bool.and_eq_true] at hv1
  obtain ⟨⟨hn1, hn2⟩, hsl⟩ := validSec_iff.1 hv1.1.1
  rw [secD_len] at hn1 hn2
  have hsl' : ∀ i (h : i < d.ss.length), (d.ss[i]).l.length = 128 := fun i h => by
    have := hsl i (by rw [secD_len]; exact h)
    rw [secD_get] at this
    exact this
  have HGR := hide (fun W (hW : Below w.heap.size w W) => rgeneration_any d.sa d.ss d.sc W (hd.sec.below hW) hsl' hn2)
  have HRC := hide (fun W (hW : Below w.heap.size w W) => rrecords_any d.sa d.ss d.sc W (hd.sec.below hW) hsl' hn2)
  have hl1 : d.ss.length ≤ d.sc := hd.sec.le
  have hl2 : d.sc ≤ 9223372036854775807 := hd.sec.top
  have hl3 : d.ps.length ≤ d.pc := hd.pen.le
  have hl4 : d.pc ≤ 9223372036854775807 := hd.pen.top
  obtain ⟨A, rs, cap, many, synced⟩ := j
  obtain ⟨sy, rfl⟩ : ∃ sy : Nat, synced = sy := Int.eq_ofNat_of_zero_le hok.2.2.1
  have hsy : sy ≤ rs.length := by have := hok.2.2.2.1; simp only [Jr.k, secD_len] at this; omega
  have hle := hj.recs.le
  have htop := hj.recs.top
  simp only at hle htop h3
  subst h3
  have hgl : genM (secD d.ss) 0 < 4294967296 := genM_lt _ _ (by decide)
  have hX : jsyncB (Jr.mk A rs cap d.ss.length sy).k d.d = if recordsB (secD d.ss) = (secD rs).take sy ∧ genM (secD d.ss) 0 < 4294967295 then
      (if (sy : Int) = (rs.length : Nat) then ((Jr.mk A rs cap d.ss.length sy).k, d.d, 0)
       else if (⟨secD d.ss, writesP (usedB ((secD rs).take sy)) (genM (secD d.ss) 0 + 1) (((secD rs).drop sy).flatMap piecesB), d.left, d.stp⟩ : Dk).sync.2 = 0 then (⟨secD rs, d.ss.length, (rs.length : Nat)⟩, (⟨secD d.ss, writesP (usedB ((secD rs).take sy)) (genM (secD d.ss) 0 + 1) (((secD rs).drop sy).flatMap piecesB), d.left, d.stp⟩ : Dk).sync.1, 0)
       else (Jk.zero, (⟨secD d.ss, writesP (usedB ((secD rs).take sy)) (genM (secD d.ss) 0 + 1) (((secD rs).drop sy).flatMap piecesB), d.left, d.stp⟩ : Dk).sync))
      else (Jk.zero, Dk.zero, 50) := by
    unfold jsyncB
    rw [if_pos h, if_pos hc0, if_pos (by show (d.ss.length : Int) = ((secD d.ss).length : Nat); rw [secD_len])]
    simp only [Jr.k, Dsk.d, Int.toNat_natCast, secD_len]
  have HX := hide hX
  have HJ := hide hj
  have HD := hide hd
  have HRUN := hide hrun
  have HPEN := hide hpen
  have HST := hide hst
  have HN2 := hide hn2
  have HTL := hide (show (rs.take sy).length = sy by rw [List.length_take]; omega)
  have hm' : ((d.ss.length : Int) != (d.ss.length : Int)) = false := by simp
  have hp1 : decide (0 < d.ps.length) = false := decide_eq_false (by omega)
  have hp2 : decide ((0 : Int) < (d.ps.length : Int)) = false := decide_eq_false (by omega)
  rw [h] at HC
  have hs0 : (0 : Int) ≤ (sy : Int) := by omega
  have hs1 : (sy : Int) ≤ (cap : Int) := by omega
  have hs2 : sy ≤ cap := by omega
  have HUB := hide (show usedB (secD rs) ≤ d.ss.length by have := hok.2.2.2.2; simp only [Jr.k] at this; omega)
  clear hj hd h hX hok hv hv1 hsl hsl' hpen hst hpn hc0 hrun
  go_enter Try.func22, Try.ntmps22
  go_wp2_with fail
  refine HC.out.mono ?_
  rintro e w0 ⟨rfl, hb⟩
  have HB0 := hide (HB.out.below hb)
  obtain ⟨c0, c1, c2, c3⟩ := HB0.out.b1.c4
  clear hb HC HB
  go_wp2_with fail
  refine (HCD.out _ HB0.out.bel).mono ?_
  rintro e w1 ⟨rfl, hb⟩
  have HB1 := hide (HB0.out.below hb)
  clear hb c0 c1 c2 c3 HCD HB0
  obtain ⟨c0, c1, c2, c3⟩ := HB1.out.b1.c4
  rw [HST.out] at c3
  have j1 := HB1.out.b0.cell 1
  simp only [List.getElem?_cons_zero, List.getElem?_cons_succ] at j1
  clear c2
  have HG1 := hide (HGR.out _ HB1.out.bel)
  obtain ⟨g, hg⟩ : ∃ g, g = genM (secD d.ss) 0 := ⟨_, rfl⟩
  rw [← hg] at hgl HX
  rw [← hg, Int.natCast_add] at HG1
  clear hg HGR
  go_wp2_with fail
  refine HG1.out.mono ?_
  rintro e w2 ⟨rfl, n2, rfl⟩
  have HB2 := hide (HB1.out.below (below_dn _ w1 n2))
  clear HB1 c0 c1 c3 j1 HG1
  generalize w1.drewN n2 = w2 at *
  by_cases hsm : recordsB (secD d.ss) = (secD rs).take sy
  · have hsame : decide (recordsB (secD d.ss) = (secD rs).take sy) = true := decide_eq_true hsm
    by_cases hgg : g < 4294967295
    · rw [if_pos ⟨hsm, hgg⟩] at HX
      have hg1 : decide ((4294967295 : Int) < (g : Int) + 1) = false := decide_eq_false (by omega)
      clear hsm
      go_upto_region 12 with (fail)
      refine wp_region_plan3 (fun w' => Below w2.heap.size w2 w') (.take 0 (.take 1 (.take 3 (.take 4 (.take 5 (.take 6 (.take 7 (.run 2 (.run 8 (.take 9 (.take 10 (.take 11 (.take 12 (.take 13 .done)))))))))))))) (by kernel_rfl) (by kernel_rfl) ((Below.refl _ _).drew) ?_
      have HS0 := hide (show Below w2.heap.size w2 w2.drew from (Below.refl _ _).drew)
      generalize w2.drew = wD at HS0 ⊢
      (refine plan3_take (o := ?_) (v := ?_) (by simp only [List.getElem?_toArray, List.getElem?_cons_zero]; rfl) (yields_run (by rfl) ?_) ?_; rotate_left; (focus (intro w' hw'; obtain ⟨q0, q1, q2, q3⟩ := (HB2.out.below hw').b1.c4; obtain ⟨z0, z1, z2⟩ := (HB2.out.below hw').b0.t3; go_simp <;> with_reducible rfl)); (simp only [Act.put, List.setIfInBounds_toArray, List.set_cons_zero, List.set_cons_succ]))
      (refine plan3_take (o := ?_) (v := ?_) (by simp only [List.getElem?_toArray, List.getElem?_cons_succ, List.getElem?_cons_zero]; rfl) (yields_run (by rfl) ?_) ?_; rotate_left; (focus (intro w' hw'; obtain ⟨q0, q1, q2, q3⟩ := (HB2.out.below hw').b1.c4; obtain ⟨z0, z1, z2⟩ := (HB2.out.below hw').b0.t3; go_simp <;> with_reducible rfl)); (simp only [Act.put, List.setIfInBounds_toArray, List.set_cons_zero, List.set_cons_succ]))
      (refine plan3_take (o := ?_) (v := ?_) (by simp only [List.getElem?_toArray, List.getElem?_cons_succ, List.getElem?_cons_zero]; rfl) (yields_run (by rfl) ?_) ?_; rotate_left; (focus (intro w' hw'; obtain ⟨q0, q1, q2, q3⟩ := (HB2.out.below hw').b1.c4; obtain ⟨z0, z1, z2⟩ := (HB2.out.below hw').b0.t3; go_simp <;> with_reducible rfl)); (simp only [Act.put, List.setIfInBounds_toArray, List.set_cons_zero, List.set_cons_succ]))
      (refine plan3_take (o := ?_) (v := ?_) (by simp only [List.getElem?_toArray, List.getElem?_cons_succ, List.getElem?_cons_zero]; rfl) (yields_run (by rfl) ?_) ?_; rotate_left; (focus (intro w' hw'; obtain ⟨q0, q1, q2, q3⟩ := (HB2.out.below hw').b1.c4; obtain ⟨z0, z1, z2⟩ := (HB2.out.below hw').b0.t3; go_simp <;> with_reducible rfl)); (simp only [Act.put, List.setIfInBounds_toArray, List.set_cons_zero, List.set_cons_succ]))
      (refine plan3_take (o := ?_) (v := ?_) (by simp only [List.getElem?_toArray, List.getElem?_cons_succ, List.getElem?_cons_zero]; rfl) (yields_run (by rfl) ?_) ?_; rotate_left; (focus (intro w' hw'; obtain ⟨q0, q1, q2, q3⟩ := (HB2.out.below hw').b1.c4; obtain ⟨z0, z1, z2⟩ := (HB2.out.below hw').b0.t3; go_simp <;> with_reducible rfl)); (simp only [Act.put, List.setIfInBounds_toArray, List.set_cons_zero, List.set_cons_succ]))
      (refine plan3_take (o := ?_) (v := ?_) (by simp only [List.getElem?_toArray, List.getElem?_cons_succ, List.getElem?_cons_zero]; rfl) (yields_run (by rfl) ?_) ?_; rotate_left; (focus (intro w' hw'; obtain ⟨q0, q1, q2, q3⟩ := (HB2.out.below hw').b1.c4; obtain ⟨z0, z1, z2⟩ := (HB2.out.below hw').b0.t3; go_simp <;> with_reducible rfl)); (simp only [Act.put, List.setIfInBounds_toArray, List.set_cons_zero, List.set_cons_succ]))
      (refine plan3_take (o := ?_) (v := ?_) (by simp only [List.getElem?_toArray, List.getElem?_cons_succ, List.getElem?_cons_zero]; rfl) (yields_run (by rfl) ?_) ?_; rotate_left; (focus (intro w' hw'; obtain ⟨q0, q1, q2, q3⟩ := (HB2.out.below hw').b1.c4; obtain ⟨z0, z1, z2⟩ := (HB2.out.below hw').b0.t3; go_simp <;> with_reducible rfl)); (simp only [Act.put, List.setIfInBounds_toArray, List.set_cons_zero, List.set_cons_succ]))
      refine plan3_run (o := ?_) (by simp only [List.getElem?_toArray, List.getElem?_cons_succ, List.getElem?_cons_zero]; rfl) ?_
      intro R HRR
      go_wp2_with fail
      refine (HRC.out _ (HB2.out.below HS0.out).bel).mono ?_
      rintro e w3 ⟨B, c, l, rfl, hsd, hri⟩
      have HSD := hide hsd
      have HS1 := hide (below_one HS0.out hri.bel)
      have HSI := hide (recs_in (n0 := n0) hri)
      have HLF := hide (recs_few hsd (by rw [secD_len]; exact HN2.out))
      clear hsd hri
      go_wp2_with fail
      refine HRR.out _ _ HS1.out ?_
      clear HRR
      refine plan3_run (o := ?_) (by simp only [List.getElem?_toArray, List.getElem?_cons_succ, List.getElem?_cons_zero]; rfl) ?_
      intro R HRR
      have HSR := hide (srec_any B l c A (rs.take sy) cap w3 HSI.out ((HJ.out.recs.below (HB2.out.below HS1.out).bel).take sy))
      rw [HTL.out, HSD.out, secD_take] at HSR
      go_wp2_with fail
      refine HSR.out.mono ?_
      rintro e w4 ⟨rfl, n4, rfl⟩
      rw [hsame]
      have HS2 := hide (below_drewN HS1.out n4)
      go_wp2_with fail
      refine HRR.out _ _ HS2.out ?_
      clear HRR HSR HSI HSD HLF
      (refine plan3_take (o := ?_) (v := ?_) (by simp only [List.getElem?_toArray, List.getElem?_cons_succ, List.getElem?_cons_zero]; rfl) (yields_run (by rfl) ?_) ?_; rotate_left; (focus (intro w' hw'; skip; go_simp <;> with_reducible rfl)); (simp only [Act.put, List.setIfInBounds_toArray, List.set_cons_zero, List.set_cons_succ]))
      (refine plan3_take (o := ?_) (v := ?_) (by simp only [List.getElem?_toArray, List.getElem?_cons_succ, List.getElem?_cons_zero]; rfl) (yields_run (by rfl) ?_) ?_; rotate_left; (focus (intro w' hw'; skip; go_simp <;> with_reducible rfl)); (simp only [Act.put, List.setIfInBounds_toArray, List.set_cons_zero, List.set_cons_succ]))
      (refine plan3_take (o := ?_) (v := ?_) (by simp only [List.getElem?_toArray, List.getElem?_cons_succ, List.getElem?_cons_zero]; rfl) (yields_run (by rfl) ?_) ?_; rotate_left; (focus (intro w' hw'; skip; go_simp <;> with_reducible rfl)); (simp only [Act.put, List.setIfInBounds_toArray, List.set_cons_zero, List.set_cons_succ]))
      (refine plan3_take (o := ?_) (v := ?_) (by simp only [List.getElem?_toArray, List.getElem?_cons_succ, List.getElem?_cons_zero]; rfl) (yields_run (by rfl) ?_) ?_; rotate_left; (focus (intro w' hw'; skip; go_simp <;> with_reducible rfl)); (simp only [Act.put, List.setIfInBounds_toArray, List.set_cons_zero, List.set_cons_succ]))
      (refine plan3_take (o := ?_) (v := ?_) (by simp only [List.getElem?_toArray, List.getElem?_cons_succ, List.getElem?_cons_zero]; rfl) (yields_run (by rfl) ?_) ?_; rotate_left; (focus (intro w' hw'; skip; go_simp <;> with_reducible rfl)); (simp only [Act.put, List.setIfInBounds_toArray, List.set_cons_zero, List.set_cons_succ]))
      refine plan3_done ?_
      have HB1 := hide (HB2.out.below HS2.out)
      clear HS0 HS1 HB2
      generalize w3.drewN n4 = w5 at *
      by_cases hsl : sy = rs.length
      · have hsl' : ((sy : Int) == (rs.length : Int)) = true := by simp [hsl]
        rw [if_pos (by rw [hsl])] at HX
        clear hsl
        have j0 := HB1.out.b0.cell 0
        have j1 := HB1.out.b0.cell 1
        have j2 := HB1.out.b0.cell 2
        simp only [List.getElem?_cons_zero, List.getElem?_cons_succ] at j0 j1 j2
        go_upto_region 15 with (fail)
        obtain ⟨c0, c1, c2, c3⟩ := HB1.out.b1.c4
        obtain ⟨l0, l1, l2, l3⟩ := HB1.out.b3.c4
        have l4 := HB1.out.b3.free 0
        have l5 := HB1.out.b3.free 1
        have l6 := HB1.out.b3.free 2
        have l7 := HB1.out.b3.free 3
        have q0 := HB1.out.b0.cell 0
        have q1 := HB1.out.b0.cell 1
        have q2 := HB1.out.b0.cell 2
        have k0 := HB1.out.b2.cell 0
        have k1 := HB1.out.b2.cell 1
        have k2 := HB1.out.b2.cell 2
        simp only [List.getElem?_cons_zero, List.getElem?_cons_succ] at q0 q1 q2 k0 k1 k2
        have k3 := HB1.out.b2.free 0
        have k4 := HB1.out.b2.free 1
        have k5 := HB1.out.b2.free 2
        clear j0 j1 j2
        go_region
        have hab := HB1.out.ab (⟨A, rs, cap, d.ss.length, sy⟩ : Jr) d
        go_wp2_with fail
        exact bodyPost_ret (v := .tuple #[(Jr.mk A rs cap d.ss.length sy).v, d.v, .int .i64 0]) (results_cells_tmp rfl _ _ (w.heap.size + 1 + 1) (w.heap.size + 1 + 1 + 1) 29 25 _ _ _ _ (.int .i64 0) rfl rfl rfl hab.1.drew hab.2.1.drew Try.underlying29 rfl Try.size29 Try.underlying25 rfl Try.size25) rfl (by rw [HX.out]; exact ⟨⟨A, rs, cap, d.ss.length, sy⟩, d, rfl, rfl, rfl, HJ.out.below hab.2.2.drew, HD.out.below hab.2.2.drew, hab.2.2.drew⟩)
      · have hsl' : ((sy : Int) == (rs.length : Int)) = false := by simp only [beq_eq_false_iff_ne, ne_eq]; omega
        have hlt : sy < rs.length := by omega
        rw [if_neg (by omega)] at HX
        have HOC := hide (fun W (hW : Below w.heap.size w W) => used_any A (rs.take sy) cap W ((HJ.out.recs.below hW).take sy) (fun s hs => HJ.out.short s (List.mem_of_mem_take hs)) (by rw [HTL.out]; have := HJ.out.few; simp only at this; omega))
        rw [HTL.out, secD_take] at HOC
        have HUB2 := hide (show usedB ((secD rs).take sy) + usedB ((secD rs).drop sy) ≤ d.ss.length by rw [← usedB_app, List.take_append_drop]; exact HUB.out)
        have HRL := hide (show ((secD rs).drop sy).length = rs.length - sy by rw [List.length_drop, secD_len])
        have HRG := hide (show ∀ q (h : sy + q < rs.length), ((secD rs).drop sy).getD q [] = (rs[sy + q]).l from fun q h => by
          rw [List.getD_eq_getElem?_getD, List.getElem?_eq_getElem (by rw [List.length_drop, secD_len]; omega), List.getElem_drop, secD_get]
          rfl)
        have hd1 : (secD d.ss).length = d.ss.length := secD_len _
        have HZ0 : Hid (d.d = ⟨secD d.ss, writesP (usedB ((secD rs).take sy)) (g + 1) (((((secD rs).drop sy)).take 0).flatMap piecesB), d.left, d.stp⟩) := hide (by
          have : d.d.pen = [] := List.eq_nil_of_length_eq_zero (by show (wrD d.ps).length = 0; rw [wrD_len]; exact HPEN.out)
          show (⟨secD d.ss, wrD d.ps, d.left, d.stp⟩ : Dk) = _
          rw [show wrD d.ps = [] from this]
          rfl)
        clear hsl
        generalize usedB ((secD rs).take sy) = U at *
        generalize hRd : (secD rs).drop sy = Rd at *
        clear hRd
        have hrl : rs.length ≤ 1000000 := HJ.out.few
        have j0 := HB1.out.b0.cell 0
        have j1 := HB1.out.b0.cell 1
        have j2 := HB1.out.b0.cell 2
        simp only [List.getElem?_cons_zero, List.getElem?_cons_succ] at j0 j1 j2
        go_wp2_with fail
        refine (HOC.out _ HB1.out.bel).mono ?_
        rintro e w6 ⟨rfl, rfl⟩
        go_wp2_with fail
        go_loopw [10, 11] (fun a i wr => ∃ (q : Nat) (z : Dsk), sy + q ≤ rs.length ∧ i = .int .i64 ((sy : Int) + q) ∧ a = .int .i64 ((U + ((Rd.take q).flatMap piecesB).length : Nat) : Int) ∧ Hid (JB w ⟨A, rs, cap, d.ss.length, sy⟩ z wr) ∧ Hid (z.In n0 wr) ∧ Hid (z.d = ⟨secD d.ss, writesP U (g + 1) ((Rd.take q).flatMap piecesB), d.left, d.stp⟩) ∧ Hid (z.d.runs = true)) (fun _ i _ => rs.length - (intOf i).toNat)
        case atStart => exact ⟨0, d, by omega, by go_num, by rw [List.take_zero]; rfl, HB1, hide (HD.out.below HB1.out.bel), HZ0, HRUN⟩
        case round =>
          obtain ⟨q, z, hq, rfl, rfl, HBz, HZI, HZD, HZR⟩ := hrel
          clear HB1 j0 j1 j2
          have j0 := HBz.out.b0.cell 0
          simp only [List.getElem?_cons_zero] at j0
          by_cases hlq : sy + q < rs.length
          · obtain ⟨ba, oa, hA, hba, hca⟩ := HJ.out.recs.at hlq
            simp only at hA
            subst hA
            have HBI := hide (HJ.out.recs.each _ (List.getElem_mem hlq))
            have hbs := HJ.out.short _ (List.getElem_mem hlq)
            have HRGq := hide (HRG.out q hlq)
            have hqi : (sy : Int) + (q : Int) < (rs.length : Int) := by omega
            simp only at hca
            generalize rs[sy + q] = b at *
            have HCE := hide (show ∀ W, Below w.heap.size w W → W.cell? ⟨ba, oa + (sy + q), none⟩ = some b.v from fun W hW => (hW.cell (p := ⟨ba, oa + (sy + q), none⟩) hba).trans hca)
            have HQL := hide (show q < Rd.length by rw [HRL.out]; omega)
            have HDL := hide (show ((Rd.take q).flatMap piecesB).length = usedB (Rd.take q) from flat_len Rd q (Nat.le_of_lt HQL.out))
            have HTK := hide (show (Rd.take (q + 1)).flatMap piecesB = (Rd.take q).flatMap piecesB ++ piecesB b.l by
              rw [flat_more Rd q HQL.out, ← HRGq.out, List.getD_eq_getElem?_getD, List.getElem?_eq_getElem HQL.out]
              rfl)
            have HRM := hide (show U + ((Rd.take q).flatMap piecesB).length + secN b.l.length ≤ d.ss.length by
              have h1 := flat_len Rd (q + 1) HQL.out
              rw [HTK.out, List.length_append, piecesB_len] at h1
              have h2 : usedB (Rd.take (q + 1)) ≤ usedB Rd := by
                have := usedB_app (Rd.take (q + 1)) (Rd.drop (q + 1))
                rw [List.take_append_drop] at this
                omega
              have := HUB2.out
              omega)
            have HSN := hide (sectors_any b.l.length wr hbs)
            have hNp := secN_pos b.l.length
            have HSL := hide (show b.l.length ≤ 112 * secN b.l.length ∧ 112 * (secN b.l.length - 1) ≤ b.l.length by unfold secN; omega)
            have HPB := hide (show ∀ m, m < secN b.l.length → (piecesB b.l).take (m + 1) = (piecesB b.l).take m ++ [(decide (m = 0), decide (m + 1 = secN b.l.length), (b.l.drop (112 * m)).take 112)] from fun m hm => by
              rw [List.take_succ_eq_append_getElem (by rw [piecesB_len]; exact hm)]
              congr 2
              unfold piecesB
              rw [List.getElem_map, List.getElem_range]
              rfl)
            have HPL := hide (piecesB_len b.l)
            have hc := HCE.out wr HBz.out.bel
            have hbc1 : b.l.length ≤ b.cap := HBI.out.le
            have hbc2 : b.cap ≤ 9223372036854775807 := HBI.out.cap
            have hNs : secN b.l.length ≤ 4096 := by have := HRM.out; have := HN2.out; omega
            clear hca HRGq
            generalize secN b.l.length = N at *
            generalize (Rd.take q).flatMap piecesB = DQ at *
            go_wp2_with fail
            refine HSN.out.mono ?_
            rintro e w7 ⟨rfl, rfl⟩
            go_wp2_with fail
            go_loopw [10, 14] (fun a k wr => ∃ (m : Nat) (z : Dsk), m ≤ N ∧ k = .int .i64 (m : Nat) ∧ a = .int .i64 ((U + (DQ ++ (piecesB b.l).take m).length : Nat) : Int) ∧ Hid (JB w ⟨some ⟨ba, oa, none⟩, rs, cap, d.ss.length, sy⟩ z wr) ∧ Hid (z.In n0 wr) ∧ Hid (z.d = ⟨secD d.ss, writesP U (g + 1) (DQ ++ (piecesB b.l).take m), d.left, d.stp⟩) ∧ Hid (z.d.runs = true)) (fun _ k _ => N - (intOf k).toNat)
            case atStart => exact ⟨0, z, by omega, rfl, by rw [List.take_zero, List.append_nil]; exact val_num (by omega), HBz, HZI, by rw [List.take_zero, List.append_nil]; exact HZD, HZR⟩
            case round =>
              clear HBz HZI HZD HZR j0 hc
              obtain ⟨m, z2, hm, rfl, rfl, HBz, HZI, HZD, HZR⟩ := hrel
              by_cases hlm : m < N
              · have hlm' : (m : Int) < (N : Int) := by omega
                have hsl := HSL.out
                have hatl : U + (DQ ++ (piecesB b.l).take m).length < d.ss.length := by
                  have := HRM.out
                  rw [List.length_append, List.length_take, HPL.out]
                  omega
                have hd4 : d.ss.length ≤ 4096 := HN2.out
                have HLA := hide (show (DQ ++ (piecesB b.l).take (m + 1)).length = (DQ ++ (piecesB b.l).take m).length + 1 by
                  rw [HPB.out m hlm, ← List.append_assoc, List.length_append]
                  rfl)
                have e1 : ((m : Int) == 0) = decide (m = 0) := by
                  by_cases h : m = 0 <;> simp [h]
                have e2 : ((m : Int) == (N : Int) - 1) = decide (m + 1 = N) := by
                  by_cases h : m + 1 = N
                  · rw [decide_eq_true h, beq_iff_eq]; omega
                  · rw [decide_eq_false h, beq_eq_false_iff_ne]; omega
                have HPM := hide (HPB.out m hlm)
                generalize hdl : (DQ ++ (piecesB b.l).take m).length = dl at *
                have HDLE := hide hdl
                clear hdl
                obtain ⟨mm, hmm⟩ : ∃ mm, mm = min 112 (b.l.length - 112 * m) := ⟨_, rfl⟩
                have hjm : 112 * m + mm ≤ b.l.length := by omega
                have HPLN := hide (show (b.sub (112 * m) mm).l.length ≤ 112 by
                  show ((b.l.drop (112 * m)).take mm).length ≤ 112
                  rw [List.length_take]; omega)
                have HPD := hide (show (b.sub (112 * m) mm).l = (b.l.drop (112 * m)).take 112 by
                  show (b.l.drop (112 * m)).take mm = _
                  rw [hmm, ← List.length_drop, ← List.take_take, List.take_length])
                have hpl : (b.sub (112 * m) mm).l.length = mm := by
                  show ((b.l.drop (112 * m)).take mm).length = mm
                  rw [List.length_take, List.length_drop]; omega
                have hmn : (min (b.l.length : Int) (((m : Int) + 1) * 112)).toNat - m * 112 = mm := by omega
                have HSE := hide (show ∀ W, Below w.heap.size w W → Calls Try.prog 48 #[.int .u64 ((g : Int) + 1), .int .i64 ((U : Int) + (dl : Int)), .bool (decide (m = 0)), .bool ((m : Int) == (N : Int) - 1), (b.sub (112 * m) mm).v] W (RSec W (secB (decide (m = 0)) (decide (m + 1 = N)) (b.sub (112 * m) mm).l (U + dl) (g + 1))) from fun W hW => by
                  rw [e2]
                  have := rsector_any (g + 1) (U + dl) (decide (m = 0)) (decide (m + 1 = N)) (b.sub (112 * m) mm) W (by omega) (by omega) ((HBI.out.below hW).sub hjm) HPLN.out
                  rwa [Int.natCast_add, Int.natCast_add] at this)
                have hpen : z2.d.pen.length < 4096 := by
                  rw [HZD.out]
                  show (writesP U (g + 1) (DQ ++ (piecesB b.l).take m)).length < 4096
                  rw [writesP_len, HDLE.out]
                  omega
                have hseclt : U + dl < z2.d.sec.length := by
                  rw [HZD.out]
                  show U + dl < (secD d.ss).length
                  rw [secD_len]
                  exact hatl
                have HWP := hide (show writesP U (g + 1) (DQ ++ (piecesB b.l).take (m + 1)) = writesP U (g + 1) (DQ ++ (piecesB b.l).take m) ++ [(((U + dl : Nat) : Int), secB (decide (m = 0)) (decide (m + 1 = N)) ((b.l.drop (112 * m)).take 112) (U + dl) (g + 1))] by rw [HPM.out, ← List.append_assoc, writesP_app, writesP_one, HDLE.out])
                have HWT := hide (show ∀ W (t : Sec), z2.In n0 W → t.In n0 W → t.l = secB (decide (m = 0)) (decide (m + 1 = N)) (b.sub (112 * m) mm).l (U + dl) (g + 1) → Calls Try.prog 47 #[z2.v, .int .i64 ((U : Int) + (dl : Int)), t.v] W fun e w' => ∃ z3 : Dsk, e = .returned (.tuple #[z3.v, .int .i64 0]) ∧ z3.d = ⟨secD d.ss, writesP U (g + 1) (DQ ++ (piecesB b.l).take (m + 1)), d.left, d.stp⟩ ∧ z3.d.runs = true ∧ z3.In n0 w' ∧ Below W.heap.size W w' from fun W t hz ht htl => by
                  have hw := write_more HZR.out hseclt (b := t.l) (by rw [htl, secB_len HPLN.out]) hpen
                  have := rwrite_ok z2 ((U + dl : Nat) : Int) t W hz ht (by omega) HZR.out (by unfold Dk.has; exact decide_eq_true ⟨by omega, by omega⟩)
                  rw [Int.natCast_add] at this
                  refine this.mono ?_
                  rintro e w' ⟨z3, h1, h2, h3, h4⟩
                  have hw2 := hw.1
                  rw [Int.natCast_add] at hw2
                  rw [hw2] at h1 h2
                  refine ⟨z3, h1, ?_, by rw [h2]; have := hw.2; rwa [Int.natCast_add] at this, h3, h4⟩
                  rw [h2, HZD.out, HWP.out, htl, HPD.out, Int.natCast_add])
                have hcv : (b.cap = m * 112 ∧ (b.sub (112 * m) mm).v = .slice b.A ((min (b.l.length : Int) (((m : Int) + 1) * 112)).toNat - m * 112) (m * 112 - m * 112)) ∨ (¬ b.cap = m * 112 ∧ (b.sub (112 * m) mm).v = .slice (Option.map (fun x => x.add (m * 112)) b.A) ((min (b.l.length : Int) (((m : Int) + 1) * 112)).toNat - m * 112) (b.cap - m * 112)) := by
                  have hv : (b.sub (112 * m) mm).v = .slice (if b.cap = m * 112 then b.A else b.A.map (fun x => x.add (m * 112))) ((min (b.l.length : Int) (((m : Int) + 1) * 112)).toNat - m * 112) (b.cap - m * 112) := by
                    show Value.slice (if b.cap = 112 * m then b.A else b.A.map (·.add (112 * m))) _ (b.cap - 112 * m) = _
                    rw [hpl, hmn, Nat.mul_comm]
                  by_cases hcm : b.cap = m * 112
                  · exact .inl ⟨hcm, by rw [hv, if_pos hcm, hcm]⟩
                  · exact .inr ⟨hcm, by rw [hv, if_neg hcm]⟩
                clear HPM HZD HPD hpl hmm hpen hseclt
                rcases hcv with ⟨hcm, hv⟩ | ⟨hcm, hv⟩
                all_goals
                  rw [hv] at HSE
                  have HSE0 := HSE
                  try rw [Nat.sub_self] at HSE0
                  clear hv hmn
                  go_wp2_with fail
                  go_upto_region 26 with (fail)
                  refine wp_region_plan3 (fun _ => True) (.take 1 (.take 2 (.take 3 (.take 4 (.take 5 (.take 6 (.take 7 (.take 8 (.take 9 (.take 10 (.both 0 (.run 11 (.run 12 (.take 13 (.take 14 (.take 15 (.run 16 .done)))))) 11 (.run 0 (.run 12 (.take 13 (.take 14 (.take 15 (.run 16 .done))))))))))))))))) (by kernel_rfl) (by kernel_rfl) trivial ?_
                  have HBD := hide (HBz.out.below (Below.refl _ _).drew)
                  have HZID := hide (HZI.out.below (Below.refl _ _).drew)
                  clear HBz HZI
                  generalize wr.drew = wD at HBD HZID ⊢
                  (refine plan3_take (o := ?_) (v := ?_) (by simp only [List.getElem?_toArray, List.getElem?_cons_succ, List.getElem?_cons_zero]; rfl) (yields_run (by rfl) ?_) ?_; rotate_left; (focus (intro w' _; go_simp <;> with_reducible rfl)); (simp only [Act.put, List.setIfInBounds_toArray, List.set_cons_zero, List.set_cons_succ]))
                  (refine plan3_take (o := ?_) (v := ?_) (by simp only [List.getElem?_toArray, List.getElem?_cons_succ, List.getElem?_cons_zero]; rfl) (yields_run (by rfl) ?_) ?_; rotate_left; (focus (intro w' _; go_simp <;> with_reducible rfl)); (simp only [Act.put, List.setIfInBounds_toArray, List.set_cons_zero, List.set_cons_succ]))
                  (refine plan3_take (o := ?_) (v := ?_) (by simp only [List.getElem?_toArray, List.getElem?_cons_succ, List.getElem?_cons_zero]; rfl) (yields_run (by rfl) ?_) ?_; rotate_left; (focus (intro w' _; go_simp <;> with_reducible rfl)); (simp only [Act.put, List.setIfInBounds_toArray, List.set_cons_zero, List.set_cons_succ]))
                  (refine plan3_take (o := ?_) (v := ?_) (by simp only [List.getElem?_toArray, List.getElem?_cons_succ, List.getElem?_cons_zero]; rfl) (yields_run (by rfl) ?_) ?_; rotate_left; (focus (intro w' _; go_simp <;> with_reducible rfl)); (simp only [Act.put, List.setIfInBounds_toArray, List.set_cons_zero, List.set_cons_succ]))
                  (refine plan3_take (o := ?_) (v := ?_) (by simp only [List.getElem?_toArray, List.getElem?_cons_succ, List.getElem?_cons_zero]; rfl) (yields_run (by rfl) ?_) ?_; rotate_left; (focus (intro w' _; go_simp <;> with_reducible rfl)); (simp only [Act.put, List.setIfInBounds_toArray, List.set_cons_zero, List.set_cons_succ]))
                  (refine plan3_take (o := ?_) (v := ?_) (by simp only [List.getElem?_toArray, List.getElem?_cons_succ, List.getElem?_cons_zero]; rfl) (yields_run (by rfl) ?_) ?_; rotate_left; (focus (intro w' _; go_simp <;> with_reducible rfl)); (simp only [Act.put, List.setIfInBounds_toArray, List.set_cons_zero, List.set_cons_succ]))
                  (refine plan3_take (o := ?_) (v := ?_) (by simp only [List.getElem?_toArray, List.getElem?_cons_succ, List.getElem?_cons_zero]; rfl) (yields_run (by rfl) ?_) ?_; rotate_left; (focus (intro w' _; go_simp <;> with_reducible rfl)); (simp only [Act.put, List.setIfInBounds_toArray, List.set_cons_zero, List.set_cons_succ]))
                  (refine plan3_take (o := ?_) (v := ?_) (by simp only [List.getElem?_toArray, List.getElem?_cons_succ, List.getElem?_cons_zero]; rfl) (yields_run (by rfl) ?_) ?_; rotate_left; (focus (intro w' _; go_simp <;> with_reducible rfl)); (simp only [Act.put, List.setIfInBounds_toArray, List.set_cons_zero, List.set_cons_succ]))
                  (refine plan3_take (o := ?_) (v := ?_) (by simp only [List.getElem?_toArray, List.getElem?_cons_succ, List.getElem?_cons_zero]; rfl) (yields_run (by rfl) ?_) ?_; rotate_left; (focus (intro w' _; go_simp <;> with_reducible rfl)); (simp only [Act.put, List.setIfInBounds_toArray, List.set_cons_zero, List.set_cons_succ]))
                  (refine plan3_take (o := ?_) (v := ?_) (by simp only [List.getElem?_toArray, List.getElem?_cons_succ, List.getElem?_cons_zero]; rfl) (yields_run (by rfl) ?_) ?_; rotate_left; (focus (intro w' _; go_simp <;> with_reducible rfl)); (simp only [Act.put, List.setIfInBounds_toArray, List.set_cons_zero, List.set_cons_succ]))
                  refine plan3_both (o1 := ?_) (o2 := ?_) (by simp only [List.getElem?_toArray, List.getElem?_cons_zero]; rfl) (by simp only [List.getElem?_toArray, List.getElem?_cons_succ, List.getElem?_cons_zero]; rfl) ?_ ?_
                  · intro R HRR
                    obtain ⟨q0, q1, q2, q3⟩ := HBD.out.b1.c4
                    go_wp2_with fail
                    refine HRR.out _ _ trivial ?_
                    clear HRR q0 q1 q2 q3
                    refine plan3_run (o := ?_) (by simp only [List.getElem?_toArray, List.getElem?_cons_succ, List.getElem?_cons_zero]; rfl) ?_
                    intro R HRR
                    go_wp2_with fail
                    first | (with_reducible refine (HSE.out _ HBD.out.bel).mono ?_) | (with_reducible refine (HSE0.out _ HBD.out.bel).mono ?_)
                    rintro e v11 ⟨SA, Sc, rfl, hown, hb⟩
                    have HB11 := hide (HBD.out.below hb)
                    have HZ11 := hide (HZID.out.below hb)
                    have HWR := hide (HWT.out v11 ⟨SA, _, Sc⟩ HZ11.out (own_fresh hown (secB_len HPLN.out).symm).in rfl)
                    rw [show Sec.v ⟨SA, secB (decide (m = 0)) (decide (m + 1 = N)) (b.sub (112 * m) mm).l (U + dl) (g + 1), Sc⟩ = .slice SA 128 Sc by simp only [Sec.v, secB_len HPLN.out]] at HWR
                    clear hown hb
                    go_wp2_with fail
                    refine HRR.out _ _ trivial ?_
                    clear HRR
                    refine plan3_run (o := ?_) (by simp only [List.getElem?_toArray, List.getElem?_cons_succ, List.getElem?_cons_zero]; rfl) ?_
                    intro R HRR
                    go_wp2_with fail
                    (with_reducible refine HWR.out.mono ?_)
                    rintro e v12 ⟨z3, rfl, hz3, hzr, hzi, hb⟩
                    have HB12 := hide (HB11.out.below hb)
                    have HZ12 := hide hzi
                    have HZD3 := hide hz3
                    have HZR3 := hide hzr
                    clear hz3 hzr hzi hb HWR HB11 HZ11
                    go_wp2_with fail
                    refine HRR.out _ _ trivial ?_
                    clear HRR
                    (refine plan3_take (o := ?_) (v := ?_) (by simp only [List.getElem?_toArray, List.getElem?_cons_succ, List.getElem?_cons_zero]; rfl) (yields_run (by rfl) ?_) ?_; rotate_left; (focus (intro w' _; go_simp <;> with_reducible rfl)); (simp only [Act.put, List.setIfInBounds_toArray, List.set_cons_zero, List.set_cons_succ]))
                    (refine plan3_take (o := ?_) (v := ?_) (by simp only [List.getElem?_toArray, List.getElem?_cons_succ, List.getElem?_cons_zero]; rfl) (yields_run (by rfl) ?_) ?_; rotate_left; (focus (intro w' _; go_simp <;> with_reducible rfl)); (simp only [Act.put, List.setIfInBounds_toArray, List.set_cons_zero, List.set_cons_succ]))
                    (refine plan3_take (o := ?_) (v := ?_) (by simp only [List.getElem?_toArray, List.getElem?_cons_succ, List.getElem?_cons_zero]; rfl) (yields_run (by rfl) ?_) ?_; rotate_left; (focus (intro w' _; go_simp <;> with_reducible rfl)); (simp only [Act.put, List.setIfInBounds_toArray, List.set_cons_zero, List.set_cons_succ]))
                    refine plan3_run (o := ?_) (by simp only [List.getElem?_toArray, List.getElem?_cons_succ, List.getElem?_cons_zero]; rfl) ?_
                    intro R HRR
                    go_wp2_with (refine wpList_store_row rfl 25 (.tmp 3) (.tmp 129) rfl (w.heap.size + 1) #[.slice z3.sa z3.ss.length z3.sc, .slice z3.pa z3.ps.length z3.pc, .int .i64 z3.left, .bool z3.stp] rfl rfl 25 _ HB12.out.b1 Try.size25 rfl (one25 _ _ _ _ _ _ _ _) ?_)
                    refine HRR.out _ _ trivial ?_
                    clear HRR
                    refine plan3_done ?_
                    have HBN : Hid (JB w ⟨some ⟨ba, oa, none⟩, rs, cap, d.ss.length, sy⟩ z3 (v12.setRow (w.heap.size + 1) #[.slice z3.sa z3.ss.length z3.sc, .slice z3.pa z3.ps.length z3.pc, .int .i64 z3.left, .bool z3.stp])) := hide ⟨HB12.out.b0.far (by omega) _, HB12.out.b1.row z3.cs, HB12.out.b2.far (by omega) _, HB12.out.b3.far (by omega) _, below_setRow HB12.out.bel (by omega) _⟩
                    have HZN := hide (HZ12.out.keep (W' := v12.setRow (w.heap.size + 1) #[.slice z3.sa z3.ss.length z3.sc, .slice z3.pa z3.ps.length z3.pc, .int .i64 z3.left, .bool z3.stp]) HB12.out.b1 (by omega) (only_setRow (only_refl _ _) (.inl rfl) _))
                    clear HB12 HZ12
                    go_wp2_with fail
                    go_roundw
                    case rel => exact ⟨m + 1, z3, by omega, by go_num, by rw [HLA.out]; exact val_num (by omega), HBN, HZN, HZD3, HZR3⟩
                    case measure => simp [intOf]; omega
                  · intro R HRR
                    go_wp2_with fail
                    first | (with_reducible refine (HSE.out _ HBD.out.bel).mono ?_) | (with_reducible refine (HSE0.out _ HBD.out.bel).mono ?_)
                    rintro e v11 ⟨SA, Sc, rfl, hown, hb⟩
                    have HB11 := hide (HBD.out.below hb)
                    have HZ11 := hide (HZID.out.below hb)
                    have HWR := hide (HWT.out v11 ⟨SA, _, Sc⟩ HZ11.out (own_fresh hown (secB_len HPLN.out).symm).in rfl)
                    rw [show Sec.v ⟨SA, secB (decide (m = 0)) (decide (m + 1 = N)) (b.sub (112 * m) mm).l (U + dl) (g + 1), Sc⟩ = .slice SA 128 Sc by simp only [Sec.v, secB_len HPLN.out]] at HWR
                    clear hown hb
                    go_wp2_with fail
                    refine HRR.out _ _ trivial ?_
                    clear HRR
                    refine plan3_run (o := ?_) (by simp only [List.getElem?_toArray, List.getElem?_cons_zero]; rfl) ?_
                    intro R HRR
                    obtain ⟨q0, q1, q2, q3⟩ := HB11.out.b1.c4
                    go_wp2_with fail
                    refine HRR.out _ _ trivial ?_
                    clear HRR q0 q1 q2 q3
                    refine plan3_run (o := ?_) (by simp only [List.getElem?_toArray, List.getElem?_cons_succ, List.getElem?_cons_zero]; rfl) ?_
                    intro R HRR
                    go_wp2_with fail
                    (with_reducible refine HWR.out.mono ?_)
                    rintro e v12 ⟨z3, rfl, hz3, hzr, hzi, hb⟩
                    have HB12 := hide (HB11.out.below hb)
                    have HZ12 := hide hzi
                    have HZD3 := hide hz3
                    have HZR3 := hide hzr
                    clear hz3 hzr hzi hb HWR HB11 HZ11
                    go_wp2_with fail
                    refine HRR.out _ _ trivial ?_
                    clear HRR
                    (refine plan3_take (o := ?_) (v := ?_) (by simp only [List.getElem?_toArray, List.getElem?_cons_succ, List.getElem?_cons_zero]; rfl) (yields_run (by rfl) ?_) ?_; rotate_left; (focus (intro w' _; go_simp <;> with_reducible rfl)); (simp only [Act.put, List.setIfInBounds_toArray, List.set_cons_zero, List.set_cons_succ]))
                    (refine plan3_take (o := ?_) (v := ?_) (by simp only [List.getElem?_toArray, List.getElem?_cons_succ, List.getElem?_cons_zero]; rfl) (yields_run (by rfl) ?_) ?_; rotate_left; (focus (intro w' _; go_simp <;> with_reducible rfl)); (simp only [Act.put, List.setIfInBounds_toArray, List.set_cons_zero, List.set_cons_succ]))
                    (refine plan3_take (o := ?_) (v := ?_) (by simp only [List.getElem?_toArray, List.getElem?_cons_succ, List.getElem?_cons_zero]; rfl) (yields_run (by rfl) ?_) ?_; rotate_left; (focus (intro w' _; go_simp <;> with_reducible rfl)); (simp only [Act.put, List.setIfInBounds_toArray, List.set_cons_zero, List.set_cons_succ]))
                    refine plan3_run (o := ?_) (by simp only [List.getElem?_toArray, List.getElem?_cons_succ, List.getElem?_cons_zero]; rfl) ?_
                    intro R HRR
                    go_wp2_with (refine wpList_store_row rfl 25 (.tmp 3) (.tmp 129) rfl (w.heap.size + 1) #[.slice z3.sa z3.ss.length z3.sc, .slice z3.pa z3.ps.length z3.pc, .int .i64 z3.left, .bool z3.stp] rfl rfl 25 _ HB12.out.b1 Try.size25 rfl (one25 _ _ _ _ _ _ _ _) ?_)
                    refine HRR.out _ _ trivial ?_
                    clear HRR
                    refine plan3_done ?_
                    have HBN : Hid (JB w ⟨some ⟨ba, oa, none⟩, rs, cap, d.ss.length, sy⟩ z3 (v12.setRow (w.heap.size + 1) #[.slice z3.sa z3.ss.length z3.sc, .slice z3.pa z3.ps.length z3.pc, .int .i64 z3.left, .bool z3.stp])) := hide ⟨HB12.out.b0.far (by omega) _, HB12.out.b1.row z3.cs, HB12.out.b2.far (by omega) _, HB12.out.b3.far (by omega) _, below_setRow HB12.out.bel (by omega) _⟩
                    have HZN := hide (HZ12.out.keep (W' := v12.setRow (w.heap.size + 1) #[.slice z3.sa z3.ss.length z3.sc, .slice z3.pa z3.ps.length z3.pc, .int .i64 z3.left, .bool z3.stp]) HB12.out.b1 (by omega) (only_setRow (only_refl _ _) (.inl rfl) _))
                    clear HB12 HZ12
                    go_wp2_with fail
                    go_roundw
                    case rel => exact ⟨m + 1, z3, by omega, by go_num, by rw [HLA.out]; exact val_num (by omega), HBN, HZN, HZD3, HZR3⟩
                    case measure => simp [intOf]; omega
              · obtain rfl : m = N := by omega
                have HFULL := hide (show DQ ++ (piecesB b.l).take m = (Rd.take (q + 1)).flatMap piecesB by rw [HTK.out, List.take_of_length_le (by rw [HPL.out]; exact Nat.le_refl _)])
                rw [HFULL.out] at HZD ⊢
                have hge : ¬ ((m : Int) < (m : Int)) := by omega
                go_wp2_with fail
                go_roundw
                case rel => exact ⟨q + 1, z2, by omega, by go_num, rfl, HBz, HZI, HZD, HZR⟩
                case measure => simp [intOf]; omega
          · have hq2 : sy + q = rs.length := by omega
            have hge : ¬ ((sy : Int) + (q : Int) < (rs.length : Int)) := by omega
            have hge2 : decide ((sy : Int) + (q : Int) < (rs.length : Int)) = false := decide_eq_false hge
            have hall : Rd.take q = Rd := List.take_of_length_le (by rw [HRL.out]; omega)
            rw [hall] at HZD
            rw [← HZD.out] at HX
            clear hlq
            have HSY := hide (rsync_any z wr HZI.out)
            generalize z.d.sync = yy at HX HSY
            obtain ⟨y1, y2⟩ := yy
            simp only at HX
            obtain ⟨c0, c1, c2, c3⟩ := HBz.out.b1.c4
            go_wp2_with fail
            refine HSY.out.mono ?_
            rintro e w10 ⟨y, rfl, hyd, hyi, hb⟩
            simp only at hyd
            have HYD := hide hyd
            have HBa := hide ((HBz.out.below hb).below (below_new w10 (.cells y.cs.toArray 25)))
            have HYB := hide (Blk.new w10 25 y.cs)
            have HYI := hide (hyi.below (below_new w10 (.cells y.cs.toArray 25)))
            have hw10 : w.heap.size + 4 ≤ w10.heap.size := by have h1 := HBz.out.b3.lt; have h2 := hb.size; omega
            clear hyd hyi hb c0 c1 c2 c3 HBz HZI HSY
            by_cases hy2 : y2 = 0
            · subst hy2
              rw [if_pos rfl] at HX
              have HJJ := hide (show (Jr.mk A rs cap d.ss.length rs.length).In n0 w from ⟨HJ.out.recs, HJ.out.many, by have := HJ.out.few; simp only at this; constructor <;> simp only <;> omega, HJ.out.short, HJ.out.few⟩)
              have q0 := HBa.out.b0.cell 0
              have q2 := HBa.out.b0.cell 2
              simp only [List.getElem?_cons_zero, List.getElem?_cons_succ] at q0 q2
              have f2 := HBa.out.b0.free 2
              go_upto_region 32 with (fail)
              have HBc := hide (show Blk ((w10.alloc (.cells y.cs.toArray 25)).setCell ⟨w.heap.size, 2, none⟩ (.int .i64 rs.length)) w.heap.size 29 [.slice A rs.length cap, .int .i64 d.ss.length, .int .i64 rs.length] ∧ Blk ((w10.alloc (.cells y.cs.toArray 25)).setCell ⟨w.heap.size, 2, none⟩ (.int .i64 rs.length)) (w.heap.size + 1 + 1) 29 [.slice none 0 0, .int .i64 0, .int .i64 0] ∧ Blk ((w10.alloc (.cells y.cs.toArray 25)).setCell ⟨w.heap.size, 2, none⟩ (.int .i64 rs.length)) (w.heap.size + 1 + 1 + 1) 25 [.slice none 0 0, .slice none 0 0, .int .i64 0, .bool false] ∧ Blk ((w10.alloc (.cells y.cs.toArray 25)).setCell ⟨w.heap.size, 2, none⟩ (.int .i64 rs.length)) w10.heap.size 25 y.cs ∧ Below w.heap.size w ((w10.alloc (.cells y.cs.toArray 25)).setCell ⟨w.heap.size, 2, none⟩ (.int .i64 rs.length))
                from ⟨by simpa using HBa.out.b0.set 2 (.int .i64 rs.length), HBa.out.b2.apart (by show w.heap.size + 1 + 1 ≠ w.heap.size; omega) _, HBa.out.b3.apart (by show w.heap.size + 1 + 1 + 1 ≠ w.heap.size; omega) _, HYB.out.apart (by show w10.heap.size ≠ w.heap.size; omega) _, HBa.out.bel.setCell (by simp) _⟩)
              replace HYI := hide (HYI.out.keepT (W' := (w10.alloc (.cells y.cs.toArray 25)).setCell ⟨w.heap.size, 2, none⟩ (.int .i64 rs.length)) HBa.out.b0 (by decide) (by omega) (only_setCell (only_refl _ _) (.inl rfl) _))
              clear q0 q2 f2 HBa HYB
              generalize (w10.alloc (.cells y.cs.toArray 25)).setCell ⟨w.heap.size, 2, none⟩ (.int .i64 rs.length) = w11 at HBc HYI ⊢
              obtain ⟨l0, l1, l2, l3⟩ := HBc.out.2.2.1.c4
              have l4 := HBc.out.2.2.1.free 0
              have l5 := HBc.out.2.2.1.free 1
              have l6 := HBc.out.2.2.1.free 2
              have l7 := HBc.out.2.2.1.free 3
              obtain ⟨p0, p1, p2, p3⟩ := HBc.out.2.2.2.1.c4
              obtain ⟨q0, q1, q2⟩ := HBc.out.1.t3
              obtain ⟨k0, k1, k2⟩ := HBc.out.2.1.t3
              have k3 := HBc.out.2.1.free 0
              have k4 := HBc.out.2.1.free 1
              have k5 := HBc.out.2.1.free 2
              go_region
              have hend := js_end hn0 HBc.out.2.1 HBc.out.2.2.1 HBc.out.2.2.2.2 ⟨A, rs, cap, d.ss.length, rs.length⟩ y HJJ.out HYI.out
              go_wp2_with fail
              exact bodyPost_ret (v := .tuple #[Jr.v ⟨A, rs, cap, d.ss.length, rs.length⟩, y.v, .int .i64 0]) (results_cells_tmp rfl _ _ (w.heap.size + 1 + 1) (w.heap.size + 1 + 1 + 1) 29 25 _ _ _ _ (.int .i64 0) rfl rfl rfl hend.1 hend.2.1 Try.underlying29 rfl Try.size29 Try.underlying25 rfl Try.size25) rfl (by rw [HX.out]; exact ⟨⟨A, rs, cap, d.ss.length, rs.length⟩, y, rfl, rfl, HYD.out, hend.2.2.1, hend.2.2.2.1, hend.2.2.2.2⟩)
            · have hy3 : (y2 != 0) = true := by simpa using hy2
              rw [if_neg hy2] at HX
              clear hy2
              go_upto_region 30 with (fail)
              have HJJ := hide (Jr.zero_in (n0 := n0) w)
              generalize w10.alloc (.cells y.cs.toArray 25) = w11 at HBa HYB HYI ⊢
              obtain ⟨l0, l1, l2, l3⟩ := HBa.out.b3.c4
              have l4 := HBa.out.b3.free 0
              have l5 := HBa.out.b3.free 1
              have l6 := HBa.out.b3.free 2
              have l7 := HBa.out.b3.free 3
              obtain ⟨p0, p1, p2, p3⟩ := HYB.out.c4
              obtain ⟨k0, k1, k2⟩ := HBa.out.b2.t3
              have k3 := HBa.out.b2.free 0
              have k4 := HBa.out.b2.free 1
              have k5 := HBa.out.b2.free 2
              go_region
              have hend := js_end hn0 HBa.out.b2 HBa.out.b3 HBa.out.bel Jr.zero y HJJ.out HYI.out
              go_wp2_with fail
              exact bodyPost_ret (v := .tuple #[Jr.v Jr.zero, y.v, .int .i64 y2]) (results_cells_tmp rfl _ _ (w.heap.size + 1 + 1) (w.heap.size + 1 + 1 + 1) 29 25 _ _ _ _ (.int .i64 y2) rfl rfl rfl hend.1 hend.2.1 Try.underlying29 rfl Try.size29 Try.underlying25 rfl Try.size25) rfl (by rw [HX.out]; exact ⟨Jr.zero, y, rfl, rfl, HYD.out, hend.2.2.1, hend.2.2.2.1, hend.2.2.2.2⟩)
    · rw [if_neg (fun h => hgg h.2)] at HX
      have hg1 : decide ((4294967295 : Int) < (g : Int) + 1) = true := decide_eq_true (by omega)
      clear hsm hgg
      go_upto_region 12 with (fail)
      refine wp_region_plan3 (fun w' => Below w2.heap.size w2 w') (.take 0 (.take 1 (.take 3 (.take 4 (.take 5 (.take 6 (.take 7 (.run 2 (.run 8 (.take 9 (.take 10 (.take 11 (.take 12 (.take 13 .done)))))))))))))) (by kernel_rfl) (by kernel_rfl) ((Below.refl _ _).drew) ?_
      have HS0 := hide (show Below w2.heap.size w2 w2.drew from (Below.refl _ _).drew)
      generalize w2.drew = wD at HS0 ⊢
      (refine plan3_take (o := ?_) (v := ?_) (by simp only [List.getElem?_toArray, List.getElem?_cons_zero]; rfl) (yields_run (by rfl) ?_) ?_; rotate_left; (focus (intro w' hw'; obtain ⟨q0, q1, q2, q3⟩ := (HB2.out.below hw').b1.c4; obtain ⟨z0, z1, z2⟩ := (HB2.out.below hw').b0.t3; go_simp <;> with_reducible rfl)); (simp only [Act.put, List.setIfInBounds_toArray, List.set_cons_zero, List.set_cons_succ]))
      (refine plan3_take (o := ?_) (v := ?_) (by simp only [List.getElem?_toArray, List.getElem?_cons_succ, List.getElem?_cons_zero]; rfl) (yields_run (by rfl) ?_) ?_; rotate_left; (focus (intro w' hw'; obtain ⟨q0, q1, q2, q3⟩ := (HB2.out.below hw').b1.c4; obtain ⟨z0, z1, z2⟩ := (HB2.out.below hw').b0.t3; go_simp <;> with_reducible rfl)); (simp only [Act.put, List.setIfInBounds_toArray, List.set_cons_zero, List.set_cons_succ]))
      (refine plan3_take (o := ?_) (v := ?_) (by simp only [List.getElem?_toArray, List.getElem?_cons_succ, List.getElem?_cons_zero]; rfl) (yields_run (by rfl) ?_) ?_; rotate_left; (focus (intro w' hw'; obtain ⟨q0, q1, q2, q3⟩ := (HB2.out.below hw').b1.c4; obtain ⟨z0, z1, z2⟩ := (HB2.out.below hw').b0.t3; go_simp <;> with_reducible rfl)); (simp only [Act.put, List.setIfInBounds_toArray, List.set_cons_zero, List.set_cons_succ]))
      (refine plan3_take (o := ?_) (v := ?_) (by simp only [List.getElem?_toArray, List.getElem?_cons_succ, List.getElem?_cons_zero]; rfl) (yields_run (by rfl) ?_) ?_; rotate_left; (focus (intro w' hw'; obtain ⟨q0, q1, q2, q3⟩ := (HB2.out.below hw').b1.c4; obtain ⟨z0, z1, z2⟩ := (HB2.out.below hw').b0.t3; go_simp <;> with_reducible rfl)); (simp only [Act.put, List.setIfInBounds_toArray, List.set_cons_zero, List.set_cons_succ]))
      (refine plan3_take (o := ?_) (v := ?_) (by simp only [List.getElem?_toArray, List.getElem?_cons_succ, List.getElem?_cons_zero]; rfl) (yields_run (by rfl) ?_) ?_; rotate_left; (focus (intro w' hw'; obtain ⟨q0, q1, q2, q3⟩ := (HB2.out.below hw').b1.c4; obtain ⟨z0, z1, z2⟩ := (HB2.out.below hw').b0.t3; go_simp <;> with_reducible rfl)); (simp only [Act.put, List.setIfInBounds_toArray, List.set_cons_zero, List.set_cons_succ]))
      (refine plan3_take (o := ?_) (v := ?_) (by simp only [List.getElem?_toArray, List.getElem?_cons_succ, List.getElem?_cons_zero]; rfl) (yields_run (by rfl) ?_) ?_; rotate_left; (focus (intro w' hw'; obtain ⟨q0, q1, q2, q3⟩ := (HB2.out.below hw').b1.c4; obtain ⟨z0, z1, z2⟩ := (HB2.out.below hw').b0.t3; go_simp <;> with_reducible rfl)); (simp only [Act.put, List.setIfInBounds_toArray, List.set_cons_zero, List.set_cons_succ]))
      (refine plan3_take (o := ?_) (v := ?_) (by simp only [List.getElem?_toArray, List.getElem?_cons_succ, List.getElem?_cons_zero]; rfl) (yields_run (by rfl) ?_) ?_; rotate_left; (focus (intro w' hw'; obtain ⟨q0, q1, q2, q3⟩ := (HB2.out.below hw').b1.c4; obtain ⟨z0, z1, z2⟩ := (HB2.out.below hw').b0.t3; go_simp <;> with_reducible rfl)); (simp only [Act.put, List.setIfInBounds_toArray, List.set_cons_zero, List.set_cons_succ]))
      refine plan3_run (o := ?_) (by simp only [List.getElem?_toArray, List.getElem?_cons_succ, List.getElem?_cons_zero]; rfl) ?_
      intro R HRR
      go_wp2_with fail
      refine (HRC.out _ (HB2.out.below HS0.out).bel).mono ?_
      rintro e w3 ⟨B, c, l, rfl, hsd, hri⟩
      have HSD := hide hsd
      have HS1 := hide (below_one HS0.out hri.bel)
      have HSI := hide (recs_in (n0 := n0) hri)
      have HLF := hide (recs_few hsd (by rw [secD_len]; exact HN2.out))
      clear hsd hri
      go_wp2_with fail
      refine HRR.out _ _ HS1.out ?_
      clear HRR
      refine plan3_run (o := ?_) (by simp only [List.getElem?_toArray, List.getElem?_cons_succ, List.getElem?_cons_zero]; rfl) ?_
      intro R HRR
      have HSR := hide (srec_any B l c A (rs.take sy) cap w3 HSI.out ((HJ.out.recs.below (HB2.out.below HS1.out).bel).take sy))
      rw [HTL.out, HSD.out, secD_take] at HSR
      go_wp2_with fail
      refine HSR.out.mono ?_
      rintro e w4 ⟨rfl, n4, rfl⟩
      rw [hsame]
      have HS2 := hide (below_drewN HS1.out n4)
      go_wp2_with fail
      refine HRR.out _ _ HS2.out ?_
      clear HRR HSR HSI HSD HLF
      (refine plan3_take (o := ?_) (v := ?_) (by simp only [List.getElem?_toArray, List.getElem?_cons_succ, List.getElem?_cons_zero]; rfl) (yields_run (by rfl) ?_) ?_; rotate_left; (focus (intro w' hw'; skip; go_simp <;> with_reducible rfl)); (simp only [Act.put, List.setIfInBounds_toArray, List.set_cons_zero, List.set_cons_succ]))
      (refine plan3_take (o := ?_) (v := ?_) (by simp only [List.getElem?_toArray, List.getElem?_cons_succ, List.getElem?_cons_zero]; rfl) (yields_run (by rfl) ?_) ?_; rotate_left; (focus (intro w' hw'; skip; go_simp <;> with_reducible rfl)); (simp only [Act.put, List.setIfInBounds_toArray, List.set_cons_zero, List.set_cons_succ]))
      (refine plan3_take (o := ?_) (v := ?_) (by simp only [List.getElem?_toArray, List.getElem?_cons_succ, List.getElem?_cons_zero]; rfl) (yields_run (by rfl) ?_) ?_; rotate_left; (focus (intro w' hw'; skip; go_simp <;> with_reducible rfl)); (simp only [Act.put, List.setIfInBounds_toArray, List.set_cons_zero, List.set_cons_succ]))
      (refine plan3_take (o := ?_) (v := ?_) (by simp only [List.getElem?_toArray, List.getElem?_cons_succ, List.getElem?_cons_zero]; rfl) (yields_run (by rfl) ?_) ?_; rotate_left; (focus (intro w' hw'; skip; go_simp <;> with_reducible rfl)); (simp only [Act.put, List.setIfInBounds_toArray, List.set_cons_zero, List.set_cons_succ]))
      (refine plan3_take (o := ?_) (v := ?_) (by simp only [List.getElem?_toArray, List.getElem?_cons_succ, List.getElem?_cons_zero]; rfl) (yields_run (by rfl) ?_) ?_; rotate_left; (focus (intro w' hw'; skip; go_simp <;> with_reducible rfl)); (simp only [Act.put, List.setIfInBounds_toArray, List.set_cons_zero, List.set_cons_succ]))
      refine plan3_done ?_
      have HB1 := hide (HB2.out.below HS2.out)
      clear HS0 HS1 HB2
      generalize w3.drewN n4 = w5 at *
      have HB2 := hide (HB1.out.nought)
      have HR := hide (HB1.out.b3.far (Y := w.heap.size + 1 + 1) (by omega) #[.slice none 0 0, .int .i64 0, .int .i64 0])
      go_wp2_with (first | (refine wpList_store_row rfl 29 (.tmp 4) (.tmp 67) rfl (w.heap.size + 1 + 1) #[.slice none 0 0, .int .i64 0, .int .i64 0] rfl rfl 29 _ HB1.out.b2 Try.size29 rfl (one29 _ _ _ _ _) ?_) | (refine wpList_store_row rfl 25 (.tmp 5) (.tmp 68) rfl (w.heap.size + 1 + 1 + 1) #[.slice none 0 0, .slice none 0 0, .int .i64 0, .bool false] rfl rfl 25 _ HR.out Try.size25 rfl (one25 _ _ _ _ _ _ _ _) ?_))
      exact bodyPost_ret (v := .tuple #[Jr.zero.v, Dsk.zero.v, .int .i64 50]) (results_cells_tmp rfl _ _ (w.heap.size + 1 + 1) (w.heap.size + 1 + 1 + 1) 29 25 _ _ _ _ (.int .i64 50) rfl rfl rfl HB2.out.1 HB2.out.2.1 Try.underlying29 rfl Try.size29 Try.underlying25 rfl Try.size25) rfl (JSAns.zero HX.out HB2.out.2.2)
  · have hsame : decide (recordsB (secD d.ss) = (secD rs).take sy) = false := decide_eq_false hsm
    rw [if_neg (fun h => hsm h.1)] at HX
    clear hsm
    go_upto_region 12 with (fail)
    refine wp_region_plan3 (fun w' => Below w2.heap.size w2 w') (.take 0 (.take 1 (.take 3 (.take 4 (.take 5 (.take 6 (.take 7 (.run 2 (.run 8 (.take 9 (.take 10 (.take 11 (.take 12 (.take 13 .done)))))))))))))) (by kernel_rfl) (by kernel_rfl) ((Below.refl _ _).drew) ?_
    have HS0 := hide (show Below w2.heap.size w2 w2.drew from (Below.refl _ _).drew)
    generalize w2.drew = wD at HS0 ⊢
    (refine plan3_take (o := ?_) (v := ?_) (by simp only [List.getElem?_toArray, List.getElem?_cons_zero]; rfl) (yields_run (by rfl) ?_) ?_; rotate_left; (focus (intro w' hw'; obtain ⟨q0, q1, q2, q3⟩ := (HB2.out.below hw').b1.c4; obtain ⟨z0, z1, z2⟩ := (HB2.out.below hw').b0.t3; go_simp <;> with_reducible rfl)); (simp only [Act.put, List.setIfInBounds_toArray, List.set_cons_zero, List.set_cons_succ]))
    (refine plan3_take (o := ?_) (v := ?_) (by simp only [List.getElem?_toArray, List.getElem?_cons_succ, List.getElem?_cons_zero]; rfl) (yields_run (by rfl) ?_) ?_; rotate_left; (focus (intro w' hw'; obtain ⟨q0, q1, q2, q3⟩ := (HB2.out.below hw').b1.c4; obtain ⟨z0, z1, z2⟩ := (HB2.out.below hw').b0.t3; go_simp <;> with_reducible rfl)); (simp only [Act.put, List.setIfInBounds_toArray, List.set_cons_zero, List.set_cons_succ]))
    (refine plan3_take (o := ?_) (v := ?_) (by simp only [List.getElem?_toArray, List.getElem?_cons_succ, List.getElem?_cons_zero]; rfl) (yields_run (by rfl) ?_) ?_; rotate_left; (focus (intro w' hw'; obtain ⟨q0, q1, q2, q3⟩ := (HB2.out.below hw').b1.c4; obtain ⟨z0, z1, z2⟩ := (HB2.out.below hw').b0.t3; go_simp <;> with_reducible rfl)); (simp only [Act.put, List.setIfInBounds_toArray, List.set_cons_zero, List.set_cons_succ]))
    (refine plan3_take (o := ?_) (v := ?_) (by simp only [List.getElem?_toArray, List.getElem?_cons_succ, List.getElem?_cons_zero]; rfl) (yields_run (by rfl) ?_) ?_; rotate_left; (focus (intro w' hw'; obtain ⟨q0, q1, q2, q3⟩ := (HB2.out.below hw').b1.c4; obtain ⟨z0, z1, z2⟩ := (HB2.out.below hw').b0.t3; go_simp <;> with_reducible rfl)); (simp only [Act.put, List.setIfInBounds_toArray, List.set_cons_zero, List.set_cons_succ]))
    (refine plan3_take (o := ?_) (v := ?_) (by simp only [List.getElem?_toArray, List.getElem?_cons_succ, List.getElem?_cons_zero]; rfl) (yields_run (by rfl) ?_) ?_; rotate_left; (focus (intro w' hw'; obtain ⟨q0, q1, q2, q3⟩ := (HB2.out.below hw').b1.c4; obtain ⟨z0, z1, z2⟩ := (HB2.out.below hw').b0.t3; go_simp <;> with_reducible rfl)); (simp only [Act.put, List.setIfInBounds_toArray, List.set_cons_zero, List.set_cons_succ]))
    (refine plan3_take (o := ?_) (v := ?_) (by simp only [List.getElem?_toArray, List.getElem?_cons_succ, List.getElem?_cons_zero]; rfl) (yields_run (by rfl) ?_) ?_; rotate_left; (focus (intro w' hw'; obtain ⟨q0, q1, q2, q3⟩ := (HB2.out.below hw').b1.c4; obtain ⟨z0, z1, z2⟩ := (HB2.out.below hw').b0.t3; go_simp <;> with_reducible rfl)); (simp only [Act.put, List.setIfInBounds_toArray, List.set_cons_zero, List.set_cons_succ]))
    (refine plan3_take (o := ?_) (v := ?_) (by simp only [List.getElem?_toArray, List.getElem?_cons_succ, List.getElem?_cons_zero]; rfl) (yields_run (by rfl) ?_) ?_; rotate_left; (focus (intro w' hw'; obtain ⟨q0, q1, q2, q3⟩ := (HB2.out.below hw').b1.c4; obtain ⟨z0, z1, z2⟩ := (HB2.out.below hw').b0.t3; go_simp <;> with_reducible rfl)); (simp only [Act.put, List.setIfInBounds_toArray, List.set_cons_zero, List.set_cons_succ]))
    refine plan3_run (o := ?_) (by simp only [List.getElem?_toArray, List.getElem?_cons_succ, List.getElem?_cons_zero]; rfl) ?_
    intro R HRR
    go_wp2_with fail
    refine (HRC.out _ (HB2.out.below HS0.out).bel).mono ?_
    rintro e w3 ⟨B, c, l, rfl, hsd, hri⟩
    have HSD := hide hsd
    have HS1 := hide (below_one HS0.out hri.bel)
    have HSI := hide (recs_in (n0 := n0) hri)
    have HLF := hide (recs_few hsd (by rw [secD_len]; exact HN2.out))
    clear hsd hri
    go_wp2_with fail
    refine HRR.out _ _ HS1.out ?_
    clear HRR
    refine plan3_run (o := ?_) (by simp only [List.getElem?_toArray, List.getElem?_cons_succ, List.getElem?_cons_zero]; rfl) ?_
    intro R HRR
    have HSR := hide (srec_any B l c A (rs.take sy) cap w3 HSI.out ((HJ.out.recs.below (HB2.out.below HS1.out).bel).take sy))
    rw [HTL.out, HSD.out, secD_take] at HSR
    go_wp2_with fail
    refine HSR.out.mono ?_
    rintro e w4 ⟨rfl, n4, rfl⟩
    rw [hsame]
    have HS2 := hide (below_drewN HS1.out n4)
    go_wp2_with fail
    refine HRR.out _ _ HS2.out ?_
    clear HRR HSR HSI HSD HLF
    (refine plan3_take (o := ?_) (v := ?_) (by simp only [List.getElem?_toArray, List.getElem?_cons_succ, List.getElem?_cons_zero]; rfl) (yields_run (by rfl) ?_) ?_; rotate_left; (focus (intro w' hw'; skip; go_simp <;> with_reducible rfl)); (simp only [Act.put, List.setIfInBounds_toArray, List.set_cons_zero, List.set_cons_succ]))
    (refine plan3_take (o := ?_) (v := ?_) (by simp only [List.getElem?_toArray, List.getElem?_cons_succ, List.getElem?_cons_zero]; rfl) (yields_run (by rfl) ?_) ?_; rotate_left; (focus (intro w' hw'; skip; go_simp <;> with_reducible rfl)); (simp only [Act.put, List.setIfInBounds_toArray, List.set_cons_zero, List.set_cons_succ]))
    (refine plan3_take (o := ?_) (v := undef) (by simp only [List.getElem?_toArray, List.getElem?_cons_succ, List.getElem?_cons_zero]; rfl) (yields_not (by rfl)) ?_; (simp only [Act.put, List.setIfInBounds_toArray, List.set_cons_zero, List.set_cons_succ]))
    (refine plan3_take (o := ?_) (v := undef) (by simp only [List.getElem?_toArray, List.getElem?_cons_succ, List.getElem?_cons_zero]; rfl) (yields_not (by rfl)) ?_; (simp only [Act.put, List.setIfInBounds_toArray, List.set_cons_zero, List.set_cons_succ]))
    (refine plan3_take (o := ?_) (v := ?_) (by simp only [List.getElem?_toArray, List.getElem?_cons_succ, List.getElem?_cons_zero]; rfl) (yields_run (by rfl) ?_) ?_; rotate_left; (focus (intro w' hw'; skip; go_simp <;> with_reducible rfl)); (simp only [Act.put, List.setIfInBounds_toArray, List.set_cons_zero, List.set_cons_succ]))
    refine plan3_done ?_
    have HB1 := hide (HB2.out.below HS2.out)
    clear HS0 HS1 HB2
    generalize w3.drewN n4 = w5 at *
    have HB2 := hide (HB1.out.nought)
    have HR := hide (HB1.out.b3.far (Y := w.heap.size + 1 + 1) (by omega) #[.slice none 0 0, .int .i64 0, .int .i64 0])
    go_wp2_with (first | (refine wpList_store_row rfl 29 (.tmp 4) (.tmp 67) rfl (w.heap.size + 1 + 1) #[.slice none 0 0, .int .i64 0, .int .i64 0] rfl rfl 29 _ HB1.out.b2 Try.size29 rfl (one29 _ _ _ _ _) ?_) | (refine wpList_store_row rfl 25 (.tmp 5) (.tmp 68) rfl (w.heap.size + 1 + 1 + 1) #[.slice none 0 0, .slice none 0 0, .int .i64 0, .bool false] rfl rfl 25 _ HR.out Try.size25 rfl (one25 _ _ _ _ _ _ _ _) ?_))
    exact bodyPost_ret (v := .tuple #[Jr.zero.v, Dsk.zero.v, .int .i64 50]) (results_cells_tmp rfl _ _ (w.heap.size + 1 + 1) (w.heap.size + 1 + 1 + 1) 29 25 _ _ _ _ (.int .i64 50) rfl rfl rfl HB2.out.1 HB2.out.2.1 Try.underlying29 rfl Try.size29 Try.underlying25 rfl Try.size25) rfl (JSAns.zero HX.out HB2.out.2.2)
end Go.Proofs.Ytgigccgklahddaa
