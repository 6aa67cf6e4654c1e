/- good of the reference. -/
import Derived.Test.YtgigccgklahddaaGod
import Derived.BigQuiet
import Derived.Deep.QuietTactic
import Derived.Test.YtgigccgklahddaaRgB
import Derived.Test.YtgigccgklahddaaRgD
namespace Go.Proofs.Ytgigccgklahddaa
open Go.RowKit
set_option linter.unusedVariables false

set_option maxRecDepth 100000 in
set_option maxHeartbeats 6400000 in
theorem rgood_9faa (b o cap : Nat) (l : List UInt8) (k : Nat) (w : World) (hl : l.length = 128) (hcap : 128 ≤ cap) (hcm : cap ≤ 9223372036854775807) (hk : k < 65536) (hc : ∀ i (h : i < l.length), w.cell? ⟨b, o + i, none⟩ = some (.int .u8 (l[i].toNat : Nat))) (a1 : numB (l.take 4) ≠ 0) (a2 : numB (l.take 4) = numB (l.drop 124)) (a3 : numB ((l.drop 4).take 4) = (crc ((l.drop 8).take 116)).toNat) (a4 : numB ((l.drop 8).take 2) = k) (a5 : (l.getD 10 0).toNat ≤ 3) (a6 : (l.getD 11 0).toNat ≤ 112) (a7 : 2 ≤ (l.getD 10 0).toNat ∨ (l.getD 11 0).toNat = 112) (a8 : (l.getD 10 0).toNat % 2 = 1 ∨ (l.getD 11 0).toNat ≠ 0) (a9 : ¬ (∀ i, 12 + (l.getD 11 0).toNat ≤ i → i < 124 → l.getD i 0 = 0)) (b7 : 2 ≤ (l.getD 10 0).toNat) (b8 : (l.getD 10 0).toNat % 2 = 1) :
    Calls Try.prog 72 #[.slice (some ⟨b, o, none⟩) 128 cap, .int .i64 k] w fun e w' => e = .returned (.bool (readB l k).isSome) ∧ ∃ n, w' = w.drewN n := by
  have hcs : ∀ off len, off + len ≤ 128 → ∀ i (h : i < ((l.drop off).take len).length), w.cell? ⟨b, o + off + i, none⟩ = some (.int .u8 ((((l.drop off).take len)[i]).toNat : Nat)) := by
    intro off len hle i h
    rw [List.length_take, List.length_drop] at h
    have := hc (off + i) (by omega)
    rw [Nat.add_assoc, this]
    simp
  have hlen : ∀ off len, off + len ≤ 128 → len = ((l.drop off).take len).length := fun off len h => by rw [List.length_take, List.length_drop]; omega
  have H1 : Hid (∀ n, Calls Try.prog 61 #[.slice (some ⟨b, o, none⟩) 4 cap] (w.drewN n) fun e w' => e = .returned (.int .u64 (numB (l.take 4) : Nat)) ∧ w' = w.drewN n) := hide fun n => rnumber_any b o 4 cap (l.take 4) (w.drewN n) (fun i h => by have := hcs 0 4 (by omega) i h; simpa using this) (hlen 0 4 (by omega)) (by omega)
  have H2 : Hid (∀ n, Calls Try.prog 61 #[.slice (some ⟨b, o + 124, none⟩) 4 (cap - 124)] (w.drewN n) fun e w' => e = .returned (.int .u64 (numB (l.drop 124) : Nat)) ∧ w' = w.drewN n) := hide fun n => by
    have := rnumber_any b (o + 124) 4 (cap - 124) ((l.drop 124).take 4) (w.drewN n) (fun i h => hcs 124 4 (by omega) i h) (hlen 124 4 (by omega)) (by omega)
    rwa [List.take_of_length_le (by rw [List.length_drop]; omega)] at this
  have H3 : Hid (∀ n, Calls Try.prog 61 #[.slice (some ⟨b, o + 4, none⟩) 4 (cap - 4)] (w.drewN n) fun e w' => e = .returned (.int .u64 (numB ((l.drop 4).take 4) : Nat)) ∧ w' = w.drewN n) := hide fun n => rnumber_any b (o + 4) 4 (cap - 4) ((l.drop 4).take 4) (w.drewN n) (fun i h => hcs 4 4 (by omega) i h) (hlen 4 4 (by omega)) (by omega)
  have H4 : Hid (∀ n, Calls Try.prog 61 #[.slice (some ⟨b, o + 8, none⟩) 2 (cap - 8)] (w.drewN n) fun e w' => e = .returned (.int .u64 (numB ((l.drop 8).take 2) : Nat)) ∧ w' = w.drewN n) := hide fun n => rnumber_any b (o + 8) 2 (cap - 8) ((l.drop 8).take 2) (w.drewN n) (fun i h => hcs 8 2 (by omega) i h) (hlen 8 2 (by omega)) (by omega)
  have HK : Hid (∀ n, Calls Try.prog 67 #[.slice (some ⟨b, o + 8, none⟩) 116 (cap - 8)] (w.drewN n) fun e w' => e = .returned (uv (crc ((l.drop 8).take 116))) ∧ w' = w.drewN n) := hide fun n => rchecksum_any b (o + 8) 116 (cap - 8) ((l.drop 8).take 116) (w.drewN n) (fun i h => hcs 8 116 (by omega) i h) (hlen 8 116 (by omega)) (by omega)
  have c10 := hc 10 (by omega)
  have c11 := hc 11 (by omega)
  have HG := hide (@read_good l k hl hk)
  have HZ := hide (show ∀ i, i < 128 → w.cell? ⟨b, o + i, none⟩ = some (.int .u8 ((l.getD i 0).toNat : Nat)) from fun i hi => by
    rw [hc i (by omega), List.getD_eq_getElem?_getD, List.getElem?_eq_getElem (by omega)]
    rfl)
  have v10e : (l[10]'(by omega)) = l.getD 10 0 := by rw [List.getD_eq_getElem?_getD, List.getElem?_eq_getElem (by omega)]; rfl
  have v11e : (l[11]'(by omega)) = l.getD 11 0 := by rw [List.getD_eq_getElem?_getD, List.getElem?_eq_getElem (by omega)]; rfl
  rw [v10e] at c10
  rw [v11e] at c11
  have hb4 : ∀ l : List UInt8, l.length = 4 → numB l < 4294967296 := fun l h => by
    obtain ⟨a, b, c, d, r, rfl, hr⟩ := cons4 (l := l) (by omega)
    obtain rfl : r = [] := List.eq_nil_of_length_eq_zero (by omega)
    rw [numB_four]
    exact n4_lt _ _ _ _
  have hccl : numB ((l.drop 4).take 4) < 4294967296 := hb4 _ (hlen 4 4 (by omega)).symm
  have hckl : (crc ((l.drop 8).take 116)).toNat < 4294967296 := (crc ((l.drop 8).take 116)).isLt
  have hv10 : (l.getD 10 0).toNat < 256 := (l.getD 10 0).toNat_lt
  have hv11 : (l.getD 11 0).toNat < 256 := (l.getD 11 0).toNat_lt
  have hgood : ((readB l k).isSome = true ↔ (numB (l.take 4) ≠ 0 ∧ numB (l.take 4) = numB (l.drop 124) ∧ numB ((l.drop 4).take 4) = (crc ((l.drop 8).take 116)).toNat ∧ numB ((l.drop 8).take 2) = k ∧ (l.getD 10 0).toNat ≤ 3 ∧ (l.getD 11 0).toNat ≤ 112 ∧ (2 ≤ (l.getD 10 0).toNat ∨ (l.getD 11 0).toNat = 112) ∧ ((l.getD 10 0).toNat % 2 = 1 ∨ (l.getD 11 0).toNat ≠ 0) ∧ ∀ i, 12 + (l.getD 11 0).toNat ≤ i → i < 124 → l.getD i 0 = 0)) :=
    (read_good hl hk).trans ⟨fun h => ⟨h.1, h.2, h.3, h.4, h.5, h.6, h.7, h.8, h.9⟩, fun ⟨h1, h2, h3, h4, h5, h6, h7, h8, h9⟩ => ⟨h1, h2, h3, h4, h5, h6, h7, h8, h9⟩⟩
  have HG := hide hgood
  clear hgood hc hcs hlen v10e v11e hl hb4
  generalize (readB l k).isSome = r at *
  generalize numB (l.take 4) = g1 at *
  generalize numB (l.drop 124) = g2 at *
  generalize numB ((l.drop 4).take 4) = cc at *
  generalize crc ((l.drop 8).take 116) = ckv at *
  generalize numB ((l.drop 8).take 2) = pl at *
  generalize hv10e : (l.getD 10 0).toNat = v10 at *
  generalize hv11e : (l.getD 11 0).toNat = v11 at *
  simp only [uv] at HK
  generalize ckv.toNat = ck at *
  have hccm : (cc : Int) % 4294967296 = (cc : Int) := by omega
  have hkm : (k : Int) % 18446744073709551616 = (k : Int) := by omega
  have hfalse : ¬ (g1 ≠ 0 ∧ g1 = g2 ∧ cc = ck ∧ pl = k ∧ v10 ≤ 3 ∧ v11 ≤ 112 ∧ (2 ≤ v10 ∨ v11 = 112) ∧ (v10 % 2 = 1 ∨ v11 ≠ 0) ∧ ∀ i, 12 + v11 ≤ i → i < 124 → l.getD i 0 = 0) → r = false := fun h => by
    cases hr : r with
    | false => rfl
    | true => exact absurd (HG.out.1 hr) h
  have hr : r = false := hfalse (fun h => a9 h.2.2.2.2.2.2.2.2)
  rw [hr]
  have HAZ := hide a9
  have HZ2 := hide (show ∀ i, 12 + v11 ≤ i → i < 124 → w.cell? ⟨b, o + i, none⟩ = some (.int .u8 ((l.getD i 0).toNat : Nat)) from fun i _ h => HZ.out i (by omega))
  have n4' : ¬ cap = 4 := by omega
  have n8' : ¬ cap = 8 := by omega
  have n124' : ¬ cap = 124 := by omega
  have i4 : (4 : Int) ≤ (cap : Int) := by omega
  have i8 : (8 : Int) ≤ (cap : Int) := by omega
  have i10 : (10 : Int) ≤ (cap : Int) := by omega
  have i124 : (124 : Int) ≤ (cap : Int) := by omega
  have t1 : ((g1 : Int) == 0) = false := beq_eq_false_iff_ne.2 (by omega)
  have t2 : ((g1 : Int) != (g2 : Int)) = false := bne_eq_false_iff_eq.2 (by omega)
  have t3 : ((cc : Int) != (ck : Int)) = false := bne_eq_false_iff_eq.2 (by omega)
  have t4 : ((pl : Int) != (k : Int)) = false := bne_eq_false_iff_eq.2 (by omega)
  have t5 : decide ((3 : Int) < (v10 : Int)) = false := decide_eq_false (by omega)
  have t6 : decide ((112 : Int) < (v11 : Int)) = false := decide_eq_false (by omega)
  have t7 : decide ((v10 : Int) < 2) = false := decide_eq_false (by omega)
  have htm : ((v10 : Nat) : Int).tmod 2 = ((v10 : Nat) : Int) % 2 := Int.tmod_eq_emod_of_nonneg (by omega)
  have t8 : (((v10 : Nat) : Int) % 2 == 0) = false := beq_eq_false_iff_ne.2 (by omega)
  clear hr HG hfalse a9 HZ
  clear a1 a2 a3 a4 a5 a7 a8 b7 b8
  go_enter Try.func72, Try.ntmps72
  go_wp2_with fail
  go_quiet (first | (go_at_call 61; first | (with_reducible refine Calls.quiet_of_same (H1.out _)) | (with_reducible refine Calls.quiet_of_same (H2.out _)) | (with_reducible refine Calls.quiet_of_same (H3.out _)) | (with_reducible refine Calls.quiet_of_same (H4.out _))) | (go_at_call 67; refine Calls.quiet_of_same (HK.out _)))
  go_wp2_with fail
  go_loopw [6] (fun i wr => ∃ (j : Nat), 12 + v11 ≤ j ∧ j ≤ 124 ∧ i = .int .i64 j ∧ Hid (∀ i, 12 + v11 ≤ i → i < j → l.getD i 0 = 0) ∧ Hid (∃ n, wr = w.drewN n)) (fun i _ => 124 - (intOf i).toNat)
  case atStart => exact ⟨12 + v11, Nat.le_refl _, by omega, by go_num, hide (fun i h1 h2 => absurd h2 (by omega)), hide ⟨_, rfl⟩⟩
  case round =>
    obtain ⟨j, hj1, hj2, rfl, HJ, HWN⟩ := hrel
    obtain ⟨n, rfl⟩ := HWN.out
    by_cases hlt : j < 124
    · have hcell := HZ2.out j hj1 hlt
      have hj128 : (j : Int) < 128 := by omega
      by_cases hz : l.getD j 0 = 0
      · rw [hz] at hcell
        have HJ2 : Hid (∀ i, 12 + v11 ≤ i → i < j + 1 → l.getD i 0 = 0) := hide (fun i h1 h2 => by
          by_cases he : i = j
          · rw [he]; exact hz
          · exact HJ.out i h1 (by omega))
        replace hcell : w.cell? ⟨b, o + j, none⟩ = some (.int .u8 0) := hcell
        clear hz HJ
        go_wp2_with fail
        go_roundw
        case rel => exact ⟨j + 1, by omega, by omega, by go_num, HJ2, hide ⟨_, rfl⟩⟩
        case measure => simp [intOf]; omega
      · have hne : (((l.getD j 0).toNat : Int) == 0) = false := beq_eq_false_iff_ne.2 (fun h => hz (u8_eq (by have h0 : (l.getD j 0).toNat = 0 := Int.ofNat_eq_zero.1 h; rw [h0]; rfl)))
        generalize (l.getD j 0).toNat = z at *
        clear hz HJ
        go_wp2_with fail
        go_ret
        exact ⟨rfl, _, rfl⟩
    · exact absurd (fun i h1 h2 => HJ.out i h1 (by omega)) HAZ.out

set_option maxRecDepth 100000 in
set_option maxHeartbeats 6400000 in
theorem rgood_9fab (b o cap : Nat) (l : List UInt8) (k : Nat) (w : World) (hl : l.length = 128) (hcap : 128 ≤ cap) (hcm : cap ≤ 9223372036854775807) (hk : k < 65536) (hc : ∀ i (h : i < l.length), w.cell? ⟨b, o + i, none⟩ = some (.int .u8 (l[i].toNat : Nat))) (a1 : numB (l.take 4) ≠ 0) (a2 : numB (l.take 4) = numB (l.drop 124)) (a3 : numB ((l.drop 4).take 4) = (crc ((l.drop 8).take 116)).toNat) (a4 : numB ((l.drop 8).take 2) = k) (a5 : (l.getD 10 0).toNat ≤ 3) (a6 : (l.getD 11 0).toNat ≤ 112) (a7 : 2 ≤ (l.getD 10 0).toNat ∨ (l.getD 11 0).toNat = 112) (a8 : (l.getD 10 0).toNat % 2 = 1 ∨ (l.getD 11 0).toNat ≠ 0) (a9 : ¬ (∀ i, 12 + (l.getD 11 0).toNat ≤ i → i < 124 → l.getD i 0 = 0)) (b7 : 2 ≤ (l.getD 10 0).toNat) (b8 : (l.getD 10 0).toNat % 2 = 0 ∧ (l.getD 11 0).toNat ≠ 0) :
    Calls Try.prog 72 #[.slice (some ⟨b, o, none⟩) 128 cap, .int .i64 k] w fun e w' => e = .returned (.bool (readB l k).isSome) ∧ ∃ n, w' = w.drewN n := by
  have hcs : ∀ off len, off + len ≤ 128 → ∀ i (h : i < ((l.drop off).take len).length), w.cell? ⟨b, o + off + i, none⟩ = some (.int .u8 ((((l.drop off).take len)[i]).toNat : Nat)) := by
    intro off len hle i h
    rw [List.length_take, List.length_drop] at h
    have := hc (off + i) (by omega)
    rw [Nat.add_assoc, this]
    simp
  have hlen : ∀ off len, off + len ≤ 128 → len = ((l.drop off).take len).length := fun off len h => by rw [List.length_take, List.length_drop]; omega
  have H1 : Hid (∀ n, Calls Try.prog 61 #[.slice (some ⟨b, o, none⟩) 4 cap] (w.drewN n) fun e w' => e = .returned (.int .u64 (numB (l.take 4) : Nat)) ∧ w' = w.drewN n) := hide fun n => rnumber_any b o 4 cap (l.take 4) (w.drewN n) (fun i h => by have := hcs 0 4 (by omega) i h; simpa using this) (hlen 0 4 (by omega)) (by omega)
  have H2 : Hid (∀ n, Calls Try.prog 61 #[.slice (some ⟨b, o + 124, none⟩) 4 (cap - 124)] (w.drewN n) fun e w' => e = .returned (.int .u64 (numB (l.drop 124) : Nat)) ∧ w' = w.drewN n) := hide fun n => by
    have := rnumber_any b (o + 124) 4 (cap - 124) ((l.drop 124).take 4) (w.drewN n) (fun i h => hcs 124 4 (by omega) i h) (hlen 124 4 (by omega)) (by omega)
    rwa [List.take_of_length_le (by rw [List.length_drop]; omega)] at this
  have H3 : Hid (∀ n, Calls Try.prog 61 #[.slice (some ⟨b, o + 4, none⟩) 4 (cap - 4)] (w.drewN n) fun e w' => e = .returned (.int .u64 (numB ((l.drop 4).take 4) : Nat)) ∧ w' = w.drewN n) := hide fun n => rnumber_any b (o + 4) 4 (cap - 4) ((l.drop 4).take 4) (w.drewN n) (fun i h => hcs 4 4 (by omega) i h) (hlen 4 4 (by omega)) (by omega)
  have H4 : Hid (∀ n, Calls Try.prog 61 #[.slice (some ⟨b, o + 8, none⟩) 2 (cap - 8)] (w.drewN n) fun e w' => e = .returned (.int .u64 (numB ((l.drop 8).take 2) : Nat)) ∧ w' = w.drewN n) := hide fun n => rnumber_any b (o + 8) 2 (cap - 8) ((l.drop 8).take 2) (w.drewN n) (fun i h => hcs 8 2 (by omega) i h) (hlen 8 2 (by omega)) (by omega)
  have HK : Hid (∀ n, Calls Try.prog 67 #[.slice (some ⟨b, o + 8, none⟩) 116 (cap - 8)] (w.drewN n) fun e w' => e = .returned (uv (crc ((l.drop 8).take 116))) ∧ w' = w.drewN n) := hide fun n => rchecksum_any b (o + 8) 116 (cap - 8) ((l.drop 8).take 116) (w.drewN n) (fun i h => hcs 8 116 (by omega) i h) (hlen 8 116 (by omega)) (by omega)
  have c10 := hc 10 (by omega)
  have c11 := hc 11 (by omega)
  have HG := hide (@read_good l k hl hk)
  have HZ := hide (show ∀ i, i < 128 → w.cell? ⟨b, o + i, none⟩ = some (.int .u8 ((l.getD i 0).toNat : Nat)) from fun i hi => by
    rw [hc i (by omega), List.getD_eq_getElem?_getD, List.getElem?_eq_getElem (by omega)]
    rfl)
  have v10e : (l[10]'(by omega)) = l.getD 10 0 := by rw [List.getD_eq_getElem?_getD, List.getElem?_eq_getElem (by omega)]; rfl
  have v11e : (l[11]'(by omega)) = l.getD 11 0 := by rw [List.getD_eq_getElem?_getD, List.getElem?_eq_getElem (by omega)]; rfl
  rw [v10e] at c10
  rw [v11e] at c11
  have hb4 : ∀ l : List UInt8, l.length = 4 → numB l < 4294967296 := fun l h => by
    obtain ⟨a, b, c, d, r, rfl, hr⟩ := cons4 (l := l) (by omega)
    obtain rfl : r = [] := List.eq_nil_of_length_eq_zero (by omega)
    rw [numB_four]
    exact n4_lt _ _ _ _
  have hccl : numB ((l.drop 4).take 4) < 4294967296 := hb4 _ (hlen 4 4 (by omega)).symm
  have hckl : (crc ((l.drop 8).take 116)).toNat < 4294967296 := (crc ((l.drop 8).take 116)).isLt
  have hv10 : (l.getD 10 0).toNat < 256 := (l.getD 10 0).toNat_lt
  have hv11 : (l.getD 11 0).toNat < 256 := (l.getD 11 0).toNat_lt
  have hgood : ((readB l k).isSome = true ↔ (numB (l.take 4) ≠ 0 ∧ numB (l.take 4) = numB (l.drop 124) ∧ numB ((l.drop 4).take 4) = (crc ((l.drop 8).take 116)).toNat ∧ numB ((l.drop 8).take 2) = k ∧ (l.getD 10 0).toNat ≤ 3 ∧ (l.getD 11 0).toNat ≤ 112 ∧ (2 ≤ (l.getD 10 0).toNat ∨ (l.getD 11 0).toNat = 112) ∧ ((l.getD 10 0).toNat % 2 = 1 ∨ (l.getD 11 0).toNat ≠ 0) ∧ ∀ i, 12 + (l.getD 11 0).toNat ≤ i → i < 124 → l.getD i 0 = 0)) :=
    (read_good hl hk).trans ⟨fun h => ⟨h.1, h.2, h.3, h.4, h.5, h.6, h.7, h.8, h.9⟩, fun ⟨h1, h2, h3, h4, h5, h6, h7, h8, h9⟩ => ⟨h1, h2, h3, h4, h5, h6, h7, h8, h9⟩⟩
  have HG := hide hgood
  clear hgood hc hcs hlen v10e v11e hl hb4
  generalize (readB l k).isSome = r at *
  generalize numB (l.take 4) = g1 at *
  generalize numB (l.drop 124) = g2 at *
  generalize numB ((l.drop 4).take 4) = cc at *
  generalize crc ((l.drop 8).take 116) = ckv at *
  generalize numB ((l.drop 8).take 2) = pl at *
  generalize hv10e : (l.getD 10 0).toNat = v10 at *
  generalize hv11e : (l.getD 11 0).toNat = v11 at *
  simp only [uv] at HK
  generalize ckv.toNat = ck at *
  have hccm : (cc : Int) % 4294967296 = (cc : Int) := by omega
  have hkm : (k : Int) % 18446744073709551616 = (k : Int) := by omega
  have hfalse : ¬ (g1 ≠ 0 ∧ g1 = g2 ∧ cc = ck ∧ pl = k ∧ v10 ≤ 3 ∧ v11 ≤ 112 ∧ (2 ≤ v10 ∨ v11 = 112) ∧ (v10 % 2 = 1 ∨ v11 ≠ 0) ∧ ∀ i, 12 + v11 ≤ i → i < 124 → l.getD i 0 = 0) → r = false := fun h => by
    cases hr : r with
    | false => rfl
    | true => exact absurd (HG.out.1 hr) h
  have hr : r = false := hfalse (fun h => a9 h.2.2.2.2.2.2.2.2)
  rw [hr]
  have HAZ := hide a9
  have HZ2 := hide (show ∀ i, 12 + v11 ≤ i → i < 124 → w.cell? ⟨b, o + i, none⟩ = some (.int .u8 ((l.getD i 0).toNat : Nat)) from fun i _ h => HZ.out i (by omega))
  have n4' : ¬ cap = 4 := by omega
  have n8' : ¬ cap = 8 := by omega
  have n124' : ¬ cap = 124 := by omega
  have i4 : (4 : Int) ≤ (cap : Int) := by omega
  have i8 : (8 : Int) ≤ (cap : Int) := by omega
  have i10 : (10 : Int) ≤ (cap : Int) := by omega
  have i124 : (124 : Int) ≤ (cap : Int) := by omega
  have t1 : ((g1 : Int) == 0) = false := beq_eq_false_iff_ne.2 (by omega)
  have t2 : ((g1 : Int) != (g2 : Int)) = false := bne_eq_false_iff_eq.2 (by omega)
  have t3 : ((cc : Int) != (ck : Int)) = false := bne_eq_false_iff_eq.2 (by omega)
  have t4 : ((pl : Int) != (k : Int)) = false := bne_eq_false_iff_eq.2 (by omega)
  have t5 : decide ((3 : Int) < (v10 : Int)) = false := decide_eq_false (by omega)
  have t6 : decide ((112 : Int) < (v11 : Int)) = false := decide_eq_false (by omega)
  have t7 : decide ((v10 : Int) < 2) = false := decide_eq_false (by omega)
  have htm : ((v10 : Nat) : Int).tmod 2 = ((v10 : Nat) : Int) % 2 := Int.tmod_eq_emod_of_nonneg (by omega)
  have t8 : (((v10 : Nat) : Int) % 2 == 0) = true := beq_iff_eq.2 (by omega)
  have t8b : ((v11 : Int) == 0) = false := beq_eq_false_iff_ne.2 (by omega)
  clear hr HG hfalse a9 HZ
  clear a1 a2 a3 a4 a5 a7 a8 b7 b8
  go_enter Try.func72, Try.ntmps72
  go_wp2_with fail
  go_quiet (first | (go_at_call 61; first | (with_reducible refine Calls.quiet_of_same (H1.out _)) | (with_reducible refine Calls.quiet_of_same (H2.out _)) | (with_reducible refine Calls.quiet_of_same (H3.out _)) | (with_reducible refine Calls.quiet_of_same (H4.out _))) | (go_at_call 67; refine Calls.quiet_of_same (HK.out _)))
  go_wp2_with fail
  go_loopw [6] (fun i wr => ∃ (j : Nat), 12 + v11 ≤ j ∧ j ≤ 124 ∧ i = .int .i64 j ∧ Hid (∀ i, 12 + v11 ≤ i → i < j → l.getD i 0 = 0) ∧ Hid (∃ n, wr = w.drewN n)) (fun i _ => 124 - (intOf i).toNat)
  case atStart => exact ⟨12 + v11, Nat.le_refl _, by omega, by go_num, hide (fun i h1 h2 => absurd h2 (by omega)), hide ⟨_, rfl⟩⟩
  case round =>
    obtain ⟨j, hj1, hj2, rfl, HJ, HWN⟩ := hrel
    obtain ⟨n, rfl⟩ := HWN.out
    by_cases hlt : j < 124
    · have hcell := HZ2.out j hj1 hlt
      have hj128 : (j : Int) < 128 := by omega
      by_cases hz : l.getD j 0 = 0
      · rw [hz] at hcell
        have HJ2 : Hid (∀ i, 12 + v11 ≤ i → i < j + 1 → l.getD i 0 = 0) := hide (fun i h1 h2 => by
          by_cases he : i = j
          · rw [he]; exact hz
          · exact HJ.out i h1 (by omega))
        replace hcell : w.cell? ⟨b, o + j, none⟩ = some (.int .u8 0) := hcell
        clear hz HJ
        go_wp2_with fail
        go_roundw
        case rel => exact ⟨j + 1, by omega, by omega, by go_num, HJ2, hide ⟨_, rfl⟩⟩
        case measure => simp [intOf]; omega
      · have hne : (((l.getD j 0).toNat : Int) == 0) = false := beq_eq_false_iff_ne.2 (fun h => hz (u8_eq (by have h0 : (l.getD j 0).toNat = 0 := Int.ofNat_eq_zero.1 h; rw [h0]; rfl)))
        generalize (l.getD j 0).toNat = z at *
        clear hz HJ
        go_wp2_with fail
        go_ret
        exact ⟨rfl, _, rfl⟩
    · exact absurd (fun i h1 h2 => HJ.out i h1 (by omega)) HAZ.out

end Go.Proofs.Ytgigccgklahddaa

/- good of the reference. -/
namespace Go.Proofs.Ytgigccgklahddaa
open Go.RowKit
set_option linter.unusedVariables false

set_option maxRecDepth 100000 in
set_option maxHeartbeats 6400000 in
theorem rgood_9fba (b o cap : Nat) (l : List UInt8) (k : Nat) (w : World) (hl : l.length = 128) (hcap : 128 ≤ cap) (hcm : cap ≤ 9223372036854775807) (hk : k < 65536) (hc : ∀ i (h : i < l.length), w.cell? ⟨b, o + i, none⟩ = some (.int .u8 (l[i].toNat : Nat))) (a1 : numB (l.take 4) ≠ 0) (a2 : numB (l.take 4) = numB (l.drop 124)) (a3 : numB ((l.drop 4).take 4) = (crc ((l.drop 8).take 116)).toNat) (a4 : numB ((l.drop 8).take 2) = k) (a5 : (l.getD 10 0).toNat ≤ 3) (a6 : (l.getD 11 0).toNat ≤ 112) (a7 : 2 ≤ (l.getD 10 0).toNat ∨ (l.getD 11 0).toNat = 112) (a8 : (l.getD 10 0).toNat % 2 = 1 ∨ (l.getD 11 0).toNat ≠ 0) (a9 : ¬ (∀ i, 12 + (l.getD 11 0).toNat ≤ i → i < 124 → l.getD i 0 = 0)) (b7 : (l.getD 10 0).toNat < 2 ∧ (l.getD 11 0).toNat = 112) (b8 : (l.getD 10 0).toNat % 2 = 1) :
    Calls Try.prog 72 #[.slice (some ⟨b, o, none⟩) 128 cap, .int .i64 k] w fun e w' => e = .returned (.bool (readB l k).isSome) ∧ ∃ n, w' = w.drewN n := by
  have hcs : ∀ off len, off + len ≤ 128 → ∀ i (h : i < ((l.drop off).take len).length), w.cell? ⟨b, o + off + i, none⟩ = some (.int .u8 ((((l.drop off).take len)[i]).toNat : Nat)) := by
    intro off len hle i h
    rw [List.length_take, List.length_drop] at h
    have := hc (off + i) (by omega)
    rw [Nat.add_assoc, this]
    simp
  have hlen : ∀ off len, off + len ≤ 128 → len = ((l.drop off).take len).length := fun off len h => by rw [List.length_take, List.length_drop]; omega
  have H1 : Hid (∀ n, Calls Try.prog 61 #[.slice (some ⟨b, o, none⟩) 4 cap] (w.drewN n) fun e w' => e = .returned (.int .u64 (numB (l.take 4) : Nat)) ∧ w' = w.drewN n) := hide fun n => rnumber_any b o 4 cap (l.take 4) (w.drewN n) (fun i h => by have := hcs 0 4 (by omega) i h; simpa using this) (hlen 0 4 (by omega)) (by omega)
  have H2 : Hid (∀ n, Calls Try.prog 61 #[.slice (some ⟨b, o + 124, none⟩) 4 (cap - 124)] (w.drewN n) fun e w' => e = .returned (.int .u64 (numB (l.drop 124) : Nat)) ∧ w' = w.drewN n) := hide fun n => by
    have := rnumber_any b (o + 124) 4 (cap - 124) ((l.drop 124).take 4) (w.drewN n) (fun i h => hcs 124 4 (by omega) i h) (hlen 124 4 (by omega)) (by omega)
    rwa [List.take_of_length_le (by rw [List.length_drop]; omega)] at this
  have H3 : Hid (∀ n, Calls Try.prog 61 #[.slice (some ⟨b, o + 4, none⟩) 4 (cap - 4)] (w.drewN n) fun e w' => e = .returned (.int .u64 (numB ((l.drop 4).take 4) : Nat)) ∧ w' = w.drewN n) := hide fun n => rnumber_any b (o + 4) 4 (cap - 4) ((l.drop 4).take 4) (w.drewN n) (fun i h => hcs 4 4 (by omega) i h) (hlen 4 4 (by omega)) (by omega)
  have H4 : Hid (∀ n, Calls Try.prog 61 #[.slice (some ⟨b, o + 8, none⟩) 2 (cap - 8)] (w.drewN n) fun e w' => e = .returned (.int .u64 (numB ((l.drop 8).take 2) : Nat)) ∧ w' = w.drewN n) := hide fun n => rnumber_any b (o + 8) 2 (cap - 8) ((l.drop 8).take 2) (w.drewN n) (fun i h => hcs 8 2 (by omega) i h) (hlen 8 2 (by omega)) (by omega)
  have HK : Hid (∀ n, Calls Try.prog 67 #[.slice (some ⟨b, o + 8, none⟩) 116 (cap - 8)] (w.drewN n) fun e w' => e = .returned (uv (crc ((l.drop 8).take 116))) ∧ w' = w.drewN n) := hide fun n => rchecksum_any b (o + 8) 116 (cap - 8) ((l.drop 8).take 116) (w.drewN n) (fun i h => hcs 8 116 (by omega) i h) (hlen 8 116 (by omega)) (by omega)
  have c10 := hc 10 (by omega)
  have c11 := hc 11 (by omega)
  have HG := hide (@read_good l k hl hk)
  have HZ := hide (show ∀ i, i < 128 → w.cell? ⟨b, o + i, none⟩ = some (.int .u8 ((l.getD i 0).toNat : Nat)) from fun i hi => by
    rw [hc i (by omega), List.getD_eq_getElem?_getD, List.getElem?_eq_getElem (by omega)]
    rfl)
  have v10e : (l[10]'(by omega)) = l.getD 10 0 := by rw [List.getD_eq_getElem?_getD, List.getElem?_eq_getElem (by omega)]; rfl
  have v11e : (l[11]'(by omega)) = l.getD 11 0 := by rw [List.getD_eq_getElem?_getD, List.getElem?_eq_getElem (by omega)]; rfl
  rw [v10e] at c10
  rw [v11e] at c11
  have hb4 : ∀ l : List UInt8, l.length = 4 → numB l < 4294967296 := fun l h => by
    obtain ⟨a, b, c, d, r, rfl, hr⟩ := cons4 (l := l) (by omega)
    obtain rfl : r = [] := List.eq_nil_of_length_eq_zero (by omega)
    rw [numB_four]
    exact n4_lt _ _ _ _
  have hccl : numB ((l.drop 4).take 4) < 4294967296 := hb4 _ (hlen 4 4 (by omega)).symm
  have hckl : (crc ((l.drop 8).take 116)).toNat < 4294967296 := (crc ((l.drop 8).take 116)).isLt
  have hv10 : (l.getD 10 0).toNat < 256 := (l.getD 10 0).toNat_lt
  have hv11 : (l.getD 11 0).toNat < 256 := (l.getD 11 0).toNat_lt
  have hgood : ((readB l k).isSome = true ↔ (numB (l.take 4) ≠ 0 ∧ numB (l.take 4) = numB (l.drop 124) ∧ numB ((l.drop 4).take 4) = (crc ((l.drop 8).take 116)).toNat ∧ numB ((l.drop 8).take 2) = k ∧ (l.getD 10 0).toNat ≤ 3 ∧ (l.getD 11 0).toNat ≤ 112 ∧ (2 ≤ (l.getD 10 0).toNat ∨ (l.getD 11 0).toNat = 112) ∧ ((l.getD 10 0).toNat % 2 = 1 ∨ (l.getD 11 0).toNat ≠ 0) ∧ ∀ i, 12 + (l.getD 11 0).toNat ≤ i → i < 124 → l.getD i 0 = 0)) :=
    (read_good hl hk).trans ⟨fun h => ⟨h.1, h.2, h.3, h.4, h.5, h.6, h.7, h.8, h.9⟩, fun ⟨h1, h2, h3, h4, h5, h6, h7, h8, h9⟩ => ⟨h1, h2, h3, h4, h5, h6, h7, h8, h9⟩⟩
  have HG := hide hgood
  clear hgood hc hcs hlen v10e v11e hl hb4
  generalize (readB l k).isSome = r at *
  generalize numB (l.take 4) = g1 at *
  generalize numB (l.drop 124) = g2 at *
  generalize numB ((l.drop 4).take 4) = cc at *
  generalize crc ((l.drop 8).take 116) = ckv at *
  generalize numB ((l.drop 8).take 2) = pl at *
  generalize hv10e : (l.getD 10 0).toNat = v10 at *
  generalize hv11e : (l.getD 11 0).toNat = v11 at *
  simp only [uv] at HK
  generalize ckv.toNat = ck at *
  have hccm : (cc : Int) % 4294967296 = (cc : Int) := by omega
  have hkm : (k : Int) % 18446744073709551616 = (k : Int) := by omega
  have hfalse : ¬ (g1 ≠ 0 ∧ g1 = g2 ∧ cc = ck ∧ pl = k ∧ v10 ≤ 3 ∧ v11 ≤ 112 ∧ (2 ≤ v10 ∨ v11 = 112) ∧ (v10 % 2 = 1 ∨ v11 ≠ 0) ∧ ∀ i, 12 + v11 ≤ i → i < 124 → l.getD i 0 = 0) → r = false := fun h => by
    cases hr : r with
    | false => rfl
    | true => exact absurd (HG.out.1 hr) h
  exact absurd (fun i h1 h2 => absurd h1 (by omega)) a9

set_option maxRecDepth 100000 in
set_option maxHeartbeats 6400000 in
theorem rgood_9fbb (b o cap : Nat) (l : List UInt8) (k : Nat) (w : World) (hl : l.length = 128) (hcap : 128 ≤ cap) (hcm : cap ≤ 9223372036854775807) (hk : k < 65536) (hc : ∀ i (h : i < l.length), w.cell? ⟨b, o + i, none⟩ = some (.int .u8 (l[i].toNat : Nat))) (a1 : numB (l.take 4) ≠ 0) (a2 : numB (l.take 4) = numB (l.drop 124)) (a3 : numB ((l.drop 4).take 4) = (crc ((l.drop 8).take 116)).toNat) (a4 : numB ((l.drop 8).take 2) = k) (a5 : (l.getD 10 0).toNat ≤ 3) (a6 : (l.getD 11 0).toNat ≤ 112) (a7 : 2 ≤ (l.getD 10 0).toNat ∨ (l.getD 11 0).toNat = 112) (a8 : (l.getD 10 0).toNat % 2 = 1 ∨ (l.getD 11 0).toNat ≠ 0) (a9 : ¬ (∀ i, 12 + (l.getD 11 0).toNat ≤ i → i < 124 → l.getD i 0 = 0)) (b7 : (l.getD 10 0).toNat < 2 ∧ (l.getD 11 0).toNat = 112) (b8 : (l.getD 10 0).toNat % 2 = 0 ∧ (l.getD 11 0).toNat ≠ 0) :
    Calls Try.prog 72 #[.slice (some ⟨b, o, none⟩) 128 cap, .int .i64 k] w fun e w' => e = .returned (.bool (readB l k).isSome) ∧ ∃ n, w' = w.drewN n := by
  have hcs : ∀ off len, off + len ≤ 128 → ∀ i (h : i < ((l.drop off).take len).length), w.cell? ⟨b, o + off + i, none⟩ = some (.int .u8 ((((l.drop off).take len)[i]).toNat : Nat)) := by
    intro off len hle i h
    rw [List.length_take, List.length_drop] at h
    have := hc (off + i) (by omega)
    rw [Nat.add_assoc, this]
    simp
  have hlen : ∀ off len, off + len ≤ 128 → len = ((l.drop off).take len).length := fun off len h => by rw [List.length_take, List.length_drop]; omega
  have H1 : Hid (∀ n, Calls Try.prog 61 #[.slice (some ⟨b, o, none⟩) 4 cap] (w.drewN n) fun e w' => e = .returned (.int .u64 (numB (l.take 4) : Nat)) ∧ w' = w.drewN n) := hide fun n => rnumber_any b o 4 cap (l.take 4) (w.drewN n) (fun i h => by have := hcs 0 4 (by omega) i h; simpa using this) (hlen 0 4 (by omega)) (by omega)
  have H2 : Hid (∀ n, Calls Try.prog 61 #[.slice (some ⟨b, o + 124, none⟩) 4 (cap - 124)] (w.drewN n) fun e w' => e = .returned (.int .u64 (numB (l.drop 124) : Nat)) ∧ w' = w.drewN n) := hide fun n => by
    have := rnumber_any b (o + 124) 4 (cap - 124) ((l.drop 124).take 4) (w.drewN n) (fun i h => hcs 124 4 (by omega) i h) (hlen 124 4 (by omega)) (by omega)
    rwa [List.take_of_length_le (by rw [List.length_drop]; omega)] at this
  have H3 : Hid (∀ n, Calls Try.prog 61 #[.slice (some ⟨b, o + 4, none⟩) 4 (cap - 4)] (w.drewN n) fun e w' => e = .returned (.int .u64 (numB ((l.drop 4).take 4) : Nat)) ∧ w' = w.drewN n) := hide fun n => rnumber_any b (o + 4) 4 (cap - 4) ((l.drop 4).take 4) (w.drewN n) (fun i h => hcs 4 4 (by omega) i h) (hlen 4 4 (by omega)) (by omega)
  have H4 : Hid (∀ n, Calls Try.prog 61 #[.slice (some ⟨b, o + 8, none⟩) 2 (cap - 8)] (w.drewN n) fun e w' => e = .returned (.int .u64 (numB ((l.drop 8).take 2) : Nat)) ∧ w' = w.drewN n) := hide fun n => rnumber_any b (o + 8) 2 (cap - 8) ((l.drop 8).take 2) (w.drewN n) (fun i h => hcs 8 2 (by omega) i h) (hlen 8 2 (by omega)) (by omega)
  have HK : Hid (∀ n, Calls Try.prog 67 #[.slice (some ⟨b, o + 8, none⟩) 116 (cap - 8)] (w.drewN n) fun e w' => e = .returned (uv (crc ((l.drop 8).take 116))) ∧ w' = w.drewN n) := hide fun n => rchecksum_any b (o + 8) 116 (cap - 8) ((l.drop 8).take 116) (w.drewN n) (fun i h => hcs 8 116 (by omega) i h) (hlen 8 116 (by omega)) (by omega)
  have c10 := hc 10 (by omega)
  have c11 := hc 11 (by omega)
  have HG := hide (@read_good l k hl hk)
  have HZ := hide (show ∀ i, i < 128 → w.cell? ⟨b, o + i, none⟩ = some (.int .u8 ((l.getD i 0).toNat : Nat)) from fun i hi => by
    rw [hc i (by omega), List.getD_eq_getElem?_getD, List.getElem?_eq_getElem (by omega)]
    rfl)
  have v10e : (l[10]'(by omega)) = l.getD 10 0 := by rw [List.getD_eq_getElem?_getD, List.getElem?_eq_getElem (by omega)]; rfl
  have v11e : (l[11]'(by omega)) = l.getD 11 0 := by rw [List.getD_eq_getElem?_getD, List.getElem?_eq_getElem (by omega)]; rfl
  rw [v10e] at c10
  rw [v11e] at c11
  have hb4 : ∀ l : List UInt8, l.length = 4 → numB l < 4294967296 := fun l h => by
    obtain ⟨a, b, c, d, r, rfl, hr⟩ := cons4 (l := l) (by omega)
    obtain rfl : r = [] := List.eq_nil_of_length_eq_zero (by omega)
    rw [numB_four]
    exact n4_lt _ _ _ _
  have hccl : numB ((l.drop 4).take 4) < 4294967296 := hb4 _ (hlen 4 4 (by omega)).symm
  have hckl : (crc ((l.drop 8).take 116)).toNat < 4294967296 := (crc ((l.drop 8).take 116)).isLt
  have hv10 : (l.getD 10 0).toNat < 256 := (l.getD 10 0).toNat_lt
  have hv11 : (l.getD 11 0).toNat < 256 := (l.getD 11 0).toNat_lt
  have hgood : ((readB l k).isSome = true ↔ (numB (l.take 4) ≠ 0 ∧ numB (l.take 4) = numB (l.drop 124) ∧ numB ((l.drop 4).take 4) = (crc ((l.drop 8).take 116)).toNat ∧ numB ((l.drop 8).take 2) = k ∧ (l.getD 10 0).toNat ≤ 3 ∧ (l.getD 11 0).toNat ≤ 112 ∧ (2 ≤ (l.getD 10 0).toNat ∨ (l.getD 11 0).toNat = 112) ∧ ((l.getD 10 0).toNat % 2 = 1 ∨ (l.getD 11 0).toNat ≠ 0) ∧ ∀ i, 12 + (l.getD 11 0).toNat ≤ i → i < 124 → l.getD i 0 = 0)) :=
    (read_good hl hk).trans ⟨fun h => ⟨h.1, h.2, h.3, h.4, h.5, h.6, h.7, h.8, h.9⟩, fun ⟨h1, h2, h3, h4, h5, h6, h7, h8, h9⟩ => ⟨h1, h2, h3, h4, h5, h6, h7, h8, h9⟩⟩
  have HG := hide hgood
  clear hgood hc hcs hlen v10e v11e hl hb4
  generalize (readB l k).isSome = r at *
  generalize numB (l.take 4) = g1 at *
  generalize numB (l.drop 124) = g2 at *
  generalize numB ((l.drop 4).take 4) = cc at *
  generalize crc ((l.drop 8).take 116) = ckv at *
  generalize numB ((l.drop 8).take 2) = pl at *
  generalize hv10e : (l.getD 10 0).toNat = v10 at *
  generalize hv11e : (l.getD 11 0).toNat = v11 at *
  simp only [uv] at HK
  generalize ckv.toNat = ck at *
  have hccm : (cc : Int) % 4294967296 = (cc : Int) := by omega
  have hkm : (k : Int) % 18446744073709551616 = (k : Int) := by omega
  have hfalse : ¬ (g1 ≠ 0 ∧ g1 = g2 ∧ cc = ck ∧ pl = k ∧ v10 ≤ 3 ∧ v11 ≤ 112 ∧ (2 ≤ v10 ∨ v11 = 112) ∧ (v10 % 2 = 1 ∨ v11 ≠ 0) ∧ ∀ i, 12 + v11 ≤ i → i < 124 → l.getD i 0 = 0) → r = false := fun h => by
    cases hr : r with
    | false => rfl
    | true => exact absurd (HG.out.1 hr) h
  exact absurd (fun i h1 h2 => absurd h1 (by omega)) a9

end Go.Proofs.Ytgigccgklahddaa

/- good of the reference. -/
namespace Go.Proofs.Ytgigccgklahddaa
open Go.RowKit
set_option linter.unusedVariables false

set_option maxRecDepth 100000 in
set_option maxHeartbeats 6400000 in
theorem rgood_any (b o cap : Nat) (l : List UInt8) (k : Nat) (w : World) (hl : l.length = 128) (hcap : 128 ≤ cap) (hcm : cap ≤ 9223372036854775807) (hk : k < 65536) (hc : ∀ i (h : i < l.length), w.cell? ⟨b, o + i, none⟩ = some (.int .u8 (l[i].toNat : Nat))) :
    Calls Try.prog 72 #[.slice (some ⟨b, o, none⟩) 128 cap, .int .i64 k] w fun e w' => e = .returned (.bool (readB l k).isSome) ∧ ∃ n, w' = w.drewN n := by
  by_cases a1 : numB (l.take 4) ≠ 0
  rotate_left
  · exact rgood_1 b o cap l k w hl hcap hcm hk hc a1
  by_cases a2 : numB (l.take 4) = numB (l.drop 124)
  rotate_left
  · exact rgood_2 b o cap l k w hl hcap hcm hk hc a1 a2
  by_cases a3 : numB ((l.drop 4).take 4) = (crc ((l.drop 8).take 116)).toNat
  rotate_left
  · exact rgood_3 b o cap l k w hl hcap hcm hk hc a1 a2 a3
  by_cases a4 : numB ((l.drop 8).take 2) = k
  rotate_left
  · exact rgood_4 b o cap l k w hl hcap hcm hk hc a1 a2 a3 a4
  by_cases a5 : (l.getD 10 0).toNat ≤ 3
  rotate_left
  · exact rgood_5 b o cap l k w hl hcap hcm hk hc a1 a2 a3 a4 a5
  by_cases a6 : (l.getD 11 0).toNat ≤ 112
  rotate_left
  · exact rgood_6 b o cap l k w hl hcap hcm hk hc a1 a2 a3 a4 a5 a6
  by_cases a7 : 2 ≤ (l.getD 10 0).toNat ∨ (l.getD 11 0).toNat = 112
  rotate_left
  · exact rgood_7 b o cap l k w hl hcap hcm hk hc a1 a2 a3 a4 a5 a6 a7
  by_cases a8 : (l.getD 10 0).toNat % 2 = 1 ∨ (l.getD 11 0).toNat ≠ 0
  rotate_left
  · rcases (show 2 ≤ (l.getD 10 0).toNat ∨ ((l.getD 10 0).toNat < 2 ∧ (l.getD 11 0).toNat = 112) by omega) with b7 | b7
    · exact rgood_8a b o cap l k w hl hcap hcm hk hc a1 a2 a3 a4 a5 a6 a7 a8 b7
    · exact rgood_8b b o cap l k w hl hcap hcm hk hc a1 a2 a3 a4 a5 a6 a7 a8 b7
  by_cases a9 : ∀ i, 12 + (l.getD 11 0).toNat ≤ i → i < 124 → l.getD i 0 = 0
  · rcases (show 2 ≤ (l.getD 10 0).toNat ∨ ((l.getD 10 0).toNat < 2 ∧ (l.getD 11 0).toNat = 112) by omega) with b7 | b7
    · rcases (show (l.getD 10 0).toNat % 2 = 1 ∨ ((l.getD 10 0).toNat % 2 = 0 ∧ (l.getD 11 0).toNat ≠ 0) by omega) with b8 | b8
      · exact rgood_9taa b o cap l k w hl hcap hcm hk hc a1 a2 a3 a4 a5 a6 a7 a8 a9 b7 b8
      · exact rgood_9tab b o cap l k w hl hcap hcm hk hc a1 a2 a3 a4 a5 a6 a7 a8 a9 b7 b8
    · rcases (show (l.getD 10 0).toNat % 2 = 1 ∨ ((l.getD 10 0).toNat % 2 = 0 ∧ (l.getD 11 0).toNat ≠ 0) by omega) with b8 | b8
      · exact rgood_9tba b o cap l k w hl hcap hcm hk hc a1 a2 a3 a4 a5 a6 a7 a8 a9 b7 b8
      · exact rgood_9tbb b o cap l k w hl hcap hcm hk hc a1 a2 a3 a4 a5 a6 a7 a8 a9 b7 b8
  · rcases (show 2 ≤ (l.getD 10 0).toNat ∨ ((l.getD 10 0).toNat < 2 ∧ (l.getD 11 0).toNat = 112) by omega) with b7 | b7
    · rcases (show (l.getD 10 0).toNat % 2 = 1 ∨ ((l.getD 10 0).toNat % 2 = 0 ∧ (l.getD 11 0).toNat ≠ 0) by omega) with b8 | b8
      · exact rgood_9faa b o cap l k w hl hcap hcm hk hc a1 a2 a3 a4 a5 a6 a7 a8 a9 b7 b8
      · exact rgood_9fab b o cap l k w hl hcap hcm hk hc a1 a2 a3 a4 a5 a6 a7 a8 a9 b7 b8
    · rcases (show (l.getD 10 0).toNat % 2 = 1 ∨ ((l.getD 10 0).toNat % 2 = 0 ∧ (l.getD 11 0).toNat ≠ 0) by omega) with b8 | b8
      · exact rgood_9fba b o cap l k w hl hcap hcm hk hc a1 a2 a3 a4 a5 a6 a7 a8 a9 b7 b8
      · exact rgood_9fbb b o cap l k w hl hcap hcm hk hc a1 a2 a3 a4 a5 a6 a7 a8 a9 b7 b8
end Go.Proofs.Ytgigccgklahddaa
