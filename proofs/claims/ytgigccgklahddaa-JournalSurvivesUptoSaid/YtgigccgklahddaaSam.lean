
/- Same, of equal disks. -/
import Derived.Test.YtgigccgklahddaaStp
import Derived.Laws.IdiomStrings
import Derived.Shelf.Bytes.SlSmallAll
namespace Go.Proofs.Ytgigccgklahddaa
open Go.RowKit
variable {n0 : Nat}

abbrev str (l : List UInt8) : ByteArray := ⟨l.toArray⟩
theorem Sec.In.conv {s : Sec} {W : World} (h : s.In n0 W) : (convert 35 9 s.v).run Try.prog W = .ok (.string (str s.l)) W := by
  obtain ⟨A, l, cap⟩ := s
  cases l with
  | nil => exact run_convert_bytes_zero W 35 5 Try.underlying35 Try.underlying5 A cap 9 Try.underlying9
  | cons c l =>
    obtain ⟨b, o, e, hlt, hc⟩ := h.cels.at (k := 0) (by simp [bs])
    simp only at e
    subst e
    refine run_convert_bytes_back (P := Try.prog) W 35 9 5 ⟨b, o, none⟩ cap (c :: l) Try.underlying35 Try.underlying5 Try.underlying9 fun j hj => ?_
    rw [Addr.add_mid]
    have := hc j (by rw [bs_len]; exact hj)
    rw [bs_get] at this
    exact this

set_option maxRecDepth 10000 in
set_option maxHeartbeats 3200000 in
theorem same_any (a b : Dsk) (w : World) (ha : a.In n0 w) (hb : b.In n0 w) (h : a.d = b.d) :
    Calls Try.prog 23 #[a.v, b.v] w fun e w' => e = .returned (.bool true) ∧ Below w.heap.size w w' := by
  obtain ⟨sa, ss, sc, pa, ps, pc, left, stp⟩ := a
  obtain ⟨sa', ss', sc', pa', ps', pc', left', stp'⟩ := b
  simp only [Dsk.d, Dk.mk.injEq] at h
  obtain ⟨h1, h2, rfl, rfl⟩ := h
  have HA := hide ha
  have HB := hide hb
  have hle1 : ss.length ≤ sc := ha.sec.le
  have hcap1 : sc ≤ 9223372036854775807 := ha.sec.top
  have hle2 : ps.length ≤ pc := ha.pen.le
  have hcap2 : pc ≤ 9223372036854775807 := ha.pen.top
  have l1 : ss'.length = ss.length := by have := congrArg List.length h1; rw [secD_len, secD_len] at this; exact this.symm
  have l2 : ps'.length = ps.length := by have := congrArg List.length h2; rw [wrD_len, wrD_len] at this; exact this.symm
  have HE1 := hide (show ∀ k (h : k < ss.length) (h' : k < ss'.length), (ss[k]).l = (ss'[k]).l from fun k h h' => by
    have e : (secD ss)[k]? = (secD ss')[k]? := by rw [h1]
    rw [List.getElem?_eq_getElem (by rw [secD_len]; exact h), List.getElem?_eq_getElem (by rw [secD_len]; exact h'), secD_get, secD_get] at e
    exact Option.some.inj e)
  have HE2 := hide (show ∀ k (h : k < ps.length) (h' : k < ps'.length), (ps[k]).d = (ps'[k]).d from fun k h h' => by
    have e : (wrD ps)[k]? = (wrD ps')[k]? := by rw [h2]
    rw [List.getElem?_eq_getElem (by rw [wrD_len]; exact h), List.getElem?_eq_getElem (by rw [wrD_len]; exact h'), wrD_get, wrD_get] at e
    exact Option.some.inj e)
  have L1 := hide l1
  have L2 := hide l2
  have HK : Hid (Below w.heap.size w ((w.alloc (.cells #[.slice sa ss.length sc, .slice pa ps.length pc, .int .i64 left, .bool stp] 25)).alloc (.cells #[.slice sa' ss'.length sc', .slice pa' ps'.length pc', .int .i64 left, .bool stp] 25))) := hide ((below_new _ _).alloc (by simp) _)
  have b1 := (Blk.new w 25 [.slice sa ss.length sc, .slice pa ps.length pc, .int .i64 left, .bool stp]).alloc (.cells #[.slice sa' ss'.length sc', .slice pa' ps'.length pc', .int .i64 left, .bool stp] 25)
  have b2 := Blk.new (w.alloc (.cells #[.slice sa ss.length sc, .slice pa ps.length pc, .int .i64 left, .bool stp] 25)) 25 [.slice sa' ss'.length sc', .slice pa' ps'.length pc', .int .i64 left, .bool stp]
  rw [World.size_alloc] at b2
  have HBX := hide (And.intro b1 b2)
  have n1 : ((ss.length : Int) != ss'.length) = false := by simp [l1]
  have n2 : ((ps.length : Int) != ps'.length) = false := by simp [l2]
  clear ha hb h1 h2 l1 l2 b1 b2
  go_enter Try.func23, Try.ntmps23
  go_wp2_with fail
  have HLT := hide (show ∀ wr, Below (w.heap.size + 2) ((w.alloc (.cells #[.slice sa ss.length sc, .slice pa ps.length pc, .int .i64 left, .bool stp] 25)).alloc (.cells #[.slice sa' ss'.length sc', .slice pa' ps'.length pc', .int .i64 left, .bool stp] 25)) wr → Below w.heap.size w wr from fun wr h => HK.out.trans (h.mono (by omega)))
  generalize ((w.alloc (.cells #[.slice sa ss.length sc, .slice pa ps.length pc, .int .i64 left, .bool stp] 25)).alloc (.cells #[.slice sa' ss'.length sc', .slice pa' ps'.length pc', .int .i64 left, .bool stp] 25)) = W2 at *
  go_loopw [5] (fun i wr => ∃ k : Nat, k ≤ ss.length ∧ i = .int .i64 k ∧ Hid (Below (w.heap.size + 2) W2 wr)) (fun i _ => ss.length - (intOf i).toNat)
  case atStart => exact ⟨0, Nat.zero_le _, rfl, hide (Below.refl _ _)⟩
  case round =>
    obtain ⟨k, hk, rfl, hb⟩ := hrel
    have e0 := (hb.out.cell (p := ⟨w.heap.size, 0, none⟩) (by simp)).trans (HBX.out.1.cell 0)
    have e1 := (hb.out.cell (p := ⟨w.heap.size + 1, 0, none⟩) (by simp)).trans (HBX.out.2.cell 0)
    have g0 := (hb.out.cell (p := ⟨w.heap.size, 1, none⟩) (by simp)).trans (HBX.out.1.cell 1)
    have g1 := (hb.out.cell (p := ⟨w.heap.size + 1, 1, none⟩) (by simp)).trans (HBX.out.2.cell 1)
    simp only [List.getElem?_cons_zero, List.getElem?_cons_succ] at e0 e1 g0 g1
    by_cases hlt : k < ss.length
    · have hlt' : k < ss'.length := by have := L1.out; omega
      have hi1 : (k : Int) < ss'.length := by omega
      obtain ⟨b, o, hsa, _, c0⟩ := (HA.out.sec.below (HLT.out _ hb.out)).at hlt
      obtain ⟨b', o', hsa', _, c1⟩ := (HB.out.sec.below (HLT.out _ hb.out)).at hlt'
      simp only at hsa hsa'
      rw [hsa] at e0
      rw [hsa'] at e1
      have hv0 := fun n => (((HA.out.sec.each _ (List.getElem_mem hlt)).below (HLT.out _ hb.out)).below (below_dn _ wr n)).conv
      have hv1 := fun n => (((HB.out.sec.each _ (List.getElem_mem hlt')).below (HLT.out _ hb.out)).below (below_dn _ wr n)).conv
      have he := HE1.out k hlt hlt'
      rw [← he] at hv1
      have HD := hide (fun n => hb.out.trans (below_dn _ wr n))
      generalize str (ss[k]).l = t at hv0 hv1
      clear he hsa hsa'
      generalize ss[k] = s at *
      generalize ss'[k] = s' at *
      go_wp2_with fail
      go_quiet (fail)
      go_wp2_with fail
      go_roundw
      case rel => exact ⟨k + 1, by omega, by go_num, hide (HD.out _)⟩
      case measure => simp [intOf]; omega
    · obtain rfl : k = ss.length := by omega
      clear hlt
      go_wp2_with fail
      go_loopw [6] (fun i wr => ∃ k : Nat, k ≤ ps.length ∧ i = .int .i64 k ∧ Hid (Below (w.heap.size + 2) W2 wr)) (fun i _ => ps.length - (intOf i).toNat)
      case atStart => exact ⟨0, Nat.zero_le _, rfl, hb⟩
      case round =>
        clear e0 e1 g0 g1 hb hk
        obtain ⟨k, hk, rfl, hb⟩ := hrel
        have g0 := (hb.out.cell (p := ⟨w.heap.size, 1, none⟩) (by simp)).trans (HBX.out.1.cell 1)
        have g1 := (hb.out.cell (p := ⟨w.heap.size + 1, 1, none⟩) (by simp)).trans (HBX.out.2.cell 1)
        simp only [List.getElem?_cons_zero, List.getElem?_cons_succ] at g0 g1
        by_cases hlt : k < ps.length
        · have hlt' : k < ps'.length := by have := L2.out; omega
          have hi1 : (k : Int) < ps'.length := by omega
          obtain ⟨b, o, hpa, _, c0, d0⟩ := (HA.out.pen.below (HLT.out _ hb.out)).at hlt
          obtain ⟨b', o', hpa', _, c1, d1⟩ := (HB.out.pen.below (HLT.out _ hb.out)).at hlt'
          simp only at hpa hpa'
          rw [hpa] at g0
          rw [hpa'] at g1
          have hv0 := fun n => (((HA.out.pen.each _ (List.getElem_mem hlt)).1.below (HLT.out _ hb.out)).below (below_dn _ wr n)).conv
          have hv1 := fun n => (((HB.out.pen.each _ (List.getElem_mem hlt')).1.below (HLT.out _ hb.out)).below (below_dn _ wr n)).conv
          have he := HE2.out k hlt hlt'
          simp only [Wr.d, Prod.mk.injEq] at he
          obtain ⟨he1, he2⟩ := he
          rw [← he2] at hv1
          have hpp : ((ps[k]).pos != (ps'[k]).pos) = false := by simp [he1]
          have HD := hide (fun n => hb.out.trans (below_dn _ wr n))
          generalize str (ps[k]).s.l = t at hv0 hv1
          clear he1 he2 hpa hpa'
          generalize ps[k] = s at *
          generalize ps'[k] = s' at *
          go_wp2_with fail
          go_quiet (fail)
          go_wp2_with fail
          go_roundw
          case rel => exact ⟨k + 1, by omega, by go_num, hide (HD.out _)⟩
          case measure => simp [intOf]; omega
        · obtain rfl : k = ps.length := by omega
          clear hlt
          go_wp2_with fail
          go_ret
          exact ⟨rfl, HLT.out _ hb.out⟩
end Go.Proofs.Ytgigccgklahddaa
