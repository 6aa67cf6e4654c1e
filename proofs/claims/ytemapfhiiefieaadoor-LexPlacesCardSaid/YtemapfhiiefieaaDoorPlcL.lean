/- LexPlaces: its walk. -/
import Derived.Test.YtemapfhiiefieaaDoorSpl
import Derived.Test.YtemapfhiiefieaaDoorRlex
namespace Go.Proofs.YtemapfhiiefieaaDoor
open Go.RowKit

/-- What is left of a gap. -/
def Sca (l : List UInt8) (T q : Nat) (b b0 : Bool) : Prop := scan ((l.take T).drop q) b = some b0
theorem Sca.done {l : List UInt8} {T : Nat} {b b0 : Bool} (h : Sca l T T b b0) : b = b0 := by
  unfold Sca at h
  rw [List.drop_eq_nil_of_le (by rw [List.length_take]; omega), scan] at h
  exact Option.some.inj h
theorem Sca.step {l : List UInt8} {T q : Nat} {b b0 : Bool} (h : Sca l T q b b0) (hq : q < T) (hT : T ≤ l.length) :
    (l[q].toNat = 10 ∧ Sca l T (q + 1) false b0) ∨ (l[q].toNat ≠ 10 ∧ b = true ∧ Sca l T (q + 1) true b0) ∨
      (l[q].toNat ≠ 10 ∧ b = false ∧ l[q].toNat = 47 ∧ (∃ h : q + 1 < T, l[q + 1].toNat = 47) ∧ Sca l T (q + 1) true b0) ∨
      (l[q].toNat ≠ 10 ∧ b = false ∧ l[q].toNat ≠ 47 ∧ isWh l[q] = true ∧ Sca l T (q + 1) false b0) := by
  have hlen : (l.take T).length = T := by rw [List.length_take]; omega
  have := scan_step (g := l.take T) (m := q) (by omega) h
  simp only [List.getElem_take, hlen] at this
  exact this

/-- What is left of the tokens. -/
def PA (l : List UInt8) (ts : List Tk) (k m : Nat) : Prop := m ≤ l.length ∧ lexR (l.drop m) m = .ok (ts.drop k)
theorem PA.last {l : List UInt8} {ts : List Tk} {m : Nat} (h : PA l ts ts.length m) : ∃ b0, Sca l l.length m false b0 := by
  obtain ⟨hm, h⟩ := h
  have := places_of _ _ _ false (by simp) h
  rw [List.drop_length] at this
  obtain ⟨b, hb⟩ := this
  exact ⟨b, by unfold Sca; rw [List.take_length]; exact hb⟩
theorem PA.next {l : List UInt8} {ts : List Tk} {k m : Nat} (h : PA l ts k m) (hk : k < ts.length) :
    m ≤ ts[k].pos ∧ ts[k].pos + ts[k].txt.length ≤ l.length ∧ Sca l ts[k].pos m false false ∧ 0 < ts[k].txt.length ∧ (l.drop ts[k].pos).take ts[k].txt.length = ts[k].txt ∧ PA l ts (k + 1) (ts[k].pos + ts[k].txt.length) := by
  obtain ⟨hm, h⟩ := h
  have := places_of _ _ _ false (by simp) h
  rw [List.drop_eq_getElem_cons hk] at this
  obtain ⟨g, r', h1, h2, h3, h4, h5⟩ := this
  generalize ts[k] = t at *
  have hl : l = l.take m ++ (g ++ (t.txt ++ r')) := by rw [← h1, List.take_append_drop]
  have hlm : (l.take m).length = m := by rw [List.length_take]; omega
  have hll : l.length = m + g.length + t.txt.length + r'.length := by
    have := congrArg List.length hl
    rw [List.length_append, hlm] at this
    simp only [List.length_append] at this
    omega
  have hd : l.drop t.pos = t.txt ++ r' := by
    rw [h3, ← List.drop_drop, h1, List.drop_left]
  refine ⟨by omega, by omega, ?_, List.length_pos_iff.2 h4, ?_, by omega, ?_⟩
  · unfold Sca
    rw [h3, List.drop_take, h1, show m + g.length - m = g.length by omega, List.take_left]
    exact h2
  · rw [hd, List.take_left]
  · rw [← List.drop_drop, hd, List.drop_left, h3]
    exact h5
theorem PA.start {l : List UInt8} {ts : List Tk} (h : lexS l = .ok ts) : PA l ts 0 0 := ⟨Nat.zero_le _, by rw [List.drop_zero, List.drop_zero, ← lexS_R]; exact h⟩

set_option maxRecDepth 10000 in
set_option maxHeartbeats 1600000 in
theorem places_walk (l : List UInt8) (w : World) (hT : Tab w) (hP : Pow w) (hl : l.length ≤ 140737488351232) :
    Calls Tryd.prog 6 #[.string (str l)] w fun e w' => e = .returned (.bool true) ∧ Below w.heap.size w w' := by
  have H0 := hide (Ks.new hT hP)
  have hs := str_size l
  clear hT hP
  by_cases h6 : 3000 < l.length
  · have h6d : decide ((3000 : Int) < (l.length : Int)) = true := by simp; omega
    go_enter Tryd.func6, Tryd.ntmps6
    go_wp2_with fail
    with_reducible refine (sane_any w H0.out.tab H0.out.pow).mono ?_
    rintro e w1 ⟨rfl, hb⟩
    have HB := hide hb
    clear hb
    go_wp2_with fail
    go_ret
    exact ⟨rfl, HB.out⟩
  · have h6d : decide ((3000 : Int) < (l.length : Int)) = false := by simp; omega
    go_enter Tryd.func6, Tryd.ntmps6
    go_wp2_with fail
    with_reducible refine (sane_any w H0.out.tab H0.out.pow).mono ?_
    rintro e w1 ⟨rfl, hb⟩
    have H1 := hide (H0.out.later hb)
    clear hb H0
    go_wp2_with fail
    refine (lex_ans l w1 H1.out.tab (by omega)).mono ?_
    rintro e w2 ⟨ha, hb⟩
    have H2 := hide (H1.out.later hb)
    clear hb H1
    cases hx : lexS l with
    | error p =>
      rw [hx] at ha
      obtain rfl := ha
      go_wp2_with fail
      go_ret
      exact ⟨rfl, H2.out.1.1⟩
    | ok ts =>
      rw [hx] at ha
      obtain ⟨A, c, rfl, ht2, _⟩ := ha
      have H3 := hide (H2.out.more ht2)
      have HPA := hide (PA.start hx)
      have hlr := lexR_ok l 0 ts (by rw [← lexS_R]; exact hx)
      have HOK := hide hlr.1
      have hln := hlr.2.1
      clear ht2 H2 hx hlr
      go_wp2_with fail
      go_loopw [6, 7] (fun i k wr => ∃ (m j : Nat), i = .int .i64 m ∧ k = .int .i64 j ∧ j ≤ ts.length ∧ m ≤ l.length ∧ Hid (PA l ts j m) ∧ Hid (Below w2.heap.size w2 wr)) (fun _ k _ => ts.length + 1 - (intOf k).toNat)
      case atStart => exact ⟨0, 0, rfl, rfl, Nat.zero_le _, Nat.zero_le _, HPA, hide (Below.refl _ _)⟩
      case round =>
        clear HPA
        obtain ⟨m, j, rfl, rfl, hj, hm, HPA, HB⟩ := hrel
        have HR := hide (H3.out.later HB.out)
        by_cases hlt : j < ts.length
        · obtain ⟨n1, n2, n3, n4, n5, n6⟩ := HPA.out.next hlt
          obtain ⟨b, o, rfl, hblt, c0, c1, c2, c3⟩ := (HR.out.at (A := A) (l := toks ts) (by simp)) j (by simpa using hlt)
          simp only [toks, List.getElem_map] at c0 c1 c2 c3
          have HV := hide (HOK.out ts[j] (List.getElem_mem hlt))
          have HTX := hide (show textT ts[j].tok = str ts[j].txt from (str_data _).symm)
          generalize ts[j] = t at *
          obtain ⟨tt, htt⟩ : ∃ tt, t.txt = tt := ⟨_, rfl⟩
          rw [htt] at n2 n4 n5 n6 HTX
          obtain ⟨kd, tx, n, T⟩ := t
          simp only at c0 c1 c2 c3 n1 n2 n3 n4 n5 n6
          have HSC := hide n3
          have HNX := hide n6
          have HSL := hide (show (str l).extract T (T + tt.length) = str tt by
            apply ByteArray.ext
            simp [ByteArray.data_extract]
            exact n5)
          have hst := str_size tt
          have hst0 : ((tt.length : Int) == 0) = false := by simp only [beq_eq_false_iff_ne, ne_eq]; omega
          have hst1 : decide ((l.length : Int) < (T : Int) + (tt.length : Int)) = false := by simp; omega
          clear n3 n5 n6 htt HPA
          have d1 : decide (T < m) = false := by simp; omega
          have d2 : decide (l.length < T) = false := by simp; omega
          go_wp2_with fail
          go_loop [6, 9] (fun i cm => ∃ (q : Nat) (bb : Bool), i = .int .i64 q ∧ cm = .bool bb ∧ m ≤ q ∧ q ≤ T ∧ Hid (Sca l T q bb false)) (fun i _ => T - (intOf i).toNat)
          case atStart => exact ⟨m, false, rfl, rfl, Nat.le_refl _, by omega, HSC⟩
          case round =>
            clear HSC
            obtain ⟨q, bb, rfl, rfl, hmq, hqT, HQ⟩ := hrel
            by_cases hqt : q < T
            · have hql : q < l.length := by omega
              have hg : (str l)[q]'(by rw [hs]; omega) = l[q] := rfl
              have hc256 := l[q].toNat_lt
              have HST := HQ.out.step hqt (by omega)
              have HW := hide (rspace_any l[q] wr)
              rcases HST with ⟨s1, s2⟩ | ⟨s1, rfl, s2⟩ | ⟨s1, rfl, s3, ⟨h2, s4⟩, s2⟩ | ⟨s1, rfl, s3, s4, s2⟩
              · have HS := hide s2
                have e1 : ((l[q].toNat : Int) != 10) = false := by simp; omega
                have hw : isWh l[q] = true := by rw [isWh_range]; simp [s1]
                rw [hw] at HW
                clear s1 s2 hw HQ
                generalize l[q] = c at *
                go_wp2_with fail
                refine HW.out.mono ?_
                rintro e _ ⟨rfl, rfl⟩
                go_wp2_with fail
                exact ⟨⟨q + 1, false, by go_num, rfl, by omega, by omega, HS⟩, by simp [intOf]; omega⟩
              · have HS := hide s2
                have e1 : ((l[q].toNat : Int) != 10) = true := by simp; omega
                clear s1 s2 HQ HW
                generalize l[q] = c at *
                go_wp2_with fail
                exact ⟨⟨q + 1, true, by go_num, rfl, by omega, by omega, HS⟩, by simp [intOf]; omega⟩
              · have HS := hide s2
                have e1 : ((l[q].toNat : Int) != 10) = true := by simp; omega
                have e2 : ((l[q].toNat : Int) == 47) = true := by simp; omega
                have hg2 : (str l)[q + 1]'(by rw [hs]; omega) = l[q + 1] := rfl
                have d256 := l[q + 1].toNat_lt
                have e3 : ((l[q + 1].toNat : Int) == 47) = true := by simp; omega
                have e4 : decide ((q : Int) + 1 < (T : Nat)) = true := by simp; omega
                clear s1 s2 s3 s4 HQ HW
                generalize l[q] = c at *
                generalize l[q + 1] = d at *
                go_wp2_with fail
                exact ⟨⟨q + 1, true, by go_num, rfl, by omega, by omega, HS⟩, by simp [intOf]; omega⟩
              · have HS := hide s2
                have e1 : ((l[q].toNat : Int) != 10) = true := by simp; omega
                have e2 : ((l[q].toNat : Int) == 47) = false := by simp; omega
                rw [s4] at HW
                clear s1 s2 s3 s4 HQ
                generalize l[q] = c at *
                go_wp2_with fail
                refine HW.out.mono ?_
                rintro e _ ⟨rfl, rfl⟩
                go_wp2_with fail
                exact ⟨⟨q + 1, false, by go_num, rfl, by omega, by omega, HS⟩, by simp [intOf]; omega⟩
            · obtain rfl : q = T := by omega
              obtain rfl := HQ.out.done
              clear HQ
              go_wp2_with fail
              refine (spelled_any ⟨kd, tx, n, q⟩ wr HV.out).mono ?_
              rintro e w4 ⟨rfl, hb⟩
              have HB4 := hide (below_one HB.out hb)
              have hsl := HSL.out
              rw [HTX.out]
              clear hb HB HR
              go_wp2_with fail
              exact ⟨⟨q + tt.length, j + 1, by go_num, by go_num, by omega, by omega, HNX, HB4⟩, by simp [intOf]; omega⟩
        · obtain rfl : j = ts.length := by omega
          obtain ⟨b0, hb0⟩ := HPA.out.last
          have HSC := hide hb0
          clear hb0 HPA
          have d1 : decide (l.length < m) = false := by simp; omega
          go_wp2_with fail
          go_loop [6, 9] (fun i cm => ∃ (q : Nat) (bb : Bool), i = .int .i64 q ∧ cm = .bool bb ∧ m ≤ q ∧ q ≤ l.length ∧ Hid (Sca l l.length q bb b0)) (fun i _ => l.length - (intOf i).toNat)
          case atStart => exact ⟨m, false, rfl, rfl, Nat.le_refl _, by omega, HSC⟩
          case round =>
            clear HSC
            obtain ⟨q, bb, rfl, rfl, hmq, hqT, HQ⟩ := hrel
            by_cases hqt : q < l.length
            · have hql : q < l.length := by omega
              have hg : (str l)[q]'(by rw [hs]; omega) = l[q] := rfl
              have hc256 := l[q].toNat_lt
              have HST := HQ.out.step hqt (by omega)
              have HW := hide (rspace_any l[q] wr)
              rcases HST with ⟨s1, s2⟩ | ⟨s1, rfl, s2⟩ | ⟨s1, rfl, s3, ⟨h2, s4⟩, s2⟩ | ⟨s1, rfl, s3, s4, s2⟩
              · have HS := hide s2
                have e1 : ((l[q].toNat : Int) != 10) = false := by simp; omega
                have hw : isWh l[q] = true := by rw [isWh_range]; simp [s1]
                rw [hw] at HW
                clear s1 s2 hw HQ
                generalize l[q] = c at *
                go_wp2_with fail
                refine HW.out.mono ?_
                rintro e _ ⟨rfl, rfl⟩
                go_wp2_with fail
                exact ⟨⟨q + 1, false, by go_num, rfl, by omega, by omega, HS⟩, by simp [intOf]; omega⟩
              · have HS := hide s2
                have e1 : ((l[q].toNat : Int) != 10) = true := by simp; omega
                clear s1 s2 HQ HW
                generalize l[q] = c at *
                go_wp2_with fail
                exact ⟨⟨q + 1, true, by go_num, rfl, by omega, by omega, HS⟩, by simp [intOf]; omega⟩
              · have HS := hide s2
                have e1 : ((l[q].toNat : Int) != 10) = true := by simp; omega
                have e2 : ((l[q].toNat : Int) == 47) = true := by simp; omega
                have hg2 : (str l)[q + 1]'(by rw [hs]; omega) = l[q + 1] := rfl
                have d256 := l[q + 1].toNat_lt
                have e3 : ((l[q + 1].toNat : Int) == 47) = true := by simp; omega
                have e4 : decide ((q : Int) + 1 < (l.length : Nat)) = true := by simp; omega
                clear s1 s2 s3 s4 HQ HW
                generalize l[q] = c at *
                generalize l[q + 1] = d at *
                go_wp2_with fail
                exact ⟨⟨q + 1, true, by go_num, rfl, by omega, by omega, HS⟩, by simp [intOf]; omega⟩
              · have HS := hide s2
                have e1 : ((l[q].toNat : Int) != 10) = true := by simp; omega
                have e2 : ((l[q].toNat : Int) == 47) = false := by simp; omega
                rw [s4] at HW
                clear s1 s2 s3 s4 HQ
                generalize l[q] = c at *
                go_wp2_with fail
                refine HW.out.mono ?_
                rintro e _ ⟨rfl, rfl⟩
                go_wp2_with fail
                exact ⟨⟨q + 1, false, by go_num, rfl, by omega, by omega, HS⟩, by simp [intOf]; omega⟩
            · obtain rfl : q = l.length := by omega
              clear HQ
              go_wp2_with fail
              go_ret
              exact ⟨rfl, HR.out.1.1⟩
theorem places_any (s : ByteArray) (w : World) (h : Tab w ∧ Pow w) (hs : s.size ≤ 140737488351232) :
    Calls Tryd.prog 6 #[.string s] w fun e w' => e = .returned (.bool true) ∧ Below w.heap.size w w' := by
  have := places_walk s.data.toList w h.1 h.2 (by simpa using hs)
  rwa [str_data] at this
end Go.Proofs.YtemapfhiiefieaaDoor
