/- recordAt. -/
import Derived.Test.YtgigccgklahddaaJrd
import Derived.Test.YtgigccgklahddaaApp
import Derived.WalkMore
namespace Go.Proofs.Ytgigccgklahddaa
open Go.RowKit
variable {n0 : Nat}

set_option maxRecDepth 100000 in
set_option maxHeartbeats 1600000 in
/-- Clone of bytes. -/
theorem cloneB_any (b o : Nat) (l : List UInt8) (cap : Nat) (w : World) (hi : (Sec.mk (some ⟨b, o, none⟩) l cap).In n0 w) (hl : l.length ≤ 140737488355328) :
    Calls Try.prog 38 #[.slice (some ⟨b, o, none⟩) l.length cap] w fun e w' => ∃ A c, e = .returned (.slice A l.length c) ∧ w'.ownsRow w.heap.size 5 1 (.slice A l.length c) l.length (bs l) ∧ Below w.heap.size w w' := by
  obtain ⟨i5, HI5⟩ := hinfo5
  have HI5 := hide HI5
  have HO := hide (own_empty w w.heap.size 5 1 (Nat.le_refl _))
  have HN := hide ((hi.cels.below (below_new w (.cells #[] 5))).opt)
  have HL := hide (show (bs l).length = l.length * 1 by rw [bs_len, Nat.mul_one])
  have hz : w.heap.size ≤ (w.alloc (.cells #[] 5)).heap.size := by simp
  have hnl := fun w' => @Lib.run_eql_slice_nil Try.prog w' 35 5 (some ⟨b, o, none⟩) l.length cap 0 0 Try.underlying35
  clear hi
  go_enter Try.func38, Try.ntmps38
  go_wp2_with (at_builtin; refine wpList_app rfl (.tmp 5) (.tmp 6) 35 rfl w.heap.size 5 i5 _ 1 1 Try.underlying35 HI5.out rfl (by omega) _ 0 [] rfl HO.out (some ⟨b, o, none⟩) l.length cap (bs l) rfl (fun h => by cases h) HL.out HN.out (bs_one _) (by unfold maxLen; omega) (by omega) hz ?_; intro A2 cap2 w2 hown hg; rw [Nat.zero_add, List.nil_append] at hown; have HO2 := hide hown; have HK2 := hide (below_app (B := w.heap.size) (below_new w (.cells #[] 5)) HO.out hg (Nat.le_refl _) hz); clear hown hg)
  go_ret
  exact ⟨_, _, rfl, HO2.out, HK2.out⟩

/-- The record that is continued. -/
def contB (ss : List (List UInt8)) (g : Nat) : Nat → Nat → List UInt8 → Option (List UInt8)
  | 0, _, _ => none
  | f + 1, k, acc =>
    match readB (ss.getD k []) k with
    | none => none
    | some q => if q.begins = true ∨ q.gen ≠ g then none else if q.ends = true then some (acc ++ q.data) else contB ss g f (k + 1) (acc ++ q.data)
/-- The record that begins at a sector, and its generation. -/
def recB (ss : List (List UInt8)) (k : Nat) : Option (List UInt8 × Nat) :=
  match readB (ss.getD k []) k with
  | none => none
  | some p => if p.begins = false then none else if p.ends = true then some (p.data, p.gen) else (contB ss p.gen (ss.length - (k + 1)) (k + 1) p.data).map fun b => (b, p.gen)
/-- Bytes in a block of their own, or none. -/
def Sec.Fresh (c : Sec) (W : World) : Prop := (c.A = none ∧ c.l = [] ∧ c.cap = 0) ∨ ∃ B cs, c.A = some ⟨B, 0, none⟩ ∧ Blk W B 5 (bs c.l ++ cs) ∧ c.l.length ≤ c.cap ∧ c.cap ≤ 9223372036854775807
theorem Sec.Fresh.below {c : Sec} {W W' : World} (h : c.Fresh W) (hb : Below W.heap.size W W') : c.Fresh W' := by
  rcases h with h | ⟨B, cs, h1, h2, h3⟩
  · exact .inl h
  · exact .inr ⟨B, cs, h1, h2.below hb h2.lt, h3⟩
theorem Sec.Fresh.only {c : Sec} {W W' : World} {g T : Nat} {ds : List Value} (h : c.Fresh W) (hg : W.grownBy W' (some g)) (hG : Blk W g T ds) (hT : T ≠ 5) : c.Fresh W' := by
  rcases h with h | ⟨B, cs, h1, h2, h3⟩
  · exact .inl h
  · exact .inr ⟨B, cs, h1, h2.only hg (h2.ne hG (by omega)), h3⟩
theorem Sec.Fresh.in {c : Sec} {W : World} (h : c.Fresh W) : c.In n0 W := by
  rcases h with ⟨h1, h2, h3⟩ | ⟨B, cs, h1, h2, h3, h4⟩
  · exact ⟨by rw [h2]; exact Cels.nil _ _, by rw [h2]; exact Nat.zero_le _, by rw [h3]; decide, fun _ => h3⟩
  · exact ⟨by rw [h1]; exact h2.cels (by omega), h3, h4, fun e => by rw [h1] at e; cases e⟩
/-- What recordAt answers. -/
def RecAns (w : World) : Option (List UInt8 × Nat) → Ending → World → Prop
  | none, e, w' => e = .returned (.tuple #[.slice none 0 0, .int .u32 0, .bool false]) ∧ Below w.heap.size w w'
  | some (b, g), e, w' => ∃ s : Sec, e = .returned (.tuple #[s.v, .int .u32 (g : Nat), .bool true]) ∧ s.l = b ∧ s.Fresh w' ∧ Below w.heap.size w w'
theorem own_fresh {w : World} {base n c : Nat} {A : Option Addr} {l : List UInt8} (h : w.ownsRow base 5 1 (.slice A n c) n (bs l)) (hn : n = l.length) : (Sec.mk A l c).Fresh w := by
  subst hn
  have hc := own_caps h
  rcases h.2 with ⟨h0, _⟩ | ⟨g, cap', cur, hv, _⟩
  · injection h0 with h1 h2 h3
    exact .inl ⟨h1, List.eq_nil_of_length_eq_zero h2, h3⟩
  · injection hv with h1 _ h3
    subst h1
    obtain ⟨cs, hcs⟩ := own_blk h
    exact .inr ⟨g, cs, rfl, hcs, hc.1, hc.2⟩
theorem own_base {w : World} {B base e size n : Nat} {v : Value} {xs : List Value} (hb : B ≤ base) (h : w.ownsRow base e size v n xs) : w.ownsRow B e size v n xs := by
  refine ⟨h.1, ?_⟩
  rcases h.2 with h2 | ⟨g, cap, cur, rfl, h1, h2, h3⟩
  · exact .inl h2
  · exact .inr ⟨g, cap, cur, rfl, Nat.le_trans hb h1, h2, h3⟩
theorem readB_len {s : List UInt8} {k : Nat} {p : Piece} (h : readB s k = some p) : p.data.length ≤ 112 := by
  unfold readB at h
  simp only at h
  split at h
  · rename_i hc
    injection h with h
    subst h
    simp only [List.length_take]
    omega
  · cases h

set_option maxRecDepth 100000 in
set_option maxHeartbeats 6400000 in
theorem recordAt_any (A : Option Addr) (ss : List Sec) (cap k : Nat) (w : World) (hi : SecsIn n0 A ss cap w) (hl : ∀ i (h : i < ss.length), (ss[i]).l.length = 128) (hn : ss.length ≤ 4096) (hk : k < ss.length) :
    Calls Try.prog 59 #[.slice A ss.length cap, .int .i64 k] w (RecAns w (recB (secD ss) k)) := by
  have HI := hide hi
  have HL := hide hl
  obtain ⟨b, o, rfl, hb, hc⟩ := hi.at hk
  have hki : (k : Int) < ss.length := by omega
  have HR := hide (read_any (ss[k]) k w (hi.each _ (List.getElem_mem hk)) (hl k hk) (by omega))
  have HRB := hide (show (secD ss).getD k [] = (ss[k]).l by rw [List.getD_eq_getElem?_getD, List.getElem?_eq_getElem (by rw [secD_len]; exact hk), secD_get]; rfl)
  generalize ss[k] = sk at hc HR HRB
  clear hi hl
  cases hq : readB sk.l k with
  | none =>
    rw [hq] at HR
    have HX := hide (show recB (secD ss) k = none by unfold recB; rw [HRB.out, hq])
    clear hq
    go_enter Try.func59, Try.ntmps59
    go_wp2_with fail
    go_step3
    go_wp2_with fail
    refine HR.out.mono ?_
    rintro e w1 ⟨rfl, hb1⟩
    have HB1 := hide hb1
    clear hb1 HR
    go_wp2_with fail
    rw [Exit.noGoto_ret]
    refine bodyPost_ret (v := .tuple #[.slice none 0 0, .int .u32 0, .bool false]) (by simp [results, Try.results59, go_sem]) rfl ?_
    rw [HX.out]
    exact ⟨rfl, below_one HB1.out (below_new _ _)⟩
  | some p =>
    rw [hq] at HR
    have HDL := hide (readB_len hq)
    obtain ⟨pbg, pen, pd, pg⟩ := p
    cases pbg with
    | false =>
      have HX := hide (show recB (secD ss) k = none by unfold recB; rw [HRB.out, hq]; rfl)
      clear hq
      go_enter Try.func59, Try.ntmps59
      go_wp2_with fail
      go_step3
      go_wp2_with fail
      refine HR.out.mono ?_
      rintro e w1 ⟨q, rfl, hq, hqa, hqi, hb1⟩
      have HB1 := hide hb1
      clear hb1 HR
      go_wp2_with fail
      rw [Exit.noGoto_ret]
      refine bodyPost_ret (v := .tuple #[.slice none 0 0, .int .u32 0, .bool false]) (by simp [results, Try.results59, go_sem]) rfl ?_
      rw [HX.out]
      exact ⟨rfl, below_one HB1.out (below_new _ _)⟩
    | true =>
      simp only at HDL
      cases pen with
      | true =>
        have HX := hide (show recB (secD ss) k = some (pd, pg) by unfold recB; rw [HRB.out, hq]; rfl)
        clear hq
        go_enter Try.func59, Try.ntmps59
        go_wp2_with fail
        go_step3
        go_wp2_with fail
        refine HR.out.mono ?_
        rintro e w1 ⟨q, rfl, hq, hqa, hqi, hb1⟩
        have HB1 := hide hb1
        obtain ⟨A2, l2, cap2⟩ := q
        obtain ⟨b2, o2, hA2⟩ := hqa
        simp only at hq hA2
        subst hq hA2
        have HDL2 := HDL.out
        have HW1 := hide (below_one hb1 (below_new w1 (.cells #[.bool true, .bool true, .slice (some ⟨b2, o2, none⟩) l2.length cap2] 95)))
        have HCB := hide (cloneB_any b2 o2 l2 cap2 _ (hqi.below (below_new w1 (.cells #[.bool true, .bool true, .slice (some ⟨b2, o2, none⟩) l2.length cap2] 95))) (by omega))
        have HPB := hide (Blk.new w1 95 [.bool true, .bool true, .slice (some ⟨b2, o2, none⟩) l2.length cap2])
        clear hb1 HR hqi
        go_wp2_with fail
        refine HCB.out.mono ?_
        rintro e w2 ⟨A3, c3, rfl, hown, hb2⟩
        have HO2 := hide hown
        have HW2 := hide (below_one HW1.out hb2)
        have p1 := (HPB.out.below hb2 HPB.out.lt).cell 1
        clear hown hb2 HCB HPB
        go_wp2_with fail
        rw [Exit.noGoto_ret]
        refine bodyPost_ret (v := .tuple #[.slice A3 l2.length c3, .int .u32 pg, .bool true]) (by simp [results, Try.results59, go_sem]) rfl ?_
        rw [HX.out]
        exact ⟨⟨A3, l2, c3⟩, rfl, rfl, own_fresh HO2.out rfl, HW2.out⟩
      | false =>
        have HX := hide (show recB (secD ss) k = (contB (secD ss) pg (ss.length - (k + 1)) (k + 1) pd).map fun b => (b, pg) by unfold recB; rw [HRB.out, hq, secD_len]; rfl)
        obtain ⟨i5, HI5⟩ := hinfo5
        have HI5 := hide HI5
        clear hq
        go_enter Try.func59, Try.ntmps59
        go_wp2_with fail
        go_step3
        go_wp2_with fail
        refine HR.out.mono ?_
        rintro e w1 ⟨q, rfl, hq, hqa, hqi, hb1⟩
        have HB1 := hide hb1
        obtain ⟨A2, l2, cap2⟩ := q
        obtain ⟨b2, o2, hA2⟩ := hqa
        simp only at hq hA2
        subst hq hA2
        have HDL2 := HDL.out
        have HW1 := hide (below_one hb1 (below_new w1 (.cells #[.bool true, .bool false, .slice (some ⟨b2, o2, none⟩) l2.length cap2] 95)))
        have HCB := hide (cloneB_any b2 o2 l2 cap2 _ (hqi.below (below_new w1 (.cells #[.bool true, .bool false, .slice (some ⟨b2, o2, none⟩) l2.length cap2] 95))) (by omega))
        have HPB := hide (Blk.new w1 95 [.bool true, .bool false, .slice (some ⟨b2, o2, none⟩) l2.length cap2])
        clear hb1 HR hqi
        go_wp2_with fail
        refine HCB.out.mono ?_
        rintro e w2 ⟨A3, c3, rfl, hown, hb2⟩
        have HO2 := hide hown
        have HW2 := hide (below_one HW1.out hb2)
        have p1 := (HPB.out.below hb2 HPB.out.lt).cell 1
        clear hown hb2 HCB HPB
        have hzz : w.heap.size ≤ (w1.alloc (.cells #[.bool true, .bool false, .slice (some ⟨b2, o2, none⟩) l2.length cap2] 95)).heap.size := HW1.out.size
        have HO3 := hide (own_base hzz HO2.out)
        clear hzz HO2
        go_wp2_with fail
        go_step3
        go_wp2_with fail
        go_loopw [4, 5, 8] (fun bv gv i wr => ∃ (j : Nat) (acc : List UInt8) (A : Option Addr) (c : Nat), j ≤ ss.length ∧ gv = .int .u32 pg ∧ i = .int .i64 j ∧ bv = .slice A acc.length c ∧ acc.length ≤ 112 * j ∧ Hid (wr.ownsRow w.heap.size 5 1 (.slice A acc.length c) acc.length (bs acc)) ∧ Hid (Below w.heap.size w wr) ∧ Hid (contB (secD ss) pg (ss.length - (k + 1)) (k + 1) l2 = contB (secD ss) pg (ss.length - j) j acc)) (fun _ _ i _ => ss.length - (intOf i).toNat)
        case atStart => exact ⟨k + 1, l2, A3, c3, by omega, rfl, by go_num, rfl, by omega, HO3, HW2, hide rfl⟩
        case round =>
          obtain ⟨j, acc, A, c, hj, rfl, rfl, rfl, hacc, HO, HW, HC⟩ := hrel
          clear HO3 HW2 HB1 HW1 hc p1
          by_cases hlt : j < ss.length
          · have hlt' : (j : Int) < ss.length := by omega
            obtain ⟨b', o', e', _, hc⟩ := (HI.out.below HW.out).at hlt
            injection e' with e'
            injection e' with e1 e2
            subst e1 e2
            have HR := hide (read_any (ss[j]) j wr ((HI.out.each _ (List.getElem_mem hlt)).below HW.out) (HL.out j hlt) (by omega))
            have HRJ := hide (show (secD ss).getD j [] = (ss[j]).l by rw [List.getD_eq_getElem?_getD, List.getElem?_eq_getElem (by rw [secD_len]; exact hlt), secD_get]; rfl)
            have HF := hide (show ss.length - j = (ss.length - (j + 1)) + 1 by omega)
            generalize ss[j] = sj at hc HR HRJ
            cases hq : readB sj.l j with
            | none =>
              rw [hq] at HR
              have HN := hide (show recB (secD ss) k = none by rw [HX.out, HC.out, HF.out]; simp only [contB]; rw [HRJ.out, hq]; rfl)
              clear hq HF
              go_wp2_with fail
              refine HR.out.mono ?_
              rintro e w3 ⟨rfl, hb3⟩
              have HB3 := hide (below_one (below_one HW.out hb3) (below_new _ (.cells #[.bool false, .bool false, .slice none 0 0] 95)))
              clear hb3 HR
              go_wp2_with fail
              rw [Exit.noGoto_ret]
              refine bodyPost_ret (v := .tuple #[.slice none 0 0, .int .u32 0, .bool false]) (by simp [results, Try.results59, go_sem]) rfl ?_
              rw [HN.out]
              exact ⟨rfl, HB3.out⟩
            | some p =>
              rw [hq] at HR
              have HDJ := hide (readB_len hq)
              obtain ⟨qbg, qen, qd, qg⟩ := p
              simp only at HDJ
              cases qbg with
              | true =>
                have HN := hide (show recB (secD ss) k = none by rw [HX.out, HC.out, HF.out]; simp only [contB]; rw [HRJ.out, hq]; rfl)
                clear hq HF
                go_wp2_with fail
                refine HR.out.mono ?_
                rintro e w3 ⟨q3, rfl, hq3, hqa3, hqi3, hb3⟩
                have HB3 := hide (fun o => below_one (below_one HW.out hb3) (below_new _ o))
                clear hb3 HR
                go_wp2_with fail
                (try rw [Exit.noGoto_ret])
                refine bodyPost_ret (v := .tuple #[.slice none 0 0, .int .u32 0, .bool false]) (by simp [results, Try.results59, go_sem]) rfl ?_
                rw [HN.out]
                exact ⟨rfl, HB3.out _⟩
              | false =>
                by_cases hg : qg = pg
                · subst hg
                  have hbn : ((qg : Int) != (qg : Int)) = false := by simp
                  cases qen with
                  | true =>
                    have HN := hide (show recB (secD ss) k = some (acc ++ qd, qg) by rw [HX.out, HC.out, HF.out]; simp only [contB]; rw [HRJ.out, hq]; simp)
                    clear hq HF
                    go_wp2_with fail
                    refine HR.out.mono ?_
                    rintro e w3 ⟨q3, rfl, hq3, ⟨b4, o4, hA4⟩, hqi3, hb3⟩
                    obtain ⟨A4, l4, cap4⟩ := q3
                    simp only at hq3 hA4
                    subst hq3 hA4
                    have HB3 := hide (below_one (below_one HW.out hb3) (below_new _ (.cells #[.bool false, .bool true, .slice (some ⟨b4, o4, none⟩) l4.length cap4] 95)))
                    have HO3 := hide (own_later (own_later HO.out hb3) (below_new _ (.cells #[.bool false, .bool true, .slice (some ⟨b4, o4, none⟩) l4.length cap4] 95)))
                    have HN4 := hide ((hqi3.cels.below (below_new _ (.cells #[.bool false, .bool true, .slice (some ⟨b4, o4, none⟩) l4.length cap4] 95))).opt)
                    have HL4 := hide (show (bs l4).length = l4.length * 1 by rw [bs_len, Nat.mul_one])
                    have hz : w.heap.size ≤ (w3.alloc (.cells #[.bool false, .bool true, .slice (some ⟨b4, o4, none⟩) l4.length cap4] 95)).heap.size := HB3.out.size
                    have hd4 := HDJ.out
                    have HS4 := hide (show bs (acc ++ l4) = bs acc ++ bs l4 from bs_app _ _)
                    have HE4 := hide (show (acc ++ l4).length = acc.length + l4.length from List.length_append)
                    clear hb3 HR hqi3
                    go_wp2_with (at_builtin; refine wpList_app rfl (.tmp 69) (.tmp 71) 35 rfl w.heap.size 5 i5 _ 1 1 Try.underlying35 HI5.out rfl (by omega) _ acc.length (bs acc) rfl HO3.out (some ⟨b4, o4, none⟩) l4.length cap4 (bs l4) rfl (fun h => by cases h) HL4.out HN4.out (bs_one _) (by unfold maxLen; omega) (by omega) hz ?_; intro A5 c5 w5 hown hg; have HO5 := hide hown; have HW5 := hide (below_app (B := w.heap.size) HB3.out HO3.out hg (Nat.le_refl _) hz); clear hown hg hz)
                    rw [← HS4.out, ← HE4.out] at HO5
                    (try rw [Exit.noGoto_ret])
                    refine bodyPost_ret (v := .tuple #[.slice A5 (acc.length + l4.length) c5, .int .u32 qg, .bool true]) (by simp [results, Try.results59, go_sem]) rfl ?_
                    rw [HN.out]
                    exact ⟨⟨A5, acc ++ l4, c5⟩, by simp, rfl, own_fresh HO5.out rfl, HW5.out⟩
                  | false =>
                    have HN := hide (show contB (secD ss) qg (ss.length - (k + 1)) (k + 1) l2 = contB (secD ss) qg (ss.length - (j + 1)) (j + 1) (acc ++ qd) by rw [HC.out, HF.out]; simp only [contB]; rw [HRJ.out, hq]; simp)
                    clear hq HF
                    go_wp2_with fail
                    refine HR.out.mono ?_
                    rintro e w3 ⟨q3, rfl, hq3, ⟨b4, o4, hA4⟩, hqi3, hb3⟩
                    obtain ⟨A4, l4, cap4⟩ := q3
                    simp only at hq3 hA4
                    subst hq3 hA4
                    have HB3 := hide (below_one (below_one HW.out hb3) (below_new _ (.cells #[.bool false, .bool false, .slice (some ⟨b4, o4, none⟩) l4.length cap4] 95)))
                    have HO3 := hide (own_later (own_later HO.out hb3) (below_new _ (.cells #[.bool false, .bool false, .slice (some ⟨b4, o4, none⟩) l4.length cap4] 95)))
                    have HN4 := hide ((hqi3.cels.below (below_new _ (.cells #[.bool false, .bool false, .slice (some ⟨b4, o4, none⟩) l4.length cap4] 95))).opt)
                    have HL4 := hide (show (bs l4).length = l4.length * 1 by rw [bs_len, Nat.mul_one])
                    have hz : w.heap.size ≤ (w3.alloc (.cells #[.bool false, .bool false, .slice (some ⟨b4, o4, none⟩) l4.length cap4] 95)).heap.size := HB3.out.size
                    have hd4 := HDJ.out
                    have HS4 := hide (show bs (acc ++ l4) = bs acc ++ bs l4 from bs_app _ _)
                    have HE4 := hide (show (acc ++ l4).length = acc.length + l4.length from List.length_append)
                    clear hb3 HR hqi3
                    go_wp2_with (at_builtin; refine wpList_app rfl (.tmp 74) (.tmp 76) 35 rfl w.heap.size 5 i5 _ 1 1 Try.underlying35 HI5.out rfl (by omega) _ acc.length (bs acc) rfl HO3.out (some ⟨b4, o4, none⟩) l4.length cap4 (bs l4) rfl (fun h => by cases h) HL4.out HN4.out (bs_one _) (by unfold maxLen; omega) (by omega) hz ?_; intro A5 c5 w5 hown hg; have HO5 := hide hown; have HW5 := hide (below_app (B := w.heap.size) HB3.out HO3.out hg (Nat.le_refl _) hz); clear hown hg hz)
                    rw [← HS4.out, ← HE4.out] at HO5
                    go_roundw
                    case rel => exact ⟨j + 1, acc ++ l4, A5, c5, by omega, rfl, by go_num, by simp, by rw [HE4.out]; omega, HO5, HW5, HN⟩
                    case measure => simp [intOf]; omega
                · have hbn : ((qg : Int) != (pg : Int)) = true := by simp only [bne_iff_ne, ne_eq]; omega
                  have HN := hide (show recB (secD ss) k = none by rw [HX.out, HC.out, HF.out]; simp only [contB]; rw [HRJ.out, hq]; simp [hg])
                  clear hq HF
                  go_wp2_with fail
                  refine HR.out.mono ?_
                  rintro e w3 ⟨q3, rfl, hq3, hqa3, hqi3, hb3⟩
                  have HB3 := hide (fun o => below_one (below_one HW.out hb3) (below_new _ o))
                  clear hb3 HR
                  go_wp2_with fail
                  (try rw [Exit.noGoto_ret])
                  refine bodyPost_ret (v := .tuple #[.slice none 0 0, .int .u32 0, .bool false]) (by simp [results, Try.results59, go_sem]) rfl ?_
                  rw [HN.out]
                  exact ⟨rfl, HB3.out _⟩
          · obtain rfl : j = ss.length := by omega
            have HN := hide (show recB (secD ss) k = none by rw [HX.out, HC.out, Nat.sub_self]; rfl)
            have hge : ¬ ((ss.length : Int) < ss.length) := by omega
            go_wp2_with fail
            (try rw [Exit.noGoto_ret])
            refine bodyPost_ret (v := .tuple #[.slice none 0 0, .int .u32 0, .bool false]) (by simp [results, Try.results59, go_sem]) rfl ?_
            rw [HN.out]
            exact ⟨rfl, HW.out⟩
end Go.Proofs.Ytgigccgklahddaa
