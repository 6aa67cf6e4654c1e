/- Text of the reference. -/
import Derived.Test.YtemapfhiiefieaaDoorRdec
import Derived.Test.YtemapfhiiefieaaDoorBackL
namespace Go.Proofs.YtemapfhiiefieaaDoor
open Go.RowKit

/-- A text so far, and one token more. -/
theorem joinT_take {l : List Tok} {k : Nat} (h : k < l.length) : joinT (l.take (k + 1)) = joinT (l.take k) ++ ((if 0 < k then [32] else []) ++ (textT l[k]).data.toList) := by
  match l, h with
  | t :: r, h =>
    match k, h with
    | 0, _ => simp [joinT_one, joinT_nil]
    | k + 1, h =>
      simp only [List.take_succ_cons, joinT, List.map_cons, Lib.join_cons, List.length_cons] at h ⊢
      have hk : k < r.length := by omega
      simp only [List.map_take]
      rw [Lib.joinTail_take_succ [32] _ k (textT r[k]).data.toList (by simp [hk])]
      simp
theorem valid_num {s : ByteArray} {n p : Int} (h : validT ⟨2, s, n, p⟩ = true) : 0 ≤ n ∧ n ≤ 1099511627776 := by
  unfold validT at h
  simp at h
  exact h.2
theorem joinT_bound (l : List Tok) (h1 : l.length ≤ 100000) (h2 : ∀ t ∈ l, t.text.data.toList.length ≤ 1000000000) (h3 : ∀ t ∈ l, validT t = true) : (joinT l).length ≤ 200000000000000 := by
  have h4 := joinT_len 13 l (fun t ht => textT_len t (h3 t ht))
  have h5 := sumT_bound l 1000000000 (fun t ht => h2 t ht)
  omega

set_option maxRecDepth 10000 in
set_option maxHeartbeats 1600000 in
theorem rtext_any (A : Option Addr) (l : List Tok) (ca : Nat) (w : World) (hl : l.length ≤ 100000) (hA : Toks w A l) (hV : ∀ t ∈ l, t.text.data.toList.length ≤ 1000000000) :
    Calls Tryd.prog 17 #[.slice A l.length ca] w (TextPost l w) := by
  have HA := hide hA
  have HV := hide hV
  clear hA hV
  go_enter Tryd.func17, Tryd.ntmps17
  go_wp2_with fail
  go_loopw [4, 5] (fun x i wr => ∃ k : Nat, k ≤ l.length ∧ i = .int .i64 k ∧ x = .string (str (joinT (l.take k))) ∧ Hid (∀ j (h : j < l.length), j < k → validT l[j] = true) ∧ Hid (Below w.heap.size w wr)) (fun _ i _ => l.length - (intOf i).toNat)
  case atStart => exact ⟨0, Nat.zero_le _, rfl, rfl, hide (by intros; omega), hide (Below.refl _ _)⟩
  case round =>
    obtain ⟨k, hk, rfl, rfl, hw, hb⟩ := hrel
    by_cases hlt : k < l.length
    · obtain ⟨b, o, rfl, hblt, c0, c1, c2, c3⟩ := (HA.out.below hb.out) k hlt
      have HTK := hide (joinT_take hlt)
      have HAF := hide (all_false hlt)
      have HVS := HV.out l[k] (List.getElem_mem hlt)
      rw [text_len l[k]] at HVS
      have HVA := hide (rvalid_any l[k] wr (HV.out l[k] (List.getElem_mem hlt)))
      have HNX := hide (show validT l[k] = true → ∀ j (h : j < l.length), j < k + 1 → validT l[j] = true from fun hv j h hj => by
        by_cases e : j = k
        · subst e; exact hv
        · exact hw.out j h (by omega))
      generalize l[k] = t at *
      obtain ⟨tk, s, n, p⟩ := t
      simp only at c0 c1 c2 c3 HVS
      cases hv : validT ⟨tk, s, n, p⟩ with
      | false =>
        rw [hv] at HVA
        have HF := hide (HAF.out hv)
        clear hv
        go_wp2_with fail
        refine HVA.out.mono ?_
        rintro e w1 ⟨rfl, hb1⟩
        have HB1 := hide (below_one hb.out hb1)
        clear hb1
        go_wp2_with fail
        refine bodyPost_ret (v := .tuple #[.string ⟨#[]⟩, .int .i64 30]) (by simp [results, Tryd.results17, go_sem]) rfl ?_
        exact ⟨by rw [HF.out]; rfl, HB1.out⟩
      | true =>
        rw [hv] at HVA
        have HN := hide (HNX.out hv)
        have HNU := hide (show tk = 2 → 0 ≤ n ∧ n ≤ 1099511627776 from fun h => by subst h; exact valid_num hv)
        clear hv
        go_wp2_with fail
        refine HVA.out.mono ?_
        rintro e w1 ⟨rfl, hb1⟩
        have HB1 := hide (below_one hb.out hb1)
        have hm : ∀ j v, wr.cell? ⟨b, j, none⟩ = some v → w1.cell? ⟨b, j, none⟩ = some v := fun j v hv => by
          rw [World.cell?_of_block (a := ⟨b, j, none⟩) (hb1.block b hblt)]; exact hv
        have d0 := hm _ _ c0
        have d1 := hm _ _ c1
        have d2 := hm _ _ c2
        have HJL := hide (joinT_bound (l.take k) (by rw [List.length_take]; omega) (fun t ht => HV.out t (List.mem_of_mem_take ht)) (fun t ht => by
          obtain ⟨j, hj, rfl⟩ := List.getElem_of_mem ht
          rw [List.getElem_take]
          rw [List.length_take] at hj
          exact hw.out j (by omega) (by omega)))
        have hjl := HJL.out
        have hJs := str_size (joinT (l.take k))
        have hsz := HVS
        clear hb1 hm c0 c1 c2 c3
        by_cases h2 : tk = 2
        · subst h2
          have e2 : ((2 : Int) == 2) = true := rfl
          obtain ⟨hn0, hn1⟩ := HNU.out rfl
          obtain ⟨u, rfl⟩ : ∃ u : Nat, n = u := ⟨n.toNat, by omega⟩
          have HX : Hid ((textT ⟨2, s, (u : Int), p⟩).data.toList = Lib.decDigits u) := hide (by simp [textT, Lib.itoa_nonneg])
          have HDE := hide (rdecimal_any u w1 (by omega))
          have hdl := dec_len 12 u (by omega)
          have hds := str_size (Lib.decDigits u)
          by_cases h0 : 0 < k
          · have e0 : decide ((0 : Int) < (k : Int)) = true := by simp; omega
            go_wp2_with fail
            refine HDE.out.mono ?_
            rintro e w2 ⟨rfl, hb2⟩
            have HB2 := hide (below_one HB1.out hb2)
            clear hb2 HDE
            go_wp2_with fail
            refine ⟨⟨k + 1, by omega, by go_num, ?_, HN, HB2⟩, by simp [intOf]; omega⟩
            rw [HTK.out, HX.out, if_pos h0, show (⟨#[32]⟩ : ByteArray) = str [32] from rfl, str_app, str_app, List.append_assoc]
          · have e0 : decide ((0 : Int) < (k : Int)) = false := by simp; omega
            go_wp2_with fail
            refine HDE.out.mono ?_
            rintro e w2 ⟨rfl, hb2⟩
            have HB2 := hide (below_one HB1.out hb2)
            clear hb2 HDE
            go_wp2_with fail
            refine ⟨⟨k + 1, by omega, by go_num, ?_, HN, HB2⟩, by simp [intOf]; omega⟩
            rw [HTK.out, HX.out, if_neg h0, str_app, List.nil_append]
        · have e2 : (tk == 2) = false := by simpa using h2
          have HX : Hid ((textT ⟨tk, s, n, p⟩).data.toList = s.data.toList) := hide (by simp [textT, h2])
          by_cases h0 : 0 < k
          · have e0 : decide ((0 : Int) < (k : Int)) = true := by simp; omega
            go_wp2_with fail
            refine ⟨⟨k + 1, by omega, by go_num, ?_, HN, HB1⟩, by simp [intOf]; omega⟩
            rw [HTK.out, HX.out, if_pos h0, show (⟨#[32]⟩ : ByteArray) = str [32] from rfl, ← str_data s, str_app, str_app, List.append_assoc, str_data]
          · have e0 : decide ((0 : Int) < (k : Int)) = false := by simp; omega
            go_wp2_with fail
            refine ⟨⟨k + 1, by omega, by go_num, ?_, HN, HB1⟩, by simp [intOf]; omega⟩
            rw [HTK.out, HX.out, if_neg h0, ← str_data s, str_app, List.nil_append, str_data]
    · obtain rfl : k = l.length := by omega
      have HALL := hide (show l.all validT = true from List.all_eq_true.2 fun t ht => by
        obtain ⟨j, hj, e⟩ := List.getElem_of_mem ht
        rw [← e]; exact hw.out j hj hj)
      rw [List.take_length]
      go_wp2_with fail
      refine bodyPost_ret (v := .tuple #[.string (str (joinT l)), .int .i64 0]) (by simp [results, Tryd.results17, go_sem]) rfl ?_
      exact ⟨by rw [HALL.out]; rfl, hb.out⟩
end Go.Proofs.YtemapfhiiefieaaDoor
