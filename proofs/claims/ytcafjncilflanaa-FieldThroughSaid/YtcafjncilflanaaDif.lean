/- Are the numbers of points pairwise different? The program asks a map, the reference compares. -/
import Derived.Test.YtcafjncilflanaaPow
import Derived.Maps.OwnSet
import Derived.Carry
namespace Go.Proofs.Ytcafjncilflanaa
open Go.RowKit Go.Maps

/-- Points in a row. -/
def ptC (p : Pt) : List Value := [.int .i64 p.1, .int .i64 p.2]
def Pts (w : World) (A : Option Addr) (l : List Pt) : Prop := l ≠ [] → ∃ b o, A = some ⟨b, o, none⟩ ∧ b < w.heap.size ∧ ∀ i (h : i < l.length), w.cell? ⟨b, o + i * 2, none⟩ = some (.int .i64 l[i].1) ∧ w.cell? ⟨b, o + i * 2 + 1, none⟩ = some (.int .i64 l[i].2)
theorem Pts.nil (w : World) (A : Option Addr) : Pts w A [] := fun h => absurd rfl h
theorem Pts.below {w w' : World} {A : Option Addr} {l : List Pt} (h : Pts w A l) (hb : Below w.heap.size w w') : Pts w' A l := fun hn => by
  obtain ⟨b, o, h1, h2, h3⟩ := h hn
  exact ⟨b, o, h1, Nat.lt_of_lt_of_le h2 hb.size, fun i hi => ⟨(hb.cell (p := ⟨b, o + i * 2, none⟩) h2).trans (h3 i hi).1, (hb.cell (p := ⟨b, o + i * 2 + 1, none⟩) h2).trans (h3 i hi).2⟩⟩
theorem Pts.at {w : World} {A : Option Addr} {l : List Pt} (h : Pts w A l) {k : Nat} (hk : k < l.length) : ∃ b o, A = some ⟨b, o, none⟩ ∧ w.cell? ⟨b, o + k * 2, none⟩ = some (.int .i64 l[k].1) ∧ w.cell? ⟨b, o + k * 2 + 1, none⟩ = some (.int .i64 l[k].2) := by
  obtain ⟨b, o, h1, _, h3⟩ := h (by intro e; subst e; simp at hk)
  exact ⟨b, o, h1, h3 k hk⟩

def difB : List Int → Bool
  | [] => true
  | x :: l => l.all (fun y => md x != md y) && difB l
theorem difB_iff : ∀ xs : List Int, difB xs = true ↔ Dif xs
  | [] => by simp [difB, Dif]
  | x :: l => by simp [difB, Dif, difB_iff l]
theorem difB_yes {xs : List Int} (h : ∀ i j (hi : i < xs.length) (hj : j < xs.length), j < i → md xs[i] ≠ md xs[j]) : difB xs = true := (difB_iff xs).2 (dif_of xs h)
theorem difB_no {xs : List Int} {i j : Nat} (hi : i < xs.length) (hj : j < xs.length) (hn : i ≠ j) (h : md xs[i] = md xs[j]) : difB xs = false := by
  cases e : difB xs with
  | false => rfl
  | true => exact absurd h (dif_get xs ((difB_iff xs).1 e) i j hi hj hn)

/-- What the map holds behind some numbers. -/
def seenD (xs : List Int) : DataW Unit := xs.foldl (fun m x => m.put (.int .i64 (md x)) (.lit (.bool true))) (.map [])
theorem seen_map (xs : List Int) : ∀ D : DataW Unit, IsMap D → IsMap (xs.foldl (fun m x => m.put (.int .i64 (md x)) (.lit (.bool true))) D) := by
  induction xs with
  | nil => exact fun D h => h
  | cons x l ih => exact fun D h => ih _ (h.put _ _)
theorem seen_isMap (xs : List Int) : IsMap (seenD xs) := seen_map xs _ isMap_empty
theorem seen_snoc (xs : List Int) (x : Int) : seenD (xs ++ [x]) = (seenD xs).put (.int .i64 (md x)) (.lit (.bool true)) := by simp [seenD, List.foldl_append]
theorem lit_wf (x : Int) : (Lit.int .i64 (md x)).wf = true := by
  have h0 := md_lo x
  have h1 := md_hi x
  simp [Lit.wf, IntKind.min, IntKind.max, IntKind.bits, IntKind.signed]
  omega
theorem seen_hit : ∀ (xs : List Int) (y : Int) (D : DataW Unit), IsMap D → (xs.foldl (fun m x => m.put (.int .i64 (md x)) (.lit (.bool true))) D).atKey (.int .i64 (md y)) (.lit (.bool false)) = if xs.any (fun x => md x == md y) then .lit (.bool true) else D.atKey (.int .i64 (md y)) (.lit (.bool false))
  | [], _, _, _ => by simp
  | x :: l, y, D, h => by
    rw [List.foldl_cons, seen_hit l y _ (h.put _ _)]
    by_cases hx : md x = md y
    · rw [hx, atKey_put_same h (by simp [WideAt.IsKeyLit])]
      simp [hx]
    · rw [atKey_put_other (by intro e; injection e with _ e; exact hx e.symm)]
      simp [hx]
theorem seen_at (xs : List Int) (y : Int) : (seenD xs).atKey (.int .i64 (md y)) (.lit (.bool false)) = .lit (.bool (xs.any fun x => md x == md y)) := by
  unfold seenD
  rw [seen_hit xs y _ isMap_empty]
  cases xs.any (fun x => md x == md y) <;> simp [DataW.atKey]
theorem plainElem_bool_inv {P : Program} {e : TypeId} (he : P.underlying e = some .bool) {v : Value} {z : DataW Unit × List MemPlace} (h : plainElem P e v = some z) : ∃ x, v = .bool x ∧ z = (.lit (.bool x), []) := by
  unfold plainElem at h
  rw [he] at h
  cases v <;> simp at h
  exact ⟨_, rfl, h.symm⟩
theorem zero4 (w : World) : (zeroValue 4).run Try.prog w = .ok (.bool false) w := by kernel_rfl
theorem look_seen {w : World} {b n : Nat} {xs : List Int} (h : w.ownsMap Try.prog 3 (plainElem Try.prog 4) b n (seenD xs)) (y : Int) : (Instr.lookup 47 (.map (some b)) (.int .i64 (md y)) false).run Try.prog w = .ok (.bool (xs.any fun x => md x == md y)) w := by
  obtain ⟨v, ps, h1, h2⟩ := h.lookup (int_keyed Try.underlying3) Try.underlying47 (zero4 w) (plainElem_bool Try.underlying4 false) (keyOf_int_mk Try.underlying3 (lit_wf y))
  rw [seen_at] at h2
  obtain ⟨c, rfl, h3⟩ := plainElem_bool_inv Try.underlying4 h2
  injection h3 with h3 _
  injection h3 with h3
  injection h3 with h3
  rw [h1, h3]
theorem any_take {xs : List Int} {k : Nat} (hk : k ≤ xs.length) (y : Int) : (xs.take k).any (fun x => md x == md y) = true ↔ ∃ j, ∃ h : j < xs.length, j < k ∧ md xs[j] = md y := by
  rw [List.any_eq_true]
  constructor
  · rintro ⟨x, hx, he⟩
    obtain ⟨j, hj, rfl⟩ := List.mem_iff_getElem.1 hx
    rw [List.length_take] at hj
    refine ⟨j, by omega, by omega, ?_⟩
    rw [List.getElem_take] at he
    simpa using he
  · rintro ⟨j, hj, hjk, he⟩
    refine ⟨xs[j], ?_, by simpa using he⟩
    exact List.mem_iff_getElem.2 ⟨j, by rw [List.length_take]; omega, by rw [List.getElem_take]⟩

theorem Try.size35 : (Try.prog.info? 35).map (·.size) = some 2 := by kernel_rfl
set_option maxRecDepth 20000 in
set_option maxHeartbeats 3200000 in
theorem different_any (A : Option Addr) (l : List Pt) (cap : Nat) (w : World) (hA : Pts w A l) (hl : l.length ≤ cap) (hc : cap ≤ 9223372036854775807) (hm : l.length < maxLen) :
    Calls Try.prog 23 #[.slice A l.length cap] w fun e w' => e = .returned (.bool (difB (l.map (·.1)))) ∧ Below w.heap.size w w' := by
  have HA := hide hA
  have HM := hide hm
  have H0 := hide (World.ownsMap_made w Try.prog 3 (plainElem (H := Unit) Try.prog 4))
  have HB := hide (below_new w (.map #[] 0))
  have HY := hide (difB_yes (xs := l.map (·.1)))
  have HN := hide (fun i j => difB_no (xs := l.map (·.1)) (i := i) (j := j))
  have HLN := hide (show (l.map (·.1)).length = l.length from List.length_map _)
  clear hA hm
  generalize difB (l.map (·.1)) = r at *
  have hmm := @run_makeMap Try.prog
  go_enter Try.func23, Try.ntmps23
  go_wp2_with fail
  clear hmm
  generalize hw1 : w.alloc (.map #[] 0) = w1 at *
  clear hw1
  go_loopw [5, 6, 10] (fun _ _ i wr => ∃ k : Nat, k ≤ l.length ∧ i = .int .i64 k ∧ Hid (wr.ownsMap Try.prog 3 (plainElem Try.prog 4) w.heap.size k (seenD ((l.map (·.1)).take k))) ∧ Hid (∀ i j (hi : i < (l.map (·.1)).length) (hj : j < (l.map (·.1)).length), i < k → j < i → md (l.map (·.1))[i] ≠ md (l.map (·.1))[j]) ∧ Hid (Below w.heap.size w wr)) (fun _ _ i _ => l.length - (intOf i).toNat)
  case atStart => exact ⟨0, Nat.zero_le _, rfl, H0, hide (by intros; omega), HB⟩
  case round =>
    obtain ⟨k, hk, rfl, HO, HD, HW⟩ := hrel
    by_cases hlt : k < l.length
    · obtain ⟨b, o, rfl, c0, c1⟩ := (HA.out.below HW.out).at hlt
      have hlt' : (k : Int) < (l.length : Int) := by omega
      have hx : (l.map (·.1))[k]'(by rw [HLN.out]; exact hlt) = l[k].1 := by rw [List.getElem_map]
      have HX := hide hx
      clear hx
      generalize l[k] = pt at *
      obtain ⟨X, Y⟩ := pt
      have HO2 := hide (HO.out.alloc (.cells #[.int .i64 X, .int .i64 Y] 35))
      have H2 := hide (HW.out.alloc HW.out.size (.cells #[.int .i64 X, .int .i64 Y] 35))
      go_wp2_with fail
      generalize wr.alloc (.cells #[.int .i64 X, .int .i64 Y] 35) = W2 at *
      refine (mod_any _ _).mono ?_
      rintro e w' ⟨rfl, rfl⟩
      have hlk := look_seen HO2.out X
      by_cases hh : ((l.map (·.1)).take k).any (fun x => md x == md X) = true
      · rw [hh] at hlk
        obtain ⟨j, hj, hjk, he⟩ := (any_take (by rw [HLN.out]; omega) X).1 hh
        obtain rfl := HN.out j k hj (by rw [HLN.out]; exact hlt) (by omega) (by rw [he, HX.out])
        clear hh he hj hjk
        go_wp2_with fail
        go_ret
        exact ⟨rfl, H2.out⟩
      · have hf : ((l.map (·.1)).take k).any (fun x => md x == md X) = false := by simpa using hh
        rw [hf] at hlk
        have HD2 := hide (show ∀ i j (hi : i < (l.map (·.1)).length) (hj : j < (l.map (·.1)).length), i < k + 1 → j < i → md (l.map (·.1))[i] ≠ md (l.map (·.1))[j] from fun i j hi hj h1 h2 => by
          by_cases e : i = k
          · subst e
            intro he
            rw [HX.out] at he
            exact hh ((any_take (by rw [HLN.out]; omega) X).2 ⟨j, hj, h2, he.symm⟩)
          · exact HD.out i j hi hj (by omega) h2)
        clear hh hf
        go_wp2_with (first | (at_mapUpdate; refine wpList_mapUpdate_own _ rfl _ _ _ 47 rfl 3 4 (int_keyed Try.underlying3) Try.underlying47 _ w.heap.size k _ rfl HO2.out (by have := HM.out; omega) _ _ (.int .i64 (md X)) rfl rfl (keyOf_int_mk Try.underlying3 (lit_wf X)) (.lit (.bool true)) [] (plainElem_bool Try.underlying4 true) ?_) | fail)
        intro w3 hown3 hgrow3
        have HO3 := hide (show w3.ownsMap Try.prog 3 (plainElem Try.prog 4) w.heap.size (k + 1) (seenD ((l.map (·.1)).take (k + 1))) from by
          rw [List.take_add_one, List.getElem?_eq_getElem (by rw [HLN.out]; exact hlt), HX.out]
          show w3.ownsMap Try.prog 3 (plainElem Try.prog 4) w.heap.size (k + 1) (seenD (_ ++ [X]))
          rw [seen_snoc]
          exact hown3)
        have H3 := hide (below_of_only H2.out hgrow3 (Nat.le_refl _))
        clear hown3 hgrow3 hlk
        go_wp2_with fail
        go_roundw
        case rel => exact ⟨k + 1, by omega, by go_num, HO3, HD2, H3⟩
        case measure => simp [intOf]; omega
    · obtain rfl : k = l.length := by omega
      obtain rfl := HY.out (fun i j hi hj h => HD.out i j hi hj (by rw [← HLN.out]; exact hi) h)
      go_wp2_with fail
      go_ret
      exact ⟨rfl, HW.out⟩
end Go.Proofs.Ytcafjncilflanaa
