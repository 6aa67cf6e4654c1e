/- slices.SortFunc of pairs; what Cut makes, as plain lists. -/
import Derived.Test.YthmaakiibgdigaaCpg
import Derived.Test.YthmaakiibgdigaaApp
import Derived.Test.YthmaakiibgdigaaAsk
import Derived.Shelf.SlSortCmp.NoneTotal
namespace Go.Proofs.Ythmaakiibgdigaa
open Go.RowKit Go.Sort Go.Lib Go.Shelf
variable {ok : Nat → Prop}

theorem flat_pr (l : List (Int × Int)) (i : Nat) (h : i < l.length * 2) : (l.flatMap prC)[i]? = some (flatK prC 2 l.toArray)[i]! := by
  rw [get_flatK prC 2 l.toArray i (by simpa using h)]
  have hd : i / 2 < l.length := by omega
  have h1 := fl_get prC 2 (fun _ => rfl) l (i / 2) (i % 2) hd (Nat.mod_lt _ (by decide))
  have e : i / 2 * 2 + i % 2 = i := by omega
  rw [e] at h1
  rw [h1, show l.toArray[i / 2]! = l[i / 2] by simp [hd]]
  rcases Nat.mod_two_eq_zero_or_one i with h2 | h2 <;> rw [h2] <;> rfl
theorem holds_pr {w : World} {base c blk n : Nat} {l : List (Int × Int)} (h : w.ownsRow base 55 2 (.slice (some ⟨blk, 0, none⟩) n c) n (l.flatMap prC)) : HoldsK prC 2 w blk 0 l.toArray := by
  intro j hj
  have hj2 : j < l.length * 2 := by simpa using hj
  rcases h.2 with ⟨h0, _⟩ | ⟨g, cap, cur, hv, hb, hg, h3, h4, h5, h6⟩
  · cases h0
  · injection hv with h1 _ _
    injection h1 with h1
    injection h1 with h1
    subst h1
    refine ⟨?_, frozen_of_row w _ _ _ _ hg⟩
    have h9 := flat_pr l j hj2
    have h10 : (List.take (n * 2) cur.toList)[j]? = some (flatK prC 2 l.toArray)[j]! := (congrArg (fun l => l[j]?) h6).trans h9
    rw [List.getElem?_take] at h10
    split at h10
    · rw [Nat.zero_add, cell_of_row w _ _ _ _ _ hg]
      simpa using h10
    · cases h10
theorem sorted_grown {w : World} {blk off n : Nat} {d : Array (Int × Int)} {os : Array Obj} : w.grownBy (sortWorldK prC 2 w blk off n d os) (some blk) := by
  refine ⟨rfl, rfl, rfl, ?_, fun i hi hr => ?_⟩
  · simp [sortWorldK, grow, putRowK, putRow, mapBlock]
  · have hne : blk ≠ i := fun e => hr (by rw [e])
    simp only [sortWorldK, grow, putRowK, putRow, mapBlock, Sort.ahead]
    rw [Array.getElem?_append_left (by simpa using hi), Array.getElem?_modify, if_neg hne]
def sortL (l : List (Int × Int)) : List (Int × Int) := l.mergeSort fun x y => !(ltOf cmpP) y x
theorem sort_any (base c blk n : Nat) (l : List (Int × Int)) (w : World) (hn : l.length = n) (hlen : n ≤ 1000000) (h : w.ownsRow base 55 2 (.slice (some ⟨blk, 0, none⟩) n c) n (l.flatMap prC)) (ho : ok blk) :
    Calls Try.prog 37 #[.slice (some ⟨blk, 0, none⟩) n c, .func (.func 38) #[] #[]] w fun e w' => e = .returned (.tuple #[]) ∧ SlIn prC ok ⟨some ⟨blk, 0, none⟩, sortL l, c⟩ w' ∧ w.grownBy w' (some blk) := by
  subst hn
  have hlt : blk < w.heap.size := (h.lt blk rfl).2
  have hc := own_caps h
  have eg : ∀ args w, (callFunc 38 args).run Try.prog w = .ok (.enter 38 args) w := enters_of Try.func38 (by kernel_rfl) rfl
  have hcon := AnyQ.slices_SortFunc_total Try.sortL 2 Try.isAgg55 Try.sizeOf55 prC (fun _ => rfl) pr_one cmpP cmp_swo 38 #[] blk 0 c l.toArray w eg (cmp_lays blk 0 _ w) (holds_pr h) hlt (by simp; omega) (fun x y h1 h2 => by
    rw [cmp_lt, Bool.eq_false_iff] at h1 h2
    have h3 := mt ltPr_iff.2 h1
    have h4 := mt ltPr_iff.2 h2
    exact Prod.ext (by omega) (by omega))
  change Calls Try.prog 37 #[.slice (some ⟨blk, 0, none⟩) l.length c, .func (.func 38) #[] #[]] w _ at hcon
  refine hcon.mono fun e w' ⟨he, m, os, hw⟩ => ⟨he, ?_, hw ▸ sorted_grown⟩
  have hH := holdsK_sortWorldK_c prC 2 w blk 0 l.toArray (sortL l).toArray m os (holds_pr h) hlt (by simp [sortL])
  have hw2 : w' = sortWorldK prC 2 w blk 0 m (sortL l).toArray os := hw
  rw [← hw2] at hH
  have hsz : (sortL l).length = l.length := by simp [sortL]
  refine ⟨fun _ => ⟨blk, 0, rfl, ?_, ho, fun i hi => ?_⟩, by rw [hsz]; exact hc.1, hc.2, fun e => by cases e⟩
  · rw [hw2]
    exact Nat.lt_of_lt_of_le hlt sorted_grown.size
  · have hi2 : i < (sortL l).length * 2 := by rw [← fl_len prC 2 (fun _ => rfl)]; exact hi
    have h1 := (hH i (by simpa using hi2)).1
    have h2 := flat_pr (sortL l) i hi2
    rw [List.getElem?_eq_getElem hi] at h2
    have h3 : w'.cell? ⟨blk, 0 + i, none⟩ = some (flatK prC 2 (sortL l).toArray)[i]! := h1
    rw [h3]
    exact h2.symm

/-- All pairs, in order. -/
theorem allPr_sorted : allPr.Pairwise fun x y => ltPr x y = true := by decide +kernel
theorem mem_allPr {q : Int × Int} : q ∈ allPr ↔ okPr q = true := by
  obtain ⟨x, y⟩ := q
  have h1 : okPr (x, y) = true ↔ (0 ≤ x ∧ x < 24) ∧ (0 ≤ y ∧ y < 24) ∧ x < y := by
    simp only [okPr, partB, siteB, Bool.and_eq_true, decide_eq_true_eq]
    omega
  rw [h1]
  simp only [allPr, List.mem_flatMap, List.mem_range, List.mem_map, List.mem_filter, decide_eq_true_eq, Prod.mk.injEq]
  constructor
  · rintro ⟨a, ha, b, ⟨hb, hab⟩, rfl, rfl⟩
    omega
  · rintro ⟨hx, hy, hxy⟩
    exact ⟨x.toNat, by omega, y.toNat, ⟨by omega, by omega⟩, by omega, by omega⟩
theorem lt_irr (x : Int × Int) : ltPr x x = false := by
  rw [Bool.eq_false_iff]
  intro h
  have := ltPr_iff.1 h
  omega
/-- Two ascending lists with the same members are one. -/
theorem asc_eq : ∀ {a b : List (Int × Int)}, (a.Pairwise fun x y => ltPr x y = true) → (b.Pairwise fun x y => ltPr x y = true) → (∀ q, q ∈ a ↔ q ∈ b) → a = b
  | [], [], _, _, _ => rfl
  | [], y :: b, _, _, h => by have := (h y).2 (by simp); cases this
  | x :: a, [], _, _, h => by have := (h x).1 (by simp); cases this
  | x :: a, y :: b, ha, hb, h => by
    rw [List.pairwise_cons] at ha hb
    have hxy : x = y := by
      rcases List.mem_cons.1 ((h x).1 (by simp)) with e | e
      · exact e
      · rcases List.mem_cons.1 ((h y).2 (by simp)) with e2 | e2
        · exact e2.symm
        · have h1 := ltPr_iff.1 (hb.1 x e)
          have h2 := ltPr_iff.1 (ha.1 y e2)
          omega
    subst hxy
    rw [asc_eq ha.2 hb.2 fun q => ?_]
    constructor
    · intro hq
      rcases List.mem_cons.1 ((h q).1 (by simp [hq])) with e | e
      · subst e
        have := ha.1 q hq
        rw [lt_irr] at this
        cases this
      · exact e
    · intro hq
      rcases List.mem_cons.1 ((h q).2 (by simp [hq])) with e | e
      · subst e
        have := hb.1 q hq
        rw [lt_irr] at this
        cases this
      · exact e
theorem ap_asc {l : List (Int × Int)} (h : apB l = true) : (l.Pairwise fun x y => ltPr x y = true) ∧ ∀ q ∈ l, okPr q = true := by
  have h1 := apB_iff.1 h
  have hok : ∀ q ∈ l, okPr q = true := fun q hq => by
    obtain ⟨i, hi, rfl⟩ := List.getElem_of_mem hq
    have := h1 i hi
    simp only [stepB, Bool.and_eq_true, List.getD_eq_getElem?_getD, List.getElem?_eq_getElem hi, Option.getD_some] at this
    exact this.1
  refine ⟨?_, hok⟩
  have hadj : ∀ d i, (hd : i + d + 1 < l.length) → ltPr (l[i]'(by omega)) (l[i + d + 1]) = true := by
    intro d
    induction d with
    | zero =>
      intro i hd
      have := h1 (i + 1) hd
      have hi : i < l.length := by omega
      simp only [stepB, Bool.and_eq_true, List.getD_eq_getElem?_getD, List.getElem?_eq_getElem hd, Option.getD_some, Nat.add_sub_cancel, List.getElem?_eq_getElem hi] at this
      simpa using this.2
    | succ d ih =>
      intro i hd
      have a := ih i (by omega)
      have b := h1 (i + d + 1 + 1) hd
      have hi : i + d + 1 < l.length := by omega
      have hd2 : i + d + 1 + 1 < l.length := by omega
      simp only [stepB, Bool.and_eq_true, List.getD_eq_getElem?_getD, List.getElem?_eq_getElem hd2, Option.getD_some, Nat.add_sub_cancel, List.getElem?_eq_getElem hi] at b
      have b2 : ltPr l[i + d + 1] l[i + d + 1 + 1] = true := by simpa using b.2
      have h3 := ltPr_iff.1 a
      have h4 := ltPr_iff.1 b2
      exact ltPr_iff.2 (show (l[i]'(by omega)).1 < (l[i + d + 1 + 1]).1 ∨ (l[i]'(by omega)).1 = (l[i + d + 1 + 1]).1 ∧ (l[i]'(by omega)).2 < (l[i + d + 1 + 1]).2 by omega)
  rw [List.pairwise_iff_getElem]
  intro i j hi hj hij
  have := hadj (j - i - 1) i (by omega)
  have e : i + (j - i - 1) + 1 = j := by omega
  simpa only [e] using this
theorem mem_cutA {l : List (Int × Int)} {p q : Int × Int} {on : Bool} : q ∈ cutA l p on ↔ okPr q = true ∧ (if q = p then on = true else q ∈ l) := by
  simp only [cutA, List.mem_filter, mem_allPr]
  refine and_congr_right fun _ => ?_
  split <;> simp
theorem cutA_asc (l : List (Int × Int)) (p : Int × Int) (on : Bool) : (cutA l p on).Pairwise fun x y => ltPr x y = true := allPr_sorted.filter _
theorem cut_off {l : List (Int × Int)} (h : apB l = true) (p : Int × Int) : l.filter (fun q => !(q == p)) = cutA l p false := by
  obtain ⟨h1, h2⟩ := ap_asc h
  refine asc_eq (h1.filter _) (cutA_asc _ _ _) fun q => ?_
  rw [mem_cutA, List.mem_filter]
  constructor
  · rintro ⟨hq, hn⟩
    have hne : q ≠ p := by simpa using hn
    exact ⟨h2 q hq, by rw [if_neg hne]; exact hq⟩
  · rintro ⟨_, hq⟩
    by_cases e : q = p
    · rw [if_pos e] at hq; cases hq
    · rw [if_neg e] at hq
      exact ⟨hq, by simpa using e⟩
theorem cut_on {l : List (Int × Int)} (h : apB l = true) (p : Int × Int) (hp : okPr p = true) : sortL (l.filter (fun q => !(q == p)) ++ [p]) = cutA l p true := by
  obtain ⟨h1, h2⟩ := ap_asc h
  have hmem : ∀ q, q ∈ sortL (l.filter (fun q => !(q == p)) ++ [p]) ↔ q ∈ l.filter (fun q => !(q == p)) ++ [p] := fun q => List.mem_mergeSort
  have hnd : (l.filter (fun q => !(q == p)) ++ [p]).Nodup := by
    rw [List.nodup_append]
    refine ⟨((h1.imp fun hxy e => ?_) : l.Nodup).filter _, by simp, ?_⟩
    · subst e; rw [lt_irr] at hxy; cases hxy
    · intro a ha b hb
      have := (List.mem_filter.1 ha).2
      obtain rfl : b = p := by simpa using hb
      simpa using this
  have hnd2 : (sortL (l.filter (fun q => !(q == p)) ++ [p])).Nodup := (List.mergeSort_perm _ _).symm.nodup hnd
  have hs : (sortL (l.filter (fun q => !(q == p)) ++ [p])).Pairwise fun x y => (!(ltOf cmpP) y x) = true := List.pairwise_mergeSort (fun a b c h1 h2 => by
      rw [cmp_lt, Bool.not_eq_true', Bool.eq_false_iff] at *
      intro h
      have h3 := ltPr_iff.1 h
      have h4 := mt ltPr_iff.2 h1
      have h5 := mt ltPr_iff.2 h2
      omega) (fun a b => by
      rw [cmp_lt, cmp_lt]
      cases h3 : ltPr b a
      · rfl
      · cases h4 : ltPr a b
        · rfl
        · have h3 := ltPr_iff.1 h3
          have h4 := ltPr_iff.1 h4
          omega) _
  refine asc_eq ((hs.and hnd2).imp fun {x y} hxy => ?_) (cutA_asc _ _ _) fun q => ?_
  · have h3 := hxy.1
    rw [cmp_lt, Bool.not_eq_true', Bool.eq_false_iff] at h3
    have h4 := mt ltPr_iff.2 h3
    have h5 : ¬ (x.1 = y.1 ∧ x.2 = y.2) := fun e => hxy.2 (Prod.ext e.1 e.2)
    exact ltPr_iff.2 (by omega)
  · rw [hmem, mem_cutA, List.mem_append, List.mem_filter, List.mem_singleton]
    constructor
    · rintro (⟨hq, hn⟩ | rfl)
      · have hne : q ≠ p := by simpa using hn
        exact ⟨h2 q hq, by rw [if_neg hne]; exact hq⟩
      · exact ⟨hp, by rw [if_pos rfl]⟩
    · rintro ⟨_, hq⟩
      by_cases e : q = p
      · exact .inr e
      · rw [if_neg e] at hq
        exact .inl ⟨hq, by simpa using e⟩
theorem ap_len {l : List (Int × Int)} (h : apB l = true) : l.length ≤ 276 := by
  have h1 := cut_off h (0, 0)
  have h2 : l.filter (fun q => !(q == (0, 0))) = l := by
    rw [List.filter_eq_self]
    intro q hq
    have h3 := (ap_asc h).2 q hq
    have : q ≠ (0, 0) := fun e => by rw [e] at h3; exact absurd h3 (by decide)
    simpa using this
  rw [h2] at h1
  rw [h1]
  exact Nat.le_trans (List.length_filter_le _ _) (by decide +kernel)
end Go.Proofs.Ythmaakiibgdigaa
