/- The blocks in which a value lies; a value whose blocks stay as they are stays. -/
import Derived.Test.YtccdencaidopnaaRdN
namespace Go.Proofs.Ytccdencaidopnaa
open Go.RowKit

namespace VT
/-- The blocks of the lists. -/
def blocks : VT → List Nat
  | .mk _ _ _ a _ l => (match a with | some p => [p.block] | none => []) ++ blockss l
where blockss : List VT → List Nat
  | [] => []
  | t :: r => blocks t ++ blockss r

theorem blocks_eq (t : VT) : t.blocks = (match t.adr with | some p => [p.block] | none => []) ++ blocks.blockss t.els := by cases t; rfl

theorem mem_blockss {l : List VT} {i : Nat} (h : i < l.length) {b : Nat} (hb : b ∈ (l[i]).blocks) : b ∈ blocks.blockss l := by
  induction l generalizing i with
  | nil => simp at h
  | cons t r ih =>
    cases i with
    | zero => exact List.mem_append_left _ hb
    | succ i => exact List.mem_append_right _ (ih (by simpa using h) hb)

theorem of_blockss {l : List VT} {b : Nat} (hb : b ∈ blocks.blockss l) : ∃ i, ∃ h : i < l.length, b ∈ (l[i]).blocks := by
  induction l with
  | nil => simp [blocks.blockss] at hb
  | cons t r ih =>
    rcases List.mem_append.1 hb with hb | hb
    · exact ⟨0, by simp, hb⟩
    · obtain ⟨i, h, hi⟩ := ih hb
      exact ⟨i + 1, by simpa using h, hi⟩

theorem InF.move {w w' : World} : ∀ {f : Nat} {t : VT}, InF f w t → (∀ b ∈ t.blocks, w'.heap[b]? = w.heap[b]?) → InF f w' t
  | 0, _, h, _ => h
  | f + 1, t, ⟨h1, h2, h3, h4, h5, h6⟩, hb => ⟨h1, h2, h3, h4, h5, fun i hi b o e => by
    obtain ⟨⟨c0, c1, c2, c3⟩, hin⟩ := h6 i hi b o e
    rw [blocks_eq] at hb
    have hbb : w'.heap[b]? = w.heap[b]? := hb b (by rw [e]; simp)
    refine ⟨⟨(World.cell?_of_block (a := ⟨b, o + i * 4, none⟩) hbb).trans c0, (World.cell?_of_block (a := ⟨b, o + i * 4 + 1, none⟩) hbb).trans c1, (World.cell?_of_block (a := ⟨b, o + i * 4 + 2, none⟩) hbb).trans c2, (World.cell?_of_block (a := ⟨b, o + i * 4 + 3, none⟩) hbb).trans c3⟩, ?_⟩
    exact InF.move hin fun x hx => hb x (List.mem_append_right _ (mem_blockss hi hx))⟩

theorem In.move {w w' : World} {t : VT} (h : In w t) (hb : ∀ b ∈ t.blocks, w'.heap[b]? = w.heap[b]?) : In w' t := ⟨h.choose, h.choose_spec.move hb⟩

/-- A value made of its parts. -/
theorem In.mk {w : World} {t : VT} (h1 : -9223372036854775808 ≤ t.kind ∧ t.kind ≤ 9223372036854775807) (h2 : -9223372036854775808 ≤ t.num ∧ t.num ≤ 9223372036854775807) (h3 : t.str.size ≤ 140737488351232) (h4 : t.els.length * 48 ≤ 140737488351232)
    (h5 : t.els ≠ [] → ∃ b o, t.adr = some ⟨b, o, none⟩) (h6 : ∀ i (h : i < t.els.length) b o, t.adr = some ⟨b, o, none⟩ → At w b (o + i * 4) t.els[i] ∧ In w t.els[i]) : In w t := by
  have mono : ∀ {f g : Nat} {w : World} {t : VT}, f ≤ g → InF f w t → InF g w t := by
    intro f
    induction f with
    | zero => intro g w t _ h; exact h.elim
    | succ f ih =>
      intro g w t hg h
      cases g with
      | zero => omega
      | succ g => exact ⟨h.1, h.2.1, h.2.2.1, h.2.2.2.1, h.2.2.2.2.1, fun i hi b o e => ⟨(h.2.2.2.2.2 i hi b o e).1, ih (by omega) (h.2.2.2.2.2 i hi b o e).2⟩⟩
  have big : ∃ g, ∀ i (h : i < t.els.length) b o, t.adr = some ⟨b, o, none⟩ → InF g w t.els[i] := by
    have : ∀ m, ∃ g, ∀ i (h : i < t.els.length) b o, i < m → t.adr = some ⟨b, o, none⟩ → InF g w t.els[i] := by
      intro m
      induction m with
      | zero => exact ⟨0, fun i _ _ _ h => by omega⟩
      | succ m ih =>
        obtain ⟨g, hg⟩ := ih
        by_cases hm : m < t.els.length
        · cases ha : t.adr with
          | none => exact ⟨0, fun i _ b o _ e => by cases e⟩
          | some p =>
            obtain ⟨b, o, s⟩ := p
            cases s with
            | some s => exact ⟨0, fun i _ b o _ e => by simp at e⟩
            | none =>
            obtain ⟨g2, h2⟩ := (h6 m hm b o ha).2
            refine ⟨max g g2, fun i hi b' o' hlt e => ?_⟩
            by_cases he : i = m
            · subst he; exact mono (Nat.le_max_right _ _) h2
            · exact mono (Nat.le_max_left _ _) (hg i hi b' o' (by omega) (by rw [ha]; exact e))
        · exact ⟨g, fun i hi b o hlt e => hg i hi b o (by omega) e⟩
    obtain ⟨g, hg⟩ := this t.els.length
    exact ⟨g, fun i h b o e => hg i h b o h e⟩
  obtain ⟨g, hg⟩ := big
  exact ⟨g + 1, h1, h2, h3, h4, h5, fun i h b o e => ⟨(h6 i h b o e).1, hg i h b o e⟩⟩

theorem szs_le_encs_of {l : List VT} (h : ∀ t ∈ l, t.sz ≤ t.enc.length) : sz.szs l ≤ (enc.encs l).length := by
  induction l with
  | nil => simp [sz.szs, enc.encs]
  | cons t r ih =>
    have h1 := h t (by simp)
    have h2 := ih fun x hx => h x (List.mem_cons_of_mem _ hx)
    simp only [sz.szs, enc.encs, List.length_append]
    omega

theorem sz_eq (t : VT) : t.sz = 1 + sz.szs t.els := by cases t; rfl

theorem wfs_mem {l : List VT} (h : wf.wfs l = true) {t : VT} (ht : t ∈ l) : t.wf = true := by
  obtain ⟨i, hi, rfl⟩ := List.getElem_of_mem ht
  exact wfs_iff.1 h i hi

theorem sz_le_enc : ∀ (N : Nat) (t : VT), t.sz ≤ N → t.wf = true → t.sz ≤ t.enc.length := by
  intro N
  induction N with
  | zero => intro t h; cases t; simp [sz] at h
  | succ N ih =>
    intro t h hw
    rw [sz_eq, enc_eq]
    rcases wf_kind hw with ⟨k, s0, l0⟩ | ⟨k, n0, l0⟩ | ⟨k, n0, s0, w0⟩
    · simp [k, l0, sz.szs]
    · simp [k, l0, sz.szs]
    · have := szs_le_encs_of (l := t.els) fun x hx => by
        obtain ⟨i, hi, rfl⟩ := List.getElem_of_mem hx
        exact ih _ (by have := sz_lt hi; omega) (wfs_iff.1 w0 i hi)
      simp [k]
      omega

theorem deps_get {l : List VT} {i : Nat} (h : i < l.length) : (l[i]).dep ≤ dep.deps l := by
  induction l generalizing i with
  | nil => simp at h
  | cons t r ih =>
    cases i with
    | zero => simp only [dep.deps, List.getElem_cons_zero]; omega
    | succ i => have := ih (i := i) (by simpa using h); simp only [dep.deps, List.getElem_cons_succ]; omega

theorem deps_le_of {l : List VT} {d : Nat} (h : ∀ i (h : i < l.length), (l[i]).dep ≤ d) : dep.deps l ≤ d := by
  induction l with
  | nil => simp [dep.deps]
  | cons t r ih =>
    have h0 := h 0 (by simp)
    have h1 := ih fun i hi => h (i + 1) (by simpa using hi)
    simp only [List.getElem_cons_zero] at h0
    simp only [dep.deps]
    omega

theorem fitss_iff {l : List VT} : fits.fitss l ↔ ∀ i (h : i < l.length), (l[i]).fits := by
  refine ⟨fun h => ?_, fitss_of⟩
  induction l with
  | nil => intro i hi; simp at hi
  | cons t r ih =>
    intro i hi
    cases i with
    | zero => exact h.1
    | succ i => exact ih h.2 i (by simpa using hi)

theorem encs_append (l m : List VT) : enc.encs (l ++ m) = enc.encs l ++ enc.encs m := by
  induction l with
  | nil => simp [enc.encs]
  | cons t r ih => simp [enc.encs, ih]

/-- A row of elements that was read, and what follows: any row that begins so goes on so. -/
theorem encs_rest {l m : List VT} {cur r : List UInt8} (hlt : l.length < m.length) (hw : wf.wfs l = true) (hw' : wf.wfs m = true) (hf : fits.fitss l) (hf' : fits.fitss m) (h : enc.encs l ++ cur = enc.encs m ++ r) :
    cur = (m[l.length]).enc ++ (enc.encs (m.drop (l.length + 1)) ++ r) := by
  have hm : m = m.take l.length ++ m[l.length] :: m.drop (l.length + 1) := by
    rw [← List.drop_eq_getElem_cons hlt, List.take_append_drop]
  have he : enc.encs m = enc.encs (m.take l.length) ++ ((m[l.length]).enc ++ enc.encs (m.drop (l.length + 1))) := by
    have h2 := congrArg enc.encs hm
    rw [encs_append] at h2
    exact h2
  rw [he, List.append_assoc, List.append_assoc] at h
  have hmw := wfs_iff.1 hw'
  have hmf := fitss_iff.1 hf'
  have htl : (m.take l.length).length = l.length := by rw [List.length_take]; omega
  exact (encs_prefix l (m.take l.length) _ _ (fun t ht u q q' a b c d e => enc_prefix _ t u q q' (Nat.le_refl _) a b c d e) (by omega) hw
    (wfs_iff.2 fun i hi => by rw [List.getElem_take]; exact hmw i (by omega)) hf (fitss_of fun i hi => by rw [List.getElem_take]; exact hmf i (by omega)) h).2
end VT
end Go.Proofs.Ytccdencaidopnaa
