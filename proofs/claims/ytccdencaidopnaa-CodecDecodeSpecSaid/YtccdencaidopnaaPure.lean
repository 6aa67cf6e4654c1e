/- Equal values have equal encodings, and no encoding is the beginning of another one. Plain mathematics over the trees. -/
import Derived.Test.YtccdencaidopnaaSame
import Derived.Test.YtccdencaidopnaaNum2
import Derived.Lib.Strings
namespace Go.Proofs.Ytccdencaidopnaa
open Go.RowKit

namespace VT
/-- All numbers and lengths are in range. -/
def fits : VT → Prop
  | .mk _ n s _ _ l => (-9223372036854775808 ≤ n ∧ n ≤ 9223372036854775807) ∧ s.size ≤ 140737488351232 ∧ l.length * 48 ≤ 140737488351232 ∧ fitss l
where fitss : List VT → Prop
  | [] => True
  | t :: r => fits t ∧ fitss r

theorem fits_eq (t : VT) : t.fits = ((-9223372036854775808 ≤ t.num ∧ t.num ≤ 9223372036854775807) ∧ t.str.size ≤ 140737488351232 ∧ t.els.length * 48 ≤ 140737488351232 ∧ fits.fitss t.els) := by cases t; rfl

theorem fitss_of {l : List VT} (h : ∀ i (h : i < l.length), (l[i]).fits) : fits.fitss l := by
  induction l with
  | nil => trivial
  | cons t r ih => exact ⟨h 0 (by simp), ih fun i hi => h (i + 1) (by simpa using hi)⟩

theorem In.fits : ∀ (N : Nat) {w : World} {t : VT}, t.sz ≤ N → t.In w → t.fits := by
  intro N
  induction N with
  | zero => intro w t h; cases t; simp [sz] at h
  | succ N ih =>
    intro w t h hin
    obtain ⟨_, hn, hs, hl⟩ := hin.facts
    rw [fits_eq]
    refine ⟨hn, hs, hl, fitss_of fun i hi => ?_⟩
    obtain ⟨b, o, ha⟩ := hin.adr (by omega)
    exact ih (by have := sz_lt hi; omega) (hin.el ha hi).2

theorem str_eq {s u : ByteArray} (h : (s.toList == u.toList) = true) : s = u := by
  have h := eq_of_beq h
  rw [Lib.toList_data, Lib.toList_data] at h
  cases s; cases u
  simp only [ByteArray.mk.injEq]
  exact Array.toList_inj.1 h

theorem str_beq {s u : ByteArray} (h : s.data.toList = u.data.toList) : (s.toList == u.toList) = true := by
  rw [Lib.toList_data, Lib.toList_data, h]; simp

mutual
theorem same_enc (t u : VT) (h : t.same u = true) : t.enc = u.enc := by
  match t, u with
  | .mk k n s a c l, .mk k' n' s' a' c' l' =>
    rw [same_eq] at h
    simp only [kind, num, str, els, Bool.and_eq_true, beq_iff_eq] at h
    obtain ⟨⟨⟨rfl, rfl⟩, h3⟩, h4⟩ := h
    obtain rfl : s = s' := str_eq (by simpa using h3)
    have hl := sames_len h4
    have he := sames_enc l l' h4
    rw [enc_eq (.mk k n s a c l), enc_eq (.mk k n s a' c' l')]
    simp only [kind, num, str, els, ← hl, ← he]
    rfl
theorem sames_enc (l m : List VT) (h : same.sames l m = true) : enc.encs l = enc.encs m := by
  match l, m with
  | [], [] => rfl
  | [], _ :: _ => simp [same.sames] at h
  | _ :: _, [] => simp [same.sames] at h
  | t :: r, u :: q =>
    simp only [same.sames, Bool.and_eq_true] at h
    simp only [enc.encs]
    rw [same_enc t u h.1, sames_enc r q h.2]
end

theorem uns_inj {a b : Int} (h : uns a = uns b) : a = b := by
  unfold uns at h
  split at h <;> split at h <;> omega

theorem wf_kind {t : VT} (h : t.wf = true) : (t.kind = 1 ∧ t.str.toList = [] ∧ t.els = []) ∨ (t.kind = 2 ∧ t.num = 0 ∧ t.els = []) ∨ (t.kind = 3 ∧ t.num = 0 ∧ t.str.toList = [] ∧ wf.wfs t.els = true) := by
  rw [wf_eq, len_beq] at h
  by_cases h1 : t.kind = 1
  · simp [h1] at h; exact .inl ⟨h1, h⟩
  · by_cases h2 : t.kind = 2
    · simp [h2] at h; exact .inr (.inl ⟨h2, h⟩)
    · by_cases h3 : t.kind = 3
      · simp [h3] at h; exact .inr (.inr ⟨h3, h.1.1, h.1.2, h.2⟩)
      · simp [h1, h2, h3] at h

theorem encs_prefix : ∀ (l m : List VT) (r r' : List UInt8), (∀ t ∈ l, ∀ (u : VT) (q q' : List UInt8), t.wf = true → u.wf = true → t.fits → u.fits → t.enc ++ q = u.enc ++ q' → t.same u = true ∧ q = q') →
    l.length = m.length → wf.wfs l = true → wf.wfs m = true → fits.fitss l → fits.fitss m → enc.encs l ++ r = enc.encs m ++ r' → same.sames l m = true ∧ r = r'
  | [], [], r, r', _, _, _, _, _, _, h => ⟨rfl, by simpa [enc.encs] using h⟩
  | [], _ :: _, _, _, _, hl, _, _, _, _, _ => by simp at hl
  | _ :: _, [], _, _, _, hl, _, _, _, _, _ => by simp at hl
  | t :: l, u :: m, r, r', ih, hl, hw, hw', hf, hf', h => by
    simp only [wf.wfs, Bool.and_eq_true] at hw hw'
    simp only [enc.encs, List.append_assoc] at h
    obtain ⟨h1, h2⟩ := ih t (by simp) u _ _ hw.1 hw'.1 hf.1 hf'.1 h
    obtain ⟨h3, h4⟩ := encs_prefix l m r r' (fun x hx => ih x (List.mem_cons_of_mem _ hx)) (by simpa using hl) hw.2 hw'.2 hf.2 hf'.2 h2
    exact ⟨by simp [same.sames, h1, h3], h4⟩

theorem enc_prefix : ∀ (N : Nat) (t u : VT) (r r' : List UInt8), t.sz ≤ N → t.wf = true → u.wf = true → t.fits → u.fits → t.enc ++ r = u.enc ++ r' → t.same u = true ∧ r = r' := by
  intro N
  induction N with
  | zero => intro t u r r' h; cases t; simp [sz] at h
  | succ N ih =>
    intro t u r r' hN hw hw' hf hf' h
    rw [fits_eq] at hf hf'
    obtain ⟨hn, hs, hl, hfs⟩ := hf
    obtain ⟨hn', hs', hl', hfs'⟩ := hf'
    have e := enc_eq t
    have e' := enc_eq u
    have hu := uns_lt hn.1 hn.2
    have hu' := uns_lt hn'.1 hn'.2
    rw [same_eq]
    rcases wf_kind hw with ⟨k, s0, l0⟩ | ⟨k, n0, l0⟩ | ⟨k, n0, s0, w0⟩ <;> rcases wf_kind hw' with ⟨k', s0', l0'⟩ | ⟨k', n0', l0'⟩ | ⟨k', n0', s0', w0'⟩ <;> simp [k] at e <;> simp [k'] at e' <;> rw [e, e'] at h <;> simp only [List.cons_append, List.cons.injEq] at h
    · obtain ⟨h1, h2⟩ := numeral_prefix hu hu' h.2
      exact ⟨by simp [k, k', s0, s0', l0, l0', uns_inj h1, same.sames], h2⟩
    · exact absurd h.1 (by decide)
    · exact absurd h.1 (by decide)
    · exact absurd h.1 (by decide)
    · have h2 := h.2
      rw [List.append_assoc, List.append_assoc] at h2
      obtain ⟨h3, h4⟩ := numeral_prefix (by omega) (by omega) h2
      obtain ⟨h5, h6⟩ := List.append_inj h4 (by rw [Array.length_toList, Array.length_toList]; exact h3)
      exact ⟨by simp only [k, k', n0, n0', l0, l0', same.sames, str_beq h5]; simp, h6⟩
    · exact absurd h.1 (by decide)
    · exact absurd h.1 (by decide)
    · exact absurd h.1 (by decide)
    · have h2 := h.2
      rw [List.append_assoc, List.append_assoc] at h2
      obtain ⟨h3, h4⟩ := numeral_prefix (by omega) (by omega) h2
      obtain ⟨h5, h6⟩ := encs_prefix t.els u.els r r' (fun x hx v q q' a b c d f => by
        obtain ⟨i, hi, rfl⟩ := List.getElem_of_mem hx
        exact ih _ v q q' (by have := sz_lt hi; omega) a b c d f) h3 w0 w0' hfs hfs' h4
      exact ⟨by simp [k, k', n0, n0', s0, s0', h5], h6⟩
end VT
end Go.Proofs.Ytccdencaidopnaa
