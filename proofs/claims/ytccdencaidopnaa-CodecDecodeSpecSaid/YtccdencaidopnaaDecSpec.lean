/- CodecDecodeSpec: the walk. -/
import Derived.Test.YtccdencaidopnaaRDec
import Derived.Test.YtccdencaidopnaaSane2
import Derived.Test.YtccdencaidopnaaRSame
namespace Go.Proofs.Ytccdencaidopnaa
open Go.RowKit Go.Deep

/-- The value that comes with an error. -/
def zeroT : VT := .mk 0 0 ⟨#[]⟩ none 0 []
theorem zeroT_in (w : World) : zeroT.In w := by
  unfold zeroT
  exact VT.In.mk (by simp [VT.kind]) (by simp [VT.num]) (by simp [VT.str, ByteArray.size]) (by simp [VT.els]) (by simp [VT.els]) (by intro i h; simp [VT.els] at h)

/-- The block of a value. -/
def Bx (w : World) (X : Nat) (t : VT) : Prop := w.heap[X]? = some (.cells #[.int .i64 t.kind, .int .i64 t.num, .string t.str, .slice t.adr t.els.length t.cap] 24 (0, 0))
theorem Bx.below {w w' : World} {X : Nat} {t : VT} (h : Bx w X t) (hb : Below w.heap.size w w') : Bx w' X t := (hb.block _ (Array.getElem?_eq_some_iff.1 h).1).trans h
theorem Bx.cells {w : World} {X : Nat} {t : VT} (h : Bx w X t) : (w.cell? ⟨X, 0, none⟩ = some (.int .i64 t.kind) ∧ w.cell? ⟨X, 1, none⟩ = some (.int .i64 t.num) ∧ w.cell? ⟨X, 2, none⟩ = some (.string t.str) ∧ w.cell? ⟨X, 3, none⟩ = some (.slice t.adr t.els.length t.cap)) ∧ ∀ i, w.frozen? ⟨X, i, none⟩ = false :=
  ⟨⟨by rw [cell_of_row w X 0 _ _ _ h]; rfl, by rw [cell_of_row w X 1 _ _ _ h]; rfl, by rw [cell_of_row w X 2 _ _ _ h]; rfl, by rw [cell_of_row w X 3 _ _ _ h]; rfl⟩, fun i => frozen_of_row w X i _ _ h⟩

/-- Decode's answers in one form. -/
def DecOne (l : List UInt8) (t : VT) (r : Int) : Prop :=
  (r = 0 ∧ t.wf = true ∧ t.dep ≤ 16 ∧ t.fits ∧ l = t.enc) ∨ (r = 10 ∧ t = zeroT ∧ ∀ u : VT, u.wf = true → u.dep ≤ 16 → u.fits → l ≠ u.enc)
theorem DecPost.one {l : List UInt8} {w w' : World} {e : Ending} (h : DecPost l w e w') : ∃ (t : VT) (r : Int), e = .returned (.tuple #[t.val, .int .i64 r]) ∧ t.In w' ∧ Below w.heap.size w w' ∧ DecOne l t r := by
  obtain ⟨⟨t, rfl, hin, hw, hd, hl⟩ | ⟨rfl, hno⟩, hb⟩ := h
  · exact ⟨t, 0, rfl, hin, hb, .inl ⟨rfl, hw, hd, VT.In.fits _ (Nat.le_refl _) hin, hl⟩⟩
  · exact ⟨zeroT, 10, by rw [VT.val]; rfl, zeroT_in _, hb, .inr ⟨rfl, rfl, hno⟩⟩
theorem DecOne.both {l : List UInt8} {t u : VT} {r r' : Int} (h : DecOne l t r) (h' : DecOne l u r') : t.same u = true ∧ r = r' := by
  rcases h with ⟨rfl, h1, h2, h3, h4⟩ | ⟨rfl, rfl, hn⟩
  · rcases h' with ⟨rfl, k1, k2, k3, k4⟩ | ⟨rfl, rfl, hn⟩
    · exact ⟨(VT.enc_prefix _ t u [] [] (Nat.le_refl _) h1 k1 h3 k3 (by rw [← h4, ← k4])).1, rfl⟩
    · exact absurd h4 (hn t h1 h2 h3)
  · rcases h' with ⟨rfl, k1, k2, k3, k4⟩ | ⟨rfl, rfl, _⟩
    · exact absurd k4 (hn u k1 k2 k3)
    · exact ⟨by simp [zeroT, VT.same, VT.same.sames, VT.kind, VT.num, VT.str, VT.els], rfl⟩

set_option maxRecDepth 10000 in
set_option maxHeartbeats 4000000 in
theorem decodeSpec_walk (a : Option Addr) (l : List UInt8) (cap : Nat) (w : World) (h : Raw w a l cap) (h63 : l.length ≤ 9223372036854775807) : Calls Try.prog 4 #[.slice a l.length cap] w fun e w' => e = .returned (.bool true) ∧ Below w.heap.size w w' := by
  have HRAW := hide h
  clear h
  by_cases hl : l.length ≤ 2000
  · have c2 : decide ((2000 : Int) < (l.length : Int)) = false := by simp; omega
    go_enter Try.func4, Try.ntmps4
    go_wp2_with fail
    refine (sane_any _).mono ?_
    rintro e w1 ⟨rfl, hb⟩
    have HB1 := hide hb
    clear hb
    go_wp2_with fail
    refine (decode_raw a l cap w1 (HRAW.out.later HB1.out) (by omega)).mono ?_
    rintro e w2 he
    obtain ⟨t, r, rfl, hin, hb, hone⟩ := he.one
    have HB2 := hide (below_one HB1.out hb)
    have HT := hide (And.intro hin hone)
    rw [VT.val]
    clear he hin hb hone
    go_wp2_with fail
    have H3 : Hid (Bx (w2.alloc (.cells #[.int .i64 t.kind, .int .i64 t.num, .string t.str, .slice t.adr t.els.length t.cap] 24)) w2.heap.size t ∧ Below w.heap.size w (w2.alloc (.cells #[.int .i64 t.kind, .int .i64 t.num, .string t.str, .slice t.adr t.els.length t.cap] 24)) ∧ t.In (w2.alloc (.cells #[.int .i64 t.kind, .int .i64 t.num, .string t.str, .slice t.adr t.els.length t.cap] 24))) := hide ⟨heap_alloc_new w2 _, below_one HB2.out (below_new _ _), HT.out.1.alloc _⟩
    generalize w2.alloc (.cells #[.int .i64 t.kind, .int .i64 t.num, .string t.str, .slice t.adr t.els.length t.cap] 24) = W3 at *
    refine (rdecode_any a l cap W3 (HRAW.out.later H3.out.2.1) (by omega)).mono ?_
    rintro e w4 he
    obtain ⟨u, r', rfl, hin, hb, hone⟩ := he.one
    obtain ⟨hsame, rfl⟩ := HT.out.2.both hone
    have HSM := hide hsame
    have H5 : Hid (Bx (w4.alloc (.cells #[.int .i64 u.kind, .int .i64 u.num, .string u.str, .slice u.adr u.els.length u.cap] 24)) w2.heap.size t ∧ Bx (w4.alloc (.cells #[.int .i64 u.kind, .int .i64 u.num, .string u.str, .slice u.adr u.els.length u.cap] 24)) w4.heap.size u ∧ Below w.heap.size w (w4.alloc (.cells #[.int .i64 u.kind, .int .i64 u.num, .string u.str, .slice u.adr u.els.length u.cap] 24)) ∧ t.In (w4.alloc (.cells #[.int .i64 u.kind, .int .i64 u.num, .string u.str, .slice u.adr u.els.length u.cap] 24)) ∧ u.In (w4.alloc (.cells #[.int .i64 u.kind, .int .i64 u.num, .string u.str, .slice u.adr u.els.length u.cap] 24))) := by
      have h4 := below_one hb (below_new w4 (.cells #[.int .i64 u.kind, .int .i64 u.num, .string u.str, .slice u.adr u.els.length u.cap] 24))
      exact hide ⟨H3.out.1.below h4, heap_alloc_new w4 _, below_one H3.out.2.1 h4, H3.out.2.2.below h4 (Nat.le_refl _), hin.alloc _⟩
    rw [VT.val]
    clear he hin hb hone hsame H3 HT
    obtain ⟨⟨x0, x1, x2, x3⟩, xf⟩ := H5.out.1.cells
    obtain ⟨⟨y0, y1, y2, y3⟩, yf⟩ := H5.out.2.1.cells
    go_wp2_with fail
    have hs := rsame_any _ t u (Nat.le_refl _) _ H5.out.2.2.2.1 H5.out.2.2.2.2
    rw [VT.val, VT.val, HSM.out] at hs
    refine hs.mono ?_
    clear hs
    rintro e w6 ⟨rfl, hb⟩
    have HBF := hide (below_one H5.out.2.2.1 hb)
    have hrr : (r == r) = true := by simp
    clear hb
    go_wp2_with fail
    go_ret
    exact ⟨rfl, HBF.out⟩
  · have c2 : decide ((2000 : Int) < (l.length : Int)) = true := by simp; omega
    go_enter Try.func4, Try.ntmps4
    go_wp2_with fail
    refine (sane_any _).mono ?_
    rintro e w1 ⟨rfl, hb⟩
    have HB1 := hide hb
    clear hb
    go_wp2_with fail
    go_ret
    exact ⟨rfl, HB1.out⟩
end Go.Proofs.Ytccdencaidopnaa
