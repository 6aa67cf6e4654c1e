/- Lists of links in memory; the head. -/
import Derived.Test.YtalgceplcahgbaaDoorLnk
import Derived.Test.YtalgceplcahgbaaDoorLawBase
import Derived.Test.YtalgceplcahgbaaDoorInvC
import Derived.Deep.Cut
namespace Go.Proofs.YtalgceplcahgbaaDoor
open Go.RowKit Go.Shelf

/-- Links in a row. -/
structure Lks (w : World) (A : Option Addr) (l : List Lr) : Prop where
  cel : l ≠ [] → ∃ b o, A = some ⟨b, o, none⟩ ∧ b < w.heap.size ∧ ∀ i (h : i < l.length), w.rangeAt b (o + i * 35) (l[i]).cs
  each : ∀ r ∈ l, r.In w
theorem range_below {w w' : World} {b o : Nat} {cs : List Value} (h : w.rangeAt b o cs) (hb : Below w.heap.size w w') (hlt : b < w.heap.size) : w'.rangeAt b o cs := fun j v hv => (hb.cell (p := ⟨b, o + j, none⟩) hlt).trans (h j v hv)
theorem Lks.below {w w' : World} {A : Option Addr} {l : List Lr} (h : Lks w A l) (hb : Below w.heap.size w w') : Lks w' A l :=
  ⟨fun hn => by
    obtain ⟨b, o, h1, h2, h3⟩ := h.cel hn
    exact ⟨b, o, h1, Nat.lt_of_lt_of_le h2 hb.size, fun i hi => range_below (h3 i hi) hb h2⟩, fun r hr => (h.each r hr).below hb⟩
theorem Lks.at {w : World} {A : Option Addr} {l : List Lr} (h : Lks w A l) {k : Nat} (hk : k < l.length) : ∃ b o, A = some ⟨b, o, none⟩ ∧ b < w.heap.size ∧ w.rangeAt b (o + k * 35) (l[k]).cs ∧ (l[k]).In w := by
  obtain ⟨b, o, h1, h2, h3⟩ := h.cel (by intro e; subst e; simp at hk)
  exact ⟨b, o, h1, h2, h3 k hk, h.each _ (List.getElem_mem _)⟩
theorem Lks.take {w : World} {A : Option Addr} {l : List Lr} (h : Lks w A l) (n : Nat) : Lks w A (l.take n) :=
  ⟨fun hn => by
    have hne : l ≠ [] := by intro e; subst e; simp at hn
    obtain ⟨b, o, h1, h2, h3⟩ := h.cel hne
    refine ⟨b, o, h1, h2, fun i hi => ?_⟩
    rw [List.length_take] at hi
    rw [List.getElem_take]
    exact h3 i (by omega), fun r hr => h.each r (List.mem_of_mem_take hr)⟩
theorem Lks.nil (w : World) (A : Option Addr) : Lks w A [] := ⟨fun h => absurd rfl h, fun r hr => by cases hr⟩
def lnks (l : List Lr) : List Ln := l.map (·.x)
theorem lnks_len (l : List Lr) : (lnks l).length = l.length := by simp [lnks]
/-- The data are short enough to be hashed. -/
def Short (l : List Lr) : Prop := ∀ r ∈ l, r.x.data.length ≤ 1000000
theorem Short.take {l : List Lr} (h : Short l) (n : Nat) : Short (l.take n) := fun r hr => h r (List.mem_of_mem_take hr)

def hd0 : List UInt8 := tagd [110, 111, 110, 101] []
def hdL (x : Ln) : List UInt8 := tagd [108, 105, 110, 107] (lenc x)
abbrev hdA (l : List Ln) : List UInt8 := headL hd0 hdL l
theorem tagd_32 (s l : List UInt8) : (tagd s l).length = 32 := by unfold tagd; exact sha_len _
theorem hdA_32 (l : List Ln) : (hdA l).length = 32 := by
  unfold hdA headL
  split
  · exact tagd_32 _ _
  · exact tagd_32 _ _
theorem digs_le : ∀ f u, (Cdc.digs f u).length ≤ f + 1
  | 0, u => by simp [Cdc.digs]
  | f + 1, u => by
    have := digs_le f (u / 128)
    unfold Cdc.digs
    split
    · simp
    · simp; omega
theorem num_le (u : Nat) : (Cdc.numeral u).length ≤ 10 := digs_le 9 u
theorem lenc_len (x : Ln) : (lenc x).length ≤ 100 + x.prev.length + x.data.length := by
  have h1 := num_le (Cdc.uns x.node)
  have h2 := num_le (Cdc.uns x.no)
  have h3 := num_le (str x.prev).size
  have h4 := num_le (str x.data).size
  have h5 := num_le 4
  unfold str at h3 h4
  simp [lenc, lnkT, Cdc.VT.enc, Cdc.VT.enc.encs, Cdc.intT, Cdc.textT]
  omega
theorem Tryd.size60 : (Tryd.prog.info? 60).map (·.size) = some 35 := by kernel_rfl
theorem size60 {w : World} {r : Lr} (h : r.In w) : (Tryd.prog.info? 60).map (·.size) = some r.cs.length := by rw [Lr.cs_len h]; exact Tryd.size60
theorem headL_last {l : List Lr} (h : l ≠ []) : hdA (lnks l) = hdL (l.getLast h).x := by
  unfold hdA headL lnks
  rw [List.getLast?_map, List.getLast?_eq_some_getLast h]
  rfl
set_option maxRecDepth 20000 in
set_option maxHeartbeats 3200000 in
theorem head_any (A : Option Addr) (l : List Lr) (cap : Nat) (w : World) (hT : Tab w) (hl : Lks w A l) (hc : l.length ≤ cap) (hc2 : cap ≤ 9223372036854775807) (hs : Short l) :
    Calls Tryd.prog 37 #[.slice A l.length cap] w fun e w' => e = .returned (dv (hdA (lnks l))) ∧ Below w.heap.size w w' := by
  have HT := hide hT
  have HL := hide hl
  have HX := hide (Blk.new w 26 (List.replicate 32 (.int .u8 0)))
  have HB := hide (below_new w (.cells (List.replicate 32 (.int .u8 0)).toArray 26))
  have HZ := hide (fun (r : List UInt8) (hr : r.length = 32) => show (Tryd.prog.info? 26).map (·.size) = some ((bc r).toArray).size by rw [dv_size _ hr]; exact Tryd.size26)
  clear hT hl
  by_cases h0 : l = []
  · subst h0
    have HG := hide (tagged_any ⟨#[110, 111, 110, 101]⟩ none 0 0 [] _ (HT.out.below HB.out) (fun h => absurd rfl h) rfl (by omega) (by decide) (fun _ => rfl))
    have H32 := hide (hdA_32 [])
    go_enter Tryd.func37, Tryd.ntmps37
    go_wp2_with fail
    refine HG.out.mono ?_
    rintro e w1 ⟨rfl, hb⟩
    have HX1 := hide (HX.out.below hb HX.out.lt)
    have HB1 := hide (below_one HB.out hb)
    have HD := hide (show hdA (lnks []) = tagd [110, 111, 110, 101] [] from rfl)
    clear hb HX HB HG
    go_wp2_with (refine wpList_store_row rfl 26 (.tmp 2) (.tmp 6) rfl w.heap.size (bc (tagd [110, 111, 110, 101] [])).toArray rfl rfl 26 _ HX1.out (HZ.out _ (tagd_32 _ _)) (by rw [dv_size _ (tagd_32 _ _)]; rfl) (all_oneCell_toArray (bc_one _)) ?_)
    refine bodyPost_ret (v := dv (tagd [110, 111, 110, 101] [])) (results_cell_row rfl _ _ w.heap.size 26 _ (0, 0) _ rfl (setRow_heap _ _ _ _ _ _ HX1.out) Tryd.underlying26 rfl (HZ.out _ (tagd_32 _ _))) rfl ?_
    exact ⟨by rw [HD.out], below_setRow HB1.out (Nat.le_refl _) _⟩
  · have hp : 0 < l.length := List.length_pos_iff.2 h0
    have HLA := hide (headL_last h0)
    have hp' : ¬ ((l.length : Nat) : Int) = 0 := by omega
    have hpb : (((l.length : Nat) : Int) == 0) = false := by simp; omega
    have hsub : IntKind.i64.wrap (((l.length : Nat) : Int) - 1) = ((l.length - 1 : Nat) : Int) := by rw [IntWalk.i64_in _ (by omega)]; omega
    have hlt : ((l.length - 1 : Nat) : Int) < ((l.length : Nat) : Int) := by omega
    have HLT := hide (show l.length - 1 < l.length by omega)
    go_enter Tryd.func37, Tryd.ntmps37
    go_upto_region 3 with fail
    refine name_code ?_
    intro w1 hW
    have HX1 := hide (show Blk w1 w.heap.size 26 (List.replicate 32 (.int .u8 0)) from by rw [hW.out]; exact HX.out)
    have HB1 := hide (show Below w.heap.size w w1 from by rw [hW.out]; exact HB.out)
    clear hW HX HB
    obtain ⟨b, o, rfl, hb0, hrg, hin⟩ := (HL.out.below HB1.out).at HLT.out
    have HLG := hide (show l[l.length - 1] = l.getLast h0 from (List.getLast_eq_getElem h0).symm)
    have HSH := hide (hs _ (List.getElem_mem HLT.out))
    generalize hr : l[l.length - 1]'HLT.out = r at *
    clear hr
    have HR := hide hin
    have HRG := hide hrg
    clear hin hrg hb0
    have HP := hide (lenc_len r.x)
    go_wp2_with (refine wpList_load_mid rfl 60 (.tmp 11) rfl b (o + (l.length - 1) * 35) rfl r.cs _ HRG.out Tryd.underlying60 rfl (size60 HR.out) ?_)
    refine (linkText_any r w1 HR.out (by have := HP.out; have := HSH.out; have := HR.out.p32; omega) (by have := HSH.out; omega)).mono ?_
    rintro e w2 ⟨A2, c2, rfl, h1, h2, h3, h4, hb⟩
    have HX2 := hide (HX1.out.below hb HX1.out.lt)
    have HB2 := hide (below_one HB1.out hb)
    have HS2 := hide (And.intro h1 h4)
    clear hb HX1 HB1 h1 h2 h3 h4
    go_wp2_with fail
    refine (tagged_any ⟨#[108, 105, 110, 107]⟩ A2 (lenc r.x).length c2 (lenc r.x) w2 (HT.out.below HB2.out) HS2.out.1 rfl (by have := HP.out; have := HSH.out; have := HR.out.p32; omega) (by decide) HS2.out.2).mono ?_
    rintro e w3 ⟨rfl, hb⟩
    have HX3 := hide (HX2.out.below hb HX2.out.lt)
    have HB3 := hide (below_one HB2.out hb)
    have HD := hide (show hdA (lnks l) = tagd [108, 105, 110, 107] (lenc r.x) by rw [HLA.out, ← HLG.out]; rfl)
    clear hb HX2 HB2
    go_wp2_with (refine wpList_store_row rfl 26 (.tmp 2) (.tmp 14) rfl w.heap.size (bc (tagd [108, 105, 110, 107] (lenc r.x))).toArray rfl rfl 26 _ HX3.out (HZ.out _ (tagd_32 _ _)) (by rw [dv_size _ (tagd_32 _ _)]; rfl) (all_oneCell_toArray (bc_one _)) ?_)
    refine bodyPost_ret (v := dv (tagd [108, 105, 110, 107] (lenc r.x))) (results_cell_row rfl _ _ w.heap.size 26 _ (0, 0) _ rfl (setRow_heap _ _ _ _ _ _ HX3.out) Tryd.underlying26 rfl (HZ.out _ (tagd_32 _ _))) rfl ?_
    exact ⟨by rw [HD.out], below_setRow HB3.out (Nat.le_refl _) _⟩
end Go.Proofs.YtalgceplcahgbaaDoor
