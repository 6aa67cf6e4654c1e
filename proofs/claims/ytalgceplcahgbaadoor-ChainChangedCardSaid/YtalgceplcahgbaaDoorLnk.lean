/- Links in memory; the text of a link. -/
import Derived.Test.YtalgceplcahgbaaDoorChn
import Derived.Test.YtalgceplcahgbaaDoorCSane
import Derived.Test.YtalgceplcahgbaaDoorAppF
import Derived.Test.YtalgceplcahgbaaDoorBrg
import Derived.Shelf.Bytes.SlSmallAll
namespace Go.Proofs.YtalgceplcahgbaaDoor
open Go.RowKit Go.Shelf

/-- A link with the place of its data. -/
structure Lr where
  x : Ln
  A : Option Addr
  cap : Nat
abbrev Lr.dv (r : Lr) : Value := .slice r.A r.x.data.length r.cap
/-- Its 35 cells. -/
def Lr.cs (r : Lr) : List Value := .int .i64 r.x.node :: .int .i64 r.x.no :: (bc r.x.prev ++ [r.dv])
structure Lr.In (w : World) (r : Lr) : Prop where
  p32 : r.x.prev.length = 32
  node : -9223372036854775808 ≤ r.x.node ∧ r.x.node ≤ 9223372036854775807
  no : -9223372036854775808 ≤ r.x.no ∧ r.x.no ≤ 9223372036854775807
  src : Src w r.A r.x.data.length r.cap r.x.data
  le : r.x.data.length ≤ r.cap
  top : r.cap ≤ 9223372036854775807
theorem Lr.In.below {w w' : World} {r : Lr} (h : r.In w) (hb : Below w.heap.size w w') : r.In w' := ⟨h.p32, h.node, h.no, h.src.below hb, h.le, h.top⟩
theorem Lr.cs_len {w : World} {r : Lr} (h : r.In w) : r.cs.length = 35 := by simp [Lr.cs, bc_len, h.p32]
theorem Lr.cs_one (r : Lr) : ∀ u ∈ r.cs, u.oneCell' = true := by
  intro u hu
  simp only [Lr.cs, List.mem_cons, List.mem_append, List.not_mem_nil, or_false] at hu
  rcases hu with rfl | rfl | hu | rfl
  · rfl
  · rfl
  · exact bc_one _ u hu
  · rfl
abbrev Lr.v (r : Lr) : Value := .agg r.cs.toArray
theorem Lr.c0 (r : Lr) : r.cs[0]? = some (.int .i64 r.x.node) := rfl
theorem Lr.c1 (r : Lr) : r.cs[1]? = some (.int .i64 r.x.no) := rfl
theorem Lr.c34 {w : World} {r : Lr} (h : r.In w) : r.cs[34]? = some r.dv := by
  have hl : (bc r.x.prev).length = 32 := by rw [bc_len, h.p32]
  show (bc r.x.prev ++ [r.dv])[32]? = _
  rw [List.getElem?_append_right (by omega), hl]
  rfl
theorem Lr.cp {w : World} {r : Lr} (h : r.In w) (j : Nat) (hj : j < 32) : r.cs[2 + j]? = (bc r.x.prev)[j]? := by
  have hl : (bc r.x.prev).length = 32 := by rw [bc_len, h.p32]
  have e : 2 + j = j + 1 + 1 := by omega
  rw [e]
  show (bc r.x.prev ++ [r.dv])[j]? = _
  exact List.getElem?_append_left (by omega)

/-- The text of a link: the encoding of a list of two numbers and two texts. -/
def lnkT (x : Ln) (a : Option Addr) (c : Nat) : Cdc.VT := .mk 3 0 ⟨#[]⟩ a c [Cdc.intT x.node, Cdc.intT x.no, Cdc.textT ⟨x.prev.toArray⟩, Cdc.textT ⟨x.data.toArray⟩]
def lenc (x : Ln) : List UInt8 := (lnkT x none 0).enc
theorem lnkT_enc (x : Ln) (a : Option Addr) (c : Nat) : (lnkT x a c).enc = lenc x := by simp [lenc, lnkT, Cdc.VT.enc]
theorem lnkT_chk (x : Ln) (a : Option Addr) (c : Nat) : Cdc.chk (lnkT x a c) = 0 := by
  simp [Cdc.chk, lnkT, Cdc.intT, Cdc.textT, Cdc.VT.wf, Cdc.VT.wf.wfs, Cdc.VT.dep, Cdc.VT.dep.deps]
theorem lnkT_sz (x : Ln) (a : Option Addr) (c : Nat) : (lnkT x a c).sz ≤ 1000000 := by
  simp [lnkT, Cdc.intT, Cdc.textT, Cdc.VT.sz, Cdc.VT.sz.szs]

set_option maxRecDepth 20000 in
theorem number_any (n : Int) (w : World) : Calls Tryd.prog 83 #[.int .i64 n] w fun e w' => e = .returned (.agg #[.int .i64 1, .int .i64 n, .string ⟨#[]⟩, .slice none 0 0]) ∧ Below w.heap.size w w' := by
  go_enter Tryd.func83, Tryd.ntmps83
  go_wp2_with fail
  exact bodyPost_ret (v := .agg #[.int .i64 1, .int .i64 n, .string ⟨#[]⟩, .slice none 0 0]) (by simp [results, Tryd.results83, go_sem]) rfl ⟨rfl, below_new _ _⟩

def str (l : List UInt8) : ByteArray := ⟨l.toArray⟩
theorem sb_conv {W : World} {A : Option Addr} {l : List UInt8} {cap : Nat} (h : Sb W A l) : (convert 22 9 (.slice A l.length cap)).run Tryd.prog W = .ok (.string (str l)) W := by
  cases l with
  | nil => exact run_convert_bytes_zero W 22 5 Tryd.underlying22 Tryd.underlying5 A cap 9 Tryd.underlying9
  | cons c l =>
    obtain ⟨b, o, e, hB⟩ := h (by simp)
    subst e
    refine run_convert_bytes_back (P := Tryd.prog) W 22 9 5 ⟨b, o, none⟩ cap (c :: l) Tryd.underlying22 Tryd.underlying5 Tryd.underlying9 fun j hj => ?_
    rw [Addr.add_mid]
    exact hB j hj
set_option maxRecDepth 20000 in
theorem text_any (A : Option Addr) (l : List UInt8) (cap : Nat) (w : World) (h : Sb w A l) : Calls Tryd.prog 84 #[.slice A l.length cap] w fun e w' => e = .returned (.agg #[.int .i64 2, .int .i64 0, .string (str l), .slice none 0 0]) ∧ Below w.heap.size w w' := by
  have hcv := sb_conv (cap := cap) (h.below (below_new w (.cells #[.int .i64 0, .int .i64 0, .string ⟨#[]⟩, .slice none 0 0] 106)))
  clear h
  generalize str l = s at *
  go_enter Tryd.func84, Tryd.ntmps84
  go_wp2_with fail
  exact bodyPost_ret (v := .agg #[.int .i64 2, .int .i64 0, .string s, .slice none 0 0]) (by simp [results, Tryd.results84, go_sem]) rfl ⟨rfl, below_new _ _⟩

/-- Bytes that a call hands back. -/
def ByP (l : List UInt8) (w : World) (e : Ending) (w' : World) : Prop :=
  ∃ (A : Option Addr) (cap : Nat), e = .returned (.slice A l.length cap) ∧ Sb w' A l ∧ l.length ≤ cap ∧ cap ≤ 9223372036854775807 ∧ (A = none → cap = 0) ∧ Below w.heap.size w w'
theorem bs_bc (l : List UInt8) : Cdc.bs l = bc l := rfl
theorem own_bytes {w : World} {base : Nat} {v : Value} {l : List UInt8} (h : w.ownsRow base 5 1 v l.length (bc l)) : ∃ (A : Option Addr) (cap : Nat), v = .slice A l.length cap ∧ Sb w A l ∧ l.length ≤ cap ∧ cap ≤ 9223372036854775807 ∧ (A = none → cap = 0) := by
  rcases h.2 with ⟨rfl, h0⟩ | ⟨g, cap, cur, rfl, hb, hg, hn, hcap, hsz, htake⟩
  · obtain rfl : l = [] := List.eq_nil_of_length_eq_zero h0
    exact ⟨none, 0, rfl, fun h => absurd rfl h, by simp, by omega, fun _ => rfl⟩
  · refine ⟨some ⟨g, 0, none⟩, cap, rfl, fun _ => ⟨g, 0, rfl, fun i hi => ?_⟩, hn, by unfold maxLen at hcap; omega, fun h => by cases h⟩
    have := World.ownsRow.cellAt h i (by omega)
    rw [Nat.zero_add, this, bc_get hi]
set_option maxRecDepth 20000 in
theorem together_any (x : Ln) (X : Nat) (w : World) (hin : (lnkT x (some ⟨X, 0, none⟩) 4).In w) (hlen : (lenc x).length ≤ 4294967296) : Calls Tryd.prog 82 #[.slice (some ⟨X, 0, none⟩) 4 4] w (ByP (lenc x) w) := by
  have HE := hide (Cdc.encode_any (lnkT x (some ⟨X, 0, none⟩) 4) w hin (lnkT_sz _ _ _) (by rw [lnkT_enc]; exact hlen))
  unfold Cdc.EncPost at HE
  rw [lnkT_chk, lnkT_enc] at HE
  clear hin
  go_enter Tryd.func82, Tryd.ntmps82
  go_wp2_with fail
  refine HE.out.mono ?_
  rintro e w' ⟨v, rfl, hb, ho⟩
  rw [if_pos trivial, bs_bc] at ho
  obtain ⟨A, cap, rfl, h1, h2, h3, h4⟩ := own_bytes ho
  clear ho HE
  go_wp2_with fail
  go_ret
  exact ⟨A, cap, rfl, h1, h2, h3, h4, hb⟩

/-- The four values, as cells. -/
def lnkC (x : Ln) : List Value := [.int .i64 1, .int .i64 x.node, .string ⟨#[]⟩, .slice none 0 0, .int .i64 1, .int .i64 x.no, .string ⟨#[]⟩, .slice none 0 0, .int .i64 2, .int .i64 0, .string (str x.prev), .slice none 0 0, .int .i64 2, .int .i64 0, .string (str x.data), .slice none 0 0]
theorem str_size (l : List UInt8) : (str l).size = l.length := by simp [str, ByteArray.size]
theorem lnkT_in (x : Ln) (Y : Nat) (w : World) (h : Blk w Y 106 (lnkC x)) (hn : -9223372036854775808 ≤ x.node ∧ x.node ≤ 9223372036854775807) (ho : -9223372036854775808 ≤ x.no ∧ x.no ≤ 9223372036854775807) (hp : x.prev.length ≤ 100000000) (hd : x.data.length ≤ 100000000) : (lnkT x (some ⟨Y, 0, none⟩) 4).In w := by
  refine Cdc.VT.In.mk (by simp [lnkT, Cdc.VT.kind]) (by simp [lnkT, Cdc.VT.num]) (by simp [lnkT, Cdc.VT.str, ByteArray.size]) (by simp [lnkT, Cdc.VT.els]) (fun _ => ⟨Y, 0, rfl⟩) ?_
  intro i hi b o e
  simp only [lnkT, Cdc.VT.adr, Option.some.injEq, Addr.mk.injEq, and_true] at e
  obtain ⟨rfl, rfl⟩ := e
  have hi' : i < 4 := hi
  match i, hi' with
  | 0, _ => exact ⟨⟨h.cell 0, h.cell 1, h.cell 2, h.cell 3⟩, Cdc.intT_in _ hn w⟩
  | 1, _ => exact ⟨⟨h.cell 4, h.cell 5, h.cell 6, h.cell 7⟩, Cdc.intT_in _ ho w⟩
  | 2, _ => exact ⟨⟨h.cell 8, h.cell 9, h.cell 10, h.cell 11⟩, Cdc.textT_in _ (by have := str_size x.prev; unfold str at this; omega) w⟩
  | 3, _ => exact ⟨⟨h.cell 12, h.cell 13, h.cell 14, h.cell 15⟩, Cdc.textT_in _ (by have := str_size x.data; unfold str at this; omega) w⟩

set_option maxRecDepth 20000 in
set_option maxHeartbeats 3200000 in
theorem linkText_any (r : Lr) (w : World) (hr : r.In w) (hlen : (lenc r.x).length ≤ 4294967296) (hd : r.x.data.length ≤ 100000000) : Calls Tryd.prog 66 #[r.v] w (ByP (lenc r.x) w) := by
  have HR := hide hr
  have HX := hide (Blk.new w 60 r.cs)
  have HB := hide (below_new w (.cells r.cs.toArray 60))
  have HZ := hide (show w.heap.size < (w.alloc (.cells r.cs.toArray 60)).heap.size by simp)
  clear hr
  go_enter Tryd.func66, Tryd.ntmps66
  go_wp2_with fail
  generalize hw1 : w.alloc (.cells r.cs.toArray 60) = w1 at *
  clear hw1
  refine wp_region_plan4 (fun W' => W'.cell? ⟨w.heap.size, 0, none⟩ = some (.int .i64 r.x.node) ∧ W'.cell? ⟨w.heap.size, 1, none⟩ = some (.int .i64 r.x.no) ∧ W'.cell? ⟨w.heap.size, 34, none⟩ = some r.dv) (.take 0 (.take 1 (.take 3 (.take 4 (.take 6 (.take 7 (.take 9 (.take 10 (.run 2 (.run 5 (.run 8 (.run 11 (.run 12 (.run 13 (.last 14 .done))))))))))))))) (by kernel_rfl) (by kernel_rfl) ⟨(HX.out.cell 0).trans r.c0, (HX.out.cell 1).trans r.c1, (HX.out.cell 34).trans (Lr.c34 HR.out)⟩ ?_
  (refine plan4_take (o := ?_) (v := ?_) (by simp only [List.getElem?_toArray, List.getElem?_cons_zero]; rfl) (yields_run (by rfl) ?_) ?_; rotate_left; (focus (intro w' hw'; obtain ⟨s0, s1, s2⟩ := hw'; go_simp <;> with_reducible rfl)); (simp only [Act.put, List.setIfInBounds_toArray, List.set_cons_zero, List.set_cons_succ]))
  (refine plan4_take (o := ?_) (v := ?_) (by simp only [List.getElem?_toArray, List.getElem?_cons_succ, List.getElem?_cons_zero]; rfl) (yields_run (by rfl) ?_) ?_; rotate_left; (focus (intro w' hw'; obtain ⟨s0, s1, s2⟩ := hw'; go_simp <;> with_reducible rfl)); (simp only [Act.put, List.setIfInBounds_toArray, List.set_cons_zero, List.set_cons_succ]))
  (refine plan4_take (o := ?_) (v := ?_) (by simp only [List.getElem?_toArray, List.getElem?_cons_succ, List.getElem?_cons_zero]; rfl) (yields_run (by rfl) ?_) ?_; rotate_left; (focus (intro w' hw'; obtain ⟨s0, s1, s2⟩ := hw'; go_simp <;> with_reducible rfl)); (simp only [Act.put, List.setIfInBounds_toArray, List.set_cons_zero, List.set_cons_succ]))
  (refine plan4_take (o := ?_) (v := ?_) (by simp only [List.getElem?_toArray, List.getElem?_cons_succ, List.getElem?_cons_zero]; rfl) (yields_run (by rfl) ?_) ?_; rotate_left; (focus (intro w' hw'; obtain ⟨s0, s1, s2⟩ := hw'; go_simp <;> with_reducible rfl)); (simp only [Act.put, List.setIfInBounds_toArray, List.set_cons_zero, List.set_cons_succ]))
  (refine plan4_take (o := ?_) (v := ?_) (by simp only [List.getElem?_toArray, List.getElem?_cons_succ, List.getElem?_cons_zero]; rfl) (yields_run (by rfl) ?_) ?_; rotate_left; (focus (intro w' hw'; obtain ⟨s0, s1, s2⟩ := hw'; go_simp <;> with_reducible rfl)); (simp only [Act.put, List.setIfInBounds_toArray, List.set_cons_zero, List.set_cons_succ]))
  (refine plan4_take (o := ?_) (v := ?_) (by simp only [List.getElem?_toArray, List.getElem?_cons_succ, List.getElem?_cons_zero]; rfl) (yields_run (by rfl) ?_) ?_; rotate_left; (focus (intro w' hw'; obtain ⟨s0, s1, s2⟩ := hw'; go_simp <;> with_reducible rfl)); (simp only [Act.put, List.setIfInBounds_toArray, List.set_cons_zero, List.set_cons_succ]))
  (refine plan4_take (o := ?_) (v := ?_) (by simp only [List.getElem?_toArray, List.getElem?_cons_succ, List.getElem?_cons_zero]; rfl) (yields_run (by rfl) ?_) ?_; rotate_left; (focus (intro w' hw'; obtain ⟨s0, s1, s2⟩ := hw'; go_simp <;> with_reducible rfl)); (simp only [Act.put, List.setIfInBounds_toArray, List.set_cons_zero, List.set_cons_succ]))
  (refine plan4_take (o := ?_) (v := ?_) (by simp only [List.getElem?_toArray, List.getElem?_cons_succ, List.getElem?_cons_zero]; rfl) (yields_run (by rfl) ?_) ?_; rotate_left; (focus (intro w' hw'; obtain ⟨s0, s1, s2⟩ := hw'; go_simp <;> with_reducible rfl)); (simp only [Act.put, List.setIfInBounds_toArray, List.set_cons_zero, List.set_cons_succ]))
  have HP := hide (fun (W : World) (h : Blk W w.heap.size 60 r.cs) => show Sb W (some ⟨w.heap.size, 2, none⟩) r.x.prev from fun _ => ⟨w.heap.size, 2, rfl, fun i hi => by
    have h32 := HR.out.p32
    rw [h.cell (2 + i), Lr.cp HR.out i (by omega), bc_get hi]⟩)
  refine plan4_run (o := ?_) (by simp only [List.getElem?_toArray, List.getElem?_cons_succ, List.getElem?_cons_zero]; rfl) ?_
  intro R' HK
  go_wp2_with fail
  refine (number_any r.x.node w1.drew).mono ?_
  rintro e v2 ⟨rfl, hb⟩
  have hb : Below w1.heap.size w1 v2 := ⟨hb.os, hb.tape, hb.output, hb.size, hb.block⟩
  have HB2 := hide (below_one HB.out hb)
  have HX2 := hide (HX.out.below hb HZ.out)
  clear hb HB HX
  go_wp2_with fail
  refine HK.out _ _ ⟨(HX2.out.cell 0).trans r.c0, (HX2.out.cell 1).trans r.c1, (HX2.out.cell 34).trans (Lr.c34 HR.out)⟩ ?_
  clear HK
  refine plan4_run (o := ?_) (by simp only [List.getElem?_toArray, List.getElem?_cons_succ, List.getElem?_cons_zero]; rfl) ?_
  intro R' HK
  go_wp2_with fail
  refine (number_any r.x.no v2).mono ?_
  rintro e v3 ⟨rfl, hb⟩
  have HB3 := hide (below_one HB2.out hb)
  have HX3 := hide (HX2.out.below hb HX2.out.lt)
  clear hb HB2 HX2
  go_wp2_with fail
  refine HK.out _ _ ⟨(HX3.out.cell 0).trans r.c0, (HX3.out.cell 1).trans r.c1, (HX3.out.cell 34).trans (Lr.c34 HR.out)⟩ ?_
  clear HK
  refine plan4_run (o := ?_) (by simp only [List.getElem?_toArray, List.getElem?_cons_succ, List.getElem?_cons_zero]; rfl) ?_
  intro R' HK
  go_wp2_with fail
  refine (HR.out.p32 ▸ text_any (some ⟨w.heap.size, 2, none⟩) r.x.prev 32 v3 (HP.out v3 HX3.out)).mono ?_
  rintro e v4 ⟨rfl, hb⟩
  have HB4 := hide (below_one HB3.out hb)
  have HX4 := hide (HX3.out.below hb HX3.out.lt)
  clear hb HB3 HX3
  go_wp2_with fail
  refine HK.out _ _ ⟨(HX4.out.cell 0).trans r.c0, (HX4.out.cell 1).trans r.c1, (HX4.out.cell 34).trans (Lr.c34 HR.out)⟩ ?_
  clear HK
  refine plan4_run (o := ?_) (by simp only [List.getElem?_toArray, List.getElem?_cons_succ, List.getElem?_cons_zero]; rfl) ?_
  intro R' HK
  go_wp2_with fail
  refine (text_any r.A r.x.data r.cap v4 (HR.out.src.sb.below HB4.out)).mono ?_
  rintro e v5 ⟨rfl, hb⟩
  have HB5 := hide (below_one HB4.out hb)
  have HX5 := hide (HX4.out.below hb HX4.out.lt)
  clear hb HB4 HX4
  go_wp2_with fail
  refine HK.out _ _ ⟨(HX5.out.cell 0).trans r.c0, (HX5.out.cell 1).trans r.c1, (HX5.out.cell 34).trans (Lr.c34 HR.out)⟩ ?_
  clear HK
  refine plan4_run (o := ?_) (by simp only [List.getElem?_toArray, List.getElem?_cons_succ, List.getElem?_cons_zero]; rfl) ?_
  intro R' HK
  have HB6 := hide (HB5.out.alloc HB5.out.size (.cells (lnkC r.x).toArray 106))
  have HX6 := hide (HX5.out.alloc (.cells (lnkC r.x).toArray 106))
  have HY6 := hide (Blk.new v5 106 (lnkC r.x))
  unfold lnkC at HB6 HX6 HY6
  go_wp2_with fail
  refine HK.out _ _ ⟨(HX6.out.cell 0).trans r.c0, (HX6.out.cell 1).trans r.c1, (HX6.out.cell 34).trans (Lr.c34 HR.out)⟩ ?_
  clear HK
  refine plan4_run (o := ?_) (by simp only [List.getElem?_toArray, List.getElem?_cons_succ, List.getElem?_cons_zero]; rfl) ?_
  intro R' HK
  go_wp2_with fail
  refine (together_any r.x v5.heap.size _ (lnkT_in r.x v5.heap.size _ HY6.out HR.out.node HR.out.no (by rw [HR.out.p32]; omega) hd) hlen).mono ?_
  rintro e v7 ⟨A7, c7, rfl, h1, h2, h3, h4, hb⟩
  have HB7 := hide (below_one HB6.out hb)
  have HX7 := hide (HX6.out.below hb HX6.out.lt)
  have HS7 := hide (And.intro h1 (And.intro h2 (And.intro h3 h4)))
  clear hb HB6 HX6 HY6 h1 h2 h3 h4
  go_wp2_with fail
  refine HK.out _ _ ⟨(HX7.out.cell 0).trans r.c0, (HX7.out.cell 1).trans r.c1, (HX7.out.cell 34).trans (Lr.c34 HR.out)⟩ ?_
  clear HK
  refine plan4_last (o := ?_) (by simp only [List.getElem?_toArray, List.getElem?_cons_succ, List.getElem?_cons_zero]; rfl) ?_
  intro R' HK
  go_wp2_with fail
  refine HK.out _ _ ?_
  clear HK
  refine plan4_done ?_
  go_wp2_with fail
  go_ret
  exact ⟨A7, c7, rfl, HS7.out.1, HS7.out.2.1, HS7.out.2.2.1, HS7.out.2.2.2, HB7.out⟩
end Go.Proofs.YtalgceplcahgbaaDoor
