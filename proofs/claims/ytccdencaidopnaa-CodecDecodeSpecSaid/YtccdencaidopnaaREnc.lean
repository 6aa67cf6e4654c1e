/- encode of the reference: the encoding of a value in a slice of the call's own. -/
import Derived.Test.YtccdencaidopnaaRNum
namespace Go.Proofs.Ytccdencaidopnaa
open Go.RowKit

/-- One byte in the second block of two. -/
theorem own_first (w : World) (o : Obj) (c : UInt8) (k : Int) (hk : k = (c.toNat : Nat)) : Own w.heap.size (.slice (some ⟨w.heap.size + 1, 0, none⟩) 1 1) [c] ((w.alloc o).alloc (.cells #[.int .u8 k] 5)) := by
  subst hk
  have := own_one (w.alloc o) c w.heap.size (by simp)
  simpa using this

def REncAt (t : VT) : Prop := ∀ w : World, t.In w → t.enc.length ≤ 4294967296 → Calls Try.prog 29 #[t.val] w (BytesPost t.enc w)

set_option maxRecDepth 10000 in
set_option maxHeartbeats 1600000 in
theorem renc_1 (t : VT) (w : World) (hin : t.In w) (h1 : t.kind = 1) : Calls Try.prog 29 #[t.val] w (BytesPost t.enc w) := by
  obtain ⟨i0, hi0, hz0, hz1, hz2⟩ := info_parts Try.info5
  have HI := hide (And.intro hi0 (And.intro hz0 (And.intro hz1 hz2)))
  have HE := hide (show t.enc = [1] ++ numeral (uns t.num) by rw [VT.enc_eq, if_pos h1]; rfl)
  obtain ⟨_, hn, _, _⟩ := hin.facts
  have hu := uns_lt hn.1 hn.2
  obtain ⟨-, hl10, hl1⟩ := numeral_len hu
  have b1 : (t.kind == 1) = true := by simp [h1]
  have HN := fun W => hide (rnumeral_any (uns t.num) hu W)
  have HU := fun W => hide (runsigned_any t.num W hn.1 hn.2)
  generalize uns t.num = u at *
  clear hi0 hz0 hz1 hz2 h1 hin
  go_enter Try.func29, Try.ntmps29
  go_wp2_with (first | (go_at_call 46; refine (HU _).out.mono ?_; rintro e w1 ⟨rfl, rfl⟩))
  have hw1 := hide ((below_new w (.cells #[.int .i64 t.kind, .int .i64 t.num, .string t.str, t.sl] 24)).alloc (by simp) (.cells #[.int .u8 1] 5))
  have ho1 := hide (own_first w (.cells #[.int .i64 t.kind, .int .i64 t.num, .string t.str, t.sl] 24) 1 1 rfl)
  generalize (w.alloc (.cells #[.int .i64 t.kind, .int .i64 t.num, .string t.str, t.sl] 24)).alloc (.cells #[.int .u8 1] 5) = w1 at *
  refine (HN w1).out.mono ?_
  rintro e w2 ⟨v2, rfl, hb2, ho2⟩
  obtain ⟨g, cap, rfl, hc⟩ := ho2.form (by omega)
  have hwn := hide (ho1.out.later hb2)
  have hB2 := hide (below_one hw1.out hb2)
  have hs2 := hB2.out.size
  have hlen := bs_length (numeral u)
  have hone := bs_one (numeral u)
  generalize hL : (numeral u).length = L at *
  generalize hBS : bs (numeral u) = B at *
  clear ho1 ho2 hw1 hb2
  go_wp2_with (at_builtin; refine wpList_append_own _ rfl _ _ 27 rfl w.heap.size 5 i0 (.int .u8 0) 1 1 Try.underlying27 HI.out.1 HI.out.2.1 HI.out.2.2.1 HI.out.2.2.2 rfl (by decide) _ 1 (bs [1]) rfl hwn.out ⟨g, 0, none⟩ L cap B rfl (by omega) hc hone (by unfold maxLen; omega) (by omega) hs2 ?_; intro v3 w3 hown3 hg3 _)
  go_ret
  refine ⟨v3, rfl, hB2.out.grown hg3 hs2 (fun k hk => (World.ownsRow.lt hwn.out k hk).1), ?_⟩
  rw [HE.out]
  unfold Own
  rw [List.length_append, hL, bs_append, hBS]
  exact hown3

set_option maxRecDepth 10000 in
set_option maxHeartbeats 1600000 in
theorem renc_2 (t : VT) (w : World) (hin : t.In w) (h2 : t.kind = 2) : Calls Try.prog 29 #[t.val] w (BytesPost t.enc w) := by
  obtain ⟨i0, hi0, hz0, hz1, hz2⟩ := info_parts Try.info5
  have HI := hide (And.intro hi0 (And.intro hz0 (And.intro hz1 hz2)))
  have HE := hide (show t.enc = ([2] ++ numeral t.str.size) ++ t.str.data.toList by rw [VT.enc_eq, if_neg (by omega), if_pos h2]; simp)
  obtain ⟨_, _, hsz, _⟩ := hin.facts
  have hu : t.str.size < 18446744073709551616 := by omega
  obtain ⟨-, hl10, hl1⟩ := numeral_len hu
  have b1 : (t.kind == 1) = false := by simp [h2]
  have b2 : (t.kind == 2) = true := by simp [h2]
  have HN := fun W => hide (rnumeral_any t.str.size hu W)
  have hwr : IntKind.u64.wrap (t.str.size : Int) = t.str.size := by rw [IntKind.wrap_u64]; omega
  have bx := hide (Box.new w t)
  clear hi0 hz0 hz1 hz2 h2 hin
  go_enter Try.func29, Try.ntmps29
  go_wp2_with fail
  have hbx := hide (below_new w (.cells #[.int .i64 t.kind, .int .i64 t.num, .string t.str, t.sl] 24))
  generalize hW1 : w.alloc (.cells #[.int .i64 t.kind, .int .i64 t.num, .string t.str, t.sl] 24) = W1 at *
  have hs1 := hbx.out.size
  have ho1 := hide (show Own w.heap.size (.slice (some ⟨W1.heap.size, 0, none⟩) 1 1) [2] (W1.alloc (.cells #[.int .u8 2] 5)).drew from own_one W1 2 w.heap.size hs1)
  have x2 := fun o => (bx.out.later (below_new W1 o)).cells.2.2.1
  have hbx2 := hide (hbx.out.alloc hs1 (.cells #[.int .u8 2] 5))
  have bx2 := hide (show Box (W1.alloc (.cells #[.int .u8 2] 5)).drew w.heap.size t from (show Box (W1.alloc (.cells #[.int .u8 2] 5)) w.heap.size t from bx.out.later (below_new W1 _)))
  have hlen := bs_length (numeral t.str.size)
  have hone := bs_one (numeral t.str.size)
  generalize numeral t.str.size = NB at *
  have hX : w.heap.size < W1.heap.size := by rw [← hW1]; simp
  have x2b := bx.out.cells.2.2.1
  have bxd := hide (show Box W1.drew w.heap.size t from bx.out)
  clear hW1
  go_region_law (first
    | (go_simp; go_at_call 45; refine (HN _).out.mono ?_; rintro e w2 ⟨v2, rfl, hb2, ho2⟩; obtain ⟨g, cap, rfl, hc⟩ := ho2.form hl1; have hwn := hide (ho1.out.later hb2); have hB2 := hide (below_one hbx2.out.drew hb2); have hs2 := hB2.out.size; have z2 := (bx2.out.later hb2).cells.2.2.1)
    | (go_simp; go_at_call 45; refine (HN _).out.mono ?_; rintro e w2 ⟨v2, rfl, hb2, ho2⟩; have hbxd := hide (bxd.out.later hb2); have hB2 := hide (below_one hbx.out.drew hb2); have hs2 := hB2.out.size; have hX2 := Nat.lt_of_lt_of_le hX hb2.size; obtain ⟨g, cap, rfl, hc⟩ := (ho2.later (below_new w2 (.cells #[.int .u8 2] 5))).form hl1; have hwn := hide (own_one w2 2 w.heap.size hs2); have z2 := hbxd.out.cells.2.2.1; have z2a := fun o => (hbxd.out.later (below_new w2 o)).cells.2.2.1; have hB2 := hide (hB2.out.alloc hs2 (.cells #[.int .u8 2] 5)); have hs2 := hB2.out.size)
    | (refine step_append_lies _ (by rfl) _ _ _ (by rfl) w.heap.size 5 i0 _ 1 1 Try.underlying27 HI.out.1 HI.out.2.1 HI.out.2.2.1 HI.out.2.2.2 rfl (by omega) _ 1 (bs [2]) (by rfl) hwn.out ⟨g, 0, none⟩ NB.length cap (bs NB) (by rfl) (by omega) hc hone (by omega) (by unfold maxLen; omega) (by omega) hs2 w2.heap.size rfl ?_; intro g3 cap3 w3 hown3 hg3 hat3 hlt3; have z3 := hg3.cell z2 (by simp [Value.ownBlock]; omega); have hB3 := hide (hB2.out.grown hg3 hs2 (fun k hk => (World.ownsRow.lt hwn.out k hk).1)); have hs3 := hB3.out.size)
    | (refine step_append_lies _ (by rfl) _ _ _ (by rfl) w.heap.size 5 i0 _ 1 1 Try.underlying27 HI.out.1 HI.out.2.1 HI.out.2.2.1 HI.out.2.2.2 rfl (by omega) _ 1 (bs [2]) (by rfl) hwn.out ⟨g, 0, none⟩ NB.length cap (bs NB) (by rfl) (by omega) hc hone (by omega) (by unfold maxLen; omega) (by omega) hs2 (w2.heap.size + 1) (by simp) ?_; intro g3 cap3 w3 hown3 hg3 hat3 hlt3; have z3 := hg3.cell (z2a _) (by simp [Value.ownBlock]; omega); have hB3 := hide (hB2.out.grown hg3 hs2 (fun k hk => (World.ownsRow.lt hwn.out k hk).1)); have hs3 := hB3.out.size)
    | (refine step_append_string _ (by rfl) _ _ _ _ (by rfl) w.heap.size 5 i0 Try.underlying27 Try.underlying9 HI.out.1 HI.out.2.1 HI.out.2.2.1 HI.out.2.2.2 _ _ (bs [2] ++ bs NB) (by rfl) hown3 t.str (by rfl) (by omega) (by unfold maxLen; omega) (by omega) hs3 ?_; intro g4 cap4 w4 hown4 hg4))
  all_goals (
    go_wp2_with fail
    go_ret
    refine ⟨_, rfl, hB3.out.grown hg4 hs3 (fun k hk => (World.ownsRow.lt hown3 k hk).1), ?_⟩
    rw [HE.out]
    have hd : t.str.data.toList.length = t.str.size := by rw [Array.length_toList]; rfl
    unfold Own
    rw [List.length_append, List.length_append, hd, bs_append, bs_append]
    exact hown4)
end Go.Proofs.Ytccdencaidopnaa
