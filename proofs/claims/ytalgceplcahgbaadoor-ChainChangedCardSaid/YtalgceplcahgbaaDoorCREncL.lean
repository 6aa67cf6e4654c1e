/- unsigned and numeral of the reference: the number's form, and its digits in a slice of the call's own. -/
import Derived.Test.YtalgceplcahgbaaDoorCSane
namespace Go.Proofs.YtalgceplcahgbaaDoor.Cdc
open Go.RowKit

theorem digs_more (f : Nat) : ∀ x, x < 128 ^ (f + 1) → digs (f + 1) x = digs f x := by
  induction f with
  | zero => intro x h; simp at h; simp [digs, h]
  | succ f ih =>
    intro x h
    by_cases hx : x < 128
    · simp [digs, hx]
    · have h2 : x / 128 < 128 ^ (f + 1) := by rw [Nat.div_lt_iff_lt_mul (by omega)]; rw [Nat.pow_succ] at h; exact h
      have h3 := ih _ h2
      rw [digs, if_neg hx, h3]
      conv => rhs; rw [digs, if_neg hx]

theorem numeral_small {u : Nat} (h : u < 128) : numeral u = [UInt8.ofNat u] := by simp [numeral, digs, h]
theorem numeral_big {u : Nat} (h : ¬ u < 128) (hu : u < 18446744073709551616) : numeral u = UInt8.ofNat (u % 128 + 128) :: numeral (u / 128) := by
  have h1 := digs_more 8 (u / 128) (by omega)
  unfold numeral
  rw [h1]
  conv => lhs; rw [digs, if_neg h]

set_option maxHeartbeats 400000 in
theorem runsigned_any (n : Int) (w : World) (h0 : -9223372036854775808 ≤ n) (h1 : n ≤ 9223372036854775807) :
    Calls Tryd.prog 104 #[.int .i64 n] w fun e w' => e = .returned (.int .u64 (uns n : Nat)) ∧ w = w' := by
  by_cases hn : n < 0
  · have HU := hide (show (uns n : Int) = 2 * (-(n + 1)) + 1 by unfold uns; rw [if_pos hn]; omega)
    go_enter Tryd.func104, Tryd.ntmps104
    go_wp2_with fail
    go_ret
    exact ⟨by rw [HU.out]; rfl, rfl⟩
  · have HU := hide (uns_pos (by omega : 0 ≤ n))
    go_enter Tryd.func104, Tryd.ntmps104
    go_wp2_with fail
    go_ret
    exact ⟨by rw [HU.out]; rfl, rfl⟩

/-- One byte in a block of its own. -/
theorem own_one (w : World) (c : UInt8) (base : Nat) (hb : base ≤ w.heap.size) : Own base (.slice (some ⟨w.heap.size, 0, none⟩) 1 1) [c] (w.alloc (.cells #[.int .u8 (c.toNat : Nat)] 5)) :=
  ⟨rfl, .inr ⟨w.heap.size, 1, #[.int .u8 (c.toNat : Nat)], rfl, hb, heap_alloc_new w _, Nat.le_refl _, by unfold maxLen; omega, rfl, rfl⟩⟩

/-- What a slice of its own looks like. -/
theorem Own.form {base : Nat} {v : Value} {l : List UInt8} {w : World} (h : Own base v l w) (hl : 0 < l.length) :
    ∃ g cap, v = .slice (some ⟨g, 0, none⟩) l.length cap ∧ ∀ j u, (bs l)[j]? = some u → w.cell? ((⟨g, 0, none⟩ : Addr).add j) = some u := by
  have h' : w.ownsRow base 5 1 v l.length (bs l) := h
  obtain ⟨g, cap, rfl, _, _⟩ := h'.form hl
  exact ⟨g, cap, rfl, h'.cells rfl⟩

theorem bs_one (l : List UInt8) : ∀ u ∈ bs l, u.oneCell' = true := by
  intro u hu
  simp only [bs, List.mem_map] at hu
  obtain ⟨c, _, rfl⟩ := hu
  rfl

def BytesPost (l : List UInt8) (w : World) (e : Ending) (w' : World) : Prop := ∃ v, e = .returned v ∧ Below w.heap.size w w' ∧ Own w.heap.size v l w'

set_option maxRecDepth 10000 in
set_option maxHeartbeats 1600000 in
theorem rnumeral_any : ∀ (u : Nat), u < 18446744073709551616 → ∀ (w : World), Calls Tryd.prog 103 #[.int .u64 u] w (BytesPost (numeral u) w) := by
  intro u
  induction u using Nat.strongRecOn with
  | _ u ih =>
    intro hu w
    by_cases hs : u < 128
    · have HN := hide (numeral_small hs)
      have HB := hide (byte_of u (by omega))
      have hs' : (u : Int) < 128 := by omega
      go_enter Tryd.func103, Tryd.ntmps103
      go_wp2_with fail
      go_ret
      refine ⟨_, rfl, below_new _ _, ?_⟩
      rw [HN.out, HB.out]
      exact own_one w _ _ (Nat.le_refl _)
    · obtain ⟨i0, hi0, hz0, hz1, hz2⟩ := info_parts Tryd.info5
      have HI := hide (And.intro hi0 (And.intro hz0 (And.intro hz1 hz2)))
      have HN := hide (numeral_big hs hu)
      have HB := hide (show Value.int .u8 ((u : Int) % 128 + 128) = .int .u8 ((UInt8.ofNat (u % 128 + 128)).toNat : Nat) by rw [← byte_of _ (by omega)]; congr 1)
      have IH := fun W => hide (ih (u / 128) (by omega) (by omega) W)
      rw [show ((u / 128 : Nat) : Int) = (u : Int) / 128 by omega] at IH
      obtain ⟨-, hl10, hl1⟩ := numeral_len (u := u / 128) (by omega)
      have hu2 : 128 ≤ u := by omega
      clear hi0 hz0 hz1 hz2 ih hs
      go_enter Tryd.func103, Tryd.ntmps103
      go_wp2_with fail
      have hw1 := hide (below_new w (.cells #[.int .u8 ((u : Int) % 128 + 128)] 5))
      have ho1 := hide (own_one w (UInt8.ofNat (u % 128 + 128)) w.heap.size (Nat.le_refl _))
      rw [← HB.out] at ho1
      generalize w.alloc (.cells #[.int .u8 ((u : Int) % 128 + 128)] 5) = w1 at *
      refine (IH w1).out.mono ?_
      rintro e w2 ⟨v2, rfl, hb2, ho2⟩
      obtain ⟨g, cap, rfl, hc⟩ := ho2.form (by omega)
      have hwn := hide (ho1.out.later hb2)
      have hB2 := hide (below_one hw1.out hb2)
      have hs2 := hB2.out.size
      have hlen := bs_length (numeral (u / 128))
      have hone := bs_one (numeral (u / 128))
      generalize hL : (numeral (u / 128)).length = L at *
      generalize hBS : bs (numeral (u / 128)) = B at *
      clear ho1 ho2 hw1 hb2
      go_wp2_with (at_builtin; refine wpList_append_own _ rfl _ _ 22 rfl w.heap.size 5 i0 (.int .u8 0) 1 1 Tryd.underlying22 HI.out.1 HI.out.2.1 HI.out.2.2.1 HI.out.2.2.2 rfl (by decide) _ 1 (bs [UInt8.ofNat (u % 128 + 128)]) rfl hwn.out ⟨g, 0, none⟩ L cap B rfl (by omega) hc hone (by unfold maxLen; omega) (by omega) hs2 ?_; intro v3 w3 hown3 hg3 _)
      go_ret
      refine ⟨v3, rfl, hB2.out.grown hg3 hs2 (fun k hk => (World.ownsRow.lt hwn.out k hk).1), ?_⟩
      rw [HN.out]
      unfold Own
      rw [List.length_cons, hL, Nat.add_comm]
      have : bs (UInt8.ofNat (u % 128 + 128) :: numeral (u / 128)) = bs [UInt8.ofNat (u % 128 + 128)] ++ B := by rw [← hBS, ← bs_append]; rfl
      rw [this]
      exact hown3
end Go.Proofs.YtalgceplcahgbaaDoor.Cdc

/- Formed, Depth and Check of the reference, for every value that lies in memory. -/
namespace Go.Proofs.YtalgceplcahgbaaDoor.Cdc
open Go.RowKit

/-- The contract of Formed at one tree. -/
def FormAt (t : VT) : Prop := ∀ w : World, t.In w → Calls Tryd.prog 101 #[t.val] w fun e w' => e = .returned (.bool t.wf) ∧ Below w.heap.size w w'

set_option maxRecDepth 10000 in
set_option maxHeartbeats 1600000 in
theorem formed_step (t : VT) (ih : ∀ i (h : i < t.els.length), FormAt t.els[i]) : FormAt t := by
  intro w hin
  obtain ⟨hk, hn, hs, hl⟩ := hin.facts
  have HE := hide (VT.wf_eq t)
  by_cases h3 : t.kind = 3
  · have b1 : (t.kind == 1) = false := by simp [h3]
    have b2 : (t.kind == 2) = false := by simp [h3]
    have b3 : (t.kind == 3) = true := by simp [h3]
    have HE := hide (show t.wf = (t.num == 0 && t.str.toList.isEmpty && VT.wf.wfs t.els) by rw [HE.out, b1, b2, b3]; rfl)
    have IH := hide ih
    obtain ⟨A, hv, hsl, hA⟩ := hin.open
    have HSL := hide hsl
    have bx := hide (Box.new w t)
    clear hv hsl ih h3
    go_enter Tryd.func101, Tryd.ntmps101
    go_wp2_with fail
    have hin1 := hin.alloc (.cells #[.int .i64 t.kind, .int .i64 t.num, .string t.str, t.sl] 106)
    have hb0 := hide (below_new w (.cells #[.int .i64 t.kind, .int .i64 t.num, .string t.str, t.sl] 106))
    generalize w.alloc (.cells #[.int .i64 t.kind, .int .i64 t.num, .string t.str, t.sl] 106) = W1 at *
    go_loopw [3] (fun i wr => ∃ k : Nat, k ≤ t.els.length ∧ i = .int .i64 k ∧ Hid (∀ j (h : j < t.els.length), j < k → (t.els[j]).wf = true) ∧ Below W1.heap.size W1 wr) (fun i _ => t.els.length - (intOf i).toNat)
    case atStart => exact ⟨0, Nat.zero_le _, rfl, hide (by intros; omega), Below.refl _ _⟩
    case round =>
      obtain ⟨k, hk, rfl, HW, hb⟩ := hrel
      obtain ⟨_, y1, y2, y3⟩ := (bx.out.later hb).cells
      rw [HSL.out] at y3
      by_cases hlt : k < t.els.length
      · obtain ⟨b, o, rfl, ha⟩ := hA k hlt
        obtain ⟨⟨c0, c1, c2, c3⟩, hink⟩ := (hin1.later hb).el ha hlt
        have HC := hide (IH.out k hlt wr hink)
        clear ha
        cases hwf : (t.els[k]).wf with
        | true =>
          rw [hwf] at HC
          have HK := hide hwf
          clear hwf
          go_wp2_with (go_at_call 101; refine HC.out.mono ?_; rintro e w' ⟨rfl, hb'⟩)
          refine ⟨⟨k + 1, by omega, by go_num, hide (fun j h hj => ?_), below_one hb hb'⟩, by simp [intOf]; omega⟩
          by_cases e : j = k
          · subst e; exact HK.out
          · exact HW.out j h (by omega)
        | false =>
          rw [hwf] at HC
          have hfin := hide (show t.wf = false by rw [HE.out, wfs_false hlt hwf]; simp)
          clear hwf
          go_wp2_with (go_at_call 101; refine HC.out.mono ?_; rintro e w' ⟨rfl, hb'⟩)
          go_ret
          exact ⟨by rw [hfin.out]; rfl, below_one (below_one hb0.out hb) hb'⟩
      · obtain rfl : k = t.els.length := by omega
        have hfin := hide (show t.wf = (t.num == 0 && t.str.toList.isEmpty) by rw [HE.out, VT.wfs_iff.2 (fun i h => HW.out i h h)]; simp)
        have hB := hide (below_one hb0.out hb)
        clear HW
        go_wp2_with fail
        all_goals go_ret
        all_goals exact ⟨by rw [hfin.out]; simp [*], hB.out⟩
  · have b3 : (t.kind == 3) = false := by simp [h3]
    obtain ⟨A, hv, hsl, hA⟩ := hin.open
    clear ih h3 hA
    go_enter Tryd.func101, Tryd.ntmps101
    go_wp2_with fail
    all_goals go_ret
    all_goals exact ⟨by rw [HE.out]; simp [*], below_new _ _⟩

theorem formed_any : ∀ (N : Nat) (t : VT), t.sz ≤ N → FormAt t := by
  intro N
  induction N with
  | zero => intro t h; cases t; simp [VT.sz] at h
  | succ N ih => exact fun t h => formed_step t fun i hi => ih _ (by have := VT.sz_lt hi; omega)

/-- The contract of Depth at one tree. -/
def RDepAt (t : VT) : Prop := ∀ w : World, t.In w → t.sz ≤ 1000000 → Calls Tryd.prog 102 #[t.val] w fun e w' => e = .returned (.int .i64 (t.dep : Nat)) ∧ Below w.heap.size w w'

set_option maxRecDepth 10000 in
set_option maxHeartbeats 1600000 in
theorem rdepth_step (t : VT) (ih : ∀ i (h : i < t.els.length), RDepAt t.els[i]) : RDepAt t := by
  intro w hin hsz
  obtain ⟨hk, hn, hs, hl⟩ := hin.facts
  have HE := hide (VT.dep_eq t)
  by_cases h3 : t.kind = 3
  · have hb3 : (t.kind != 3) = false := by simp [h3]
    have H3 := hide h3
    clear h3
    have hdl := VT.dep_le t
    have hdd : VT.dep.deps t.els ≤ 1000000 := by rw [HE.out, if_pos H3.out] at hdl; omega
    have IH := hide ih
    obtain ⟨A, hv, hsl, hA⟩ := hin.open
    have HSL := hide hsl
    have bx := hide (Box.new w t)
    clear hv hsl ih hdl
    go_enter Tryd.func102, Tryd.ntmps102
    go_wp2_with fail
    have hin1 := hin.alloc (.cells #[.int .i64 t.kind, .int .i64 t.num, .string t.str, t.sl] 106)
    have hb0 := hide (below_new w (.cells #[.int .i64 t.kind, .int .i64 t.num, .string t.str, t.sl] 106))
    generalize w.alloc (.cells #[.int .i64 t.kind, .int .i64 t.num, .string t.str, t.sl] 106) = W1 at *
    go_loopw [3, 4] (fun d i wr => ∃ k : Nat, k ≤ t.els.length ∧ i = .int .i64 k ∧ d = .int .i64 (VT.dep.deps (t.els.take k) : Nat) ∧ Below W1.heap.size W1 wr) (fun _ i _ => t.els.length - (intOf i).toNat)
    case atStart => exact ⟨0, Nat.zero_le _, rfl, rfl, Below.refl _ _⟩
    case round =>
      obtain ⟨k, hk, rfl, rfl, hb⟩ := hrel
      obtain ⟨_, _, _, y3⟩ := (bx.out.later hb).cells
      rw [HSL.out] at y3
      by_cases hlt : k < t.els.length
      · obtain ⟨b, o, rfl, ha⟩ := hA k hlt
        obtain ⟨⟨c0, c1, c2, c3⟩, hink⟩ := (hin1.later hb).el ha hlt
        have hszk := VT.sz_lt hlt
        have HC := hide (IH.out k hlt wr hink (by omega))
        have HT := hide (VT.deps_take hlt)
        clear ha hszk
        go_wp2_with (go_at_call 102; refine HC.out.mono ?_; rintro e w' ⟨rfl, hb'⟩)
        refine ⟨⟨k + 1, by omega, by go_num, ?_, below_one hb hb'⟩, by simp [intOf]; omega⟩
        rw [HT.out]; congr 1; omega
      · obtain rfl : k = t.els.length := by omega
        have HF := hide (List.take_length (l := t.els))
        have hB := hide (below_one hb0.out hb)
        rw [HF.out]
        go_wp2_with fail
        go_ret
        exact ⟨by rw [HE.out, if_pos H3.out]; refine ret_num ?_; omega, hB.out⟩
  · have hb3 : (t.kind != 3) = true := by simp [h3]
    rw [if_neg h3] at HE
    clear h3
    go_enter Tryd.func102, Tryd.ntmps102
    go_wp2_with fail
    go_ret
    exact ⟨by rw [HE.out]; rfl, below_new _ _⟩

theorem rdepth_any : ∀ (N : Nat) (t : VT), t.sz ≤ N → RDepAt t := by
  intro N
  induction N with
  | zero => intro t h; cases t; simp [VT.sz] at h
  | succ N ih => exact fun t h => rdepth_step t fun i hi => ih _ (by have := VT.sz_lt hi; omega)

set_option maxHeartbeats 400000 in
theorem rcheck_any (t : VT) (w : World) (hin : t.In w) (hsz : t.sz ≤ 1000000) : Calls Tryd.prog 95 #[t.val] w fun e w' => e = .returned (.int .i64 (chk t : Nat)) ∧ Below w.heap.size w w' := by
  have hd := VT.dep_le t
  have H1 := fun W hW => hide (formed_any t.sz t (Nat.le_refl _) W hW)
  have H2 := fun W hW => hide (rdepth_any t.sz t (Nat.le_refl _) W hW hsz)
  by_cases hwf : t.wf = true
  · by_cases hdp : 16 < t.dep
    · have HC := hide (show chk t = 2 by simp [chk, hwf, hdp])
      have hgt : decide ((t.dep : Int) > 16) = true := by simp; omega
      rw [hwf] at H1
      clear hwf
      go_enter Tryd.func95, Tryd.ntmps95
      go_wp2_with (first | (go_at_call 101; refine (H1 _ (hin.alloc _)).out.mono ?_; rintro e w1 ⟨rfl, hb1⟩; have c0 := hb1.cell (p := ⟨w.heap.size, 0, none⟩) (by simp); have c1 := hb1.cell (p := ⟨w.heap.size, 1, none⟩) (by simp); have c2 := hb1.cell (p := ⟨w.heap.size, 2, none⟩) (by simp); have c3 := hb1.cell (p := ⟨w.heap.size, 3, none⟩) (by simp)) | (go_at_call 102; refine (H2 _ ((hin.alloc _).later ‹_›)).out.mono ?_; rintro e w2 ⟨rfl, hb2⟩))
      go_ret
      exact ⟨by rw [HC.out]; rfl, below_one (below_two (Below.refl _ _) hb1) hb2⟩
    · have HC := hide (show chk t = 0 by simp [chk, hwf, hdp])
      have hgt : decide ((t.dep : Int) > 16) = false := by simp; omega
      rw [hwf] at H1
      clear hwf
      go_enter Tryd.func95, Tryd.ntmps95
      go_wp2_with (first | (go_at_call 101; refine (H1 _ (hin.alloc _)).out.mono ?_; rintro e w1 ⟨rfl, hb1⟩; have c0 := hb1.cell (p := ⟨w.heap.size, 0, none⟩) (by simp); have c1 := hb1.cell (p := ⟨w.heap.size, 1, none⟩) (by simp); have c2 := hb1.cell (p := ⟨w.heap.size, 2, none⟩) (by simp); have c3 := hb1.cell (p := ⟨w.heap.size, 3, none⟩) (by simp)) | (go_at_call 102; refine (H2 _ ((hin.alloc _).later ‹_›)).out.mono ?_; rintro e w2 ⟨rfl, hb2⟩))
      go_ret
      exact ⟨by rw [HC.out]; rfl, below_one (below_two (Below.refl _ _) hb1) hb2⟩
  · have HC := hide (show chk t = 1 by simp [chk, hwf])
    rw [Bool.eq_false_iff.2 hwf] at H1
    clear hwf
    go_enter Tryd.func95, Tryd.ntmps95
    go_wp2_with (first | (go_at_call 101; refine (H1 _ (hin.alloc _)).out.mono ?_; rintro e w1 ⟨rfl, hb1⟩; have c0 := hb1.cell (p := ⟨w.heap.size, 0, none⟩) (by simp); have c1 := hb1.cell (p := ⟨w.heap.size, 1, none⟩) (by simp); have c2 := hb1.cell (p := ⟨w.heap.size, 2, none⟩) (by simp); have c3 := hb1.cell (p := ⟨w.heap.size, 3, none⟩) (by simp)) | (go_at_call 102; refine (H2 _ ((hin.alloc _).later ‹_›)).out.mono ?_; rintro e w2 ⟨rfl, hb2⟩))
    go_ret
    exact ⟨by rw [HC.out]; rfl, below_two (Below.refl _ _) hb1⟩
end Go.Proofs.YtalgceplcahgbaaDoor.Cdc

/- encode of the reference: the encoding of a value in a slice of the call's own. -/
namespace Go.Proofs.YtalgceplcahgbaaDoor.Cdc
open Go.RowKit

/-- One byte in the second block of two. -/
theorem own_first (w : World) (o : Obj) (c : UInt8) (k : Int) (hk : k = (c.toNat : Nat)) : Own w.heap.size (.slice (some ⟨w.heap.size + 1, 0, none⟩) 1 1) [c] ((w.alloc o).alloc (.cells #[.int .u8 k] 5)) := by
  subst hk
  have := own_one (w.alloc o) c w.heap.size (by simp)
  simpa using this

def REncAt (t : VT) : Prop := ∀ w : World, t.In w → t.enc.length ≤ 4294967296 → Calls Tryd.prog 96 #[t.val] w (BytesPost t.enc w)

set_option maxRecDepth 10000 in
set_option maxHeartbeats 1600000 in
theorem renc_1 (t : VT) (w : World) (hin : t.In w) (h1 : t.kind = 1) : Calls Tryd.prog 96 #[t.val] w (BytesPost t.enc w) := by
  obtain ⟨i0, hi0, hz0, hz1, hz2⟩ := info_parts Tryd.info5
  have HI := hide (And.intro hi0 (And.intro hz0 (And.intro hz1 hz2)))
  have HE := hide (show t.enc = [1] ++ numeral (uns t.num) by rw [VT.enc_eq, if_pos h1]; rfl)
  obtain ⟨_, hn, _, _⟩ := hin.facts
  have hu := uns_lt hn.1 hn.2
  obtain ⟨-, hl10, hl1⟩ := numeral_len hu
  have b1 : (t.kind == 1) = true := by simp [h1]
  have HN := fun W => hide (rnumeral_any (uns t.num) hu W)
  have HU := fun W => hide (runsigned_any t.num W hn.1 hn.2)
  generalize uns t.num = u at *
  clear hi0 hz0 hz1 hz2 h1 hin
  go_enter Tryd.func96, Tryd.ntmps96
  go_wp2_with (first | (go_at_call 104; refine (HU _).out.mono ?_; rintro e w1 ⟨rfl, rfl⟩))
  have hw1 := hide ((below_new w (.cells #[.int .i64 t.kind, .int .i64 t.num, .string t.str, t.sl] 106)).alloc (by simp) (.cells #[.int .u8 1] 5))
  have ho1 := hide (own_first w (.cells #[.int .i64 t.kind, .int .i64 t.num, .string t.str, t.sl] 106) 1 1 rfl)
  generalize (w.alloc (.cells #[.int .i64 t.kind, .int .i64 t.num, .string t.str, t.sl] 106)).alloc (.cells #[.int .u8 1] 5) = w1 at *
  refine (HN w1).out.mono ?_
  rintro e w2 ⟨v2, rfl, hb2, ho2⟩
  obtain ⟨g, cap, rfl, hc⟩ := ho2.form (by omega)
  have hwn := hide (ho1.out.later hb2)
  have hB2 := hide (below_one hw1.out hb2)
  have hs2 := hB2.out.size
  have hlen := bs_length (numeral u)
  have hone := bs_one (numeral u)
  generalize hL : (numeral u).length = L at *
  generalize hBS : bs (numeral u) = B at *
  clear ho1 ho2 hw1 hb2
  go_wp2_with (at_builtin; refine wpList_append_own _ rfl _ _ 22 rfl w.heap.size 5 i0 (.int .u8 0) 1 1 Tryd.underlying22 HI.out.1 HI.out.2.1 HI.out.2.2.1 HI.out.2.2.2 rfl (by decide) _ 1 (bs [1]) rfl hwn.out ⟨g, 0, none⟩ L cap B rfl (by omega) hc hone (by unfold maxLen; omega) (by omega) hs2 ?_; intro v3 w3 hown3 hg3 _)
  go_ret
  refine ⟨v3, rfl, hB2.out.grown hg3 hs2 (fun k hk => (World.ownsRow.lt hwn.out k hk).1), ?_⟩
  rw [HE.out]
  unfold Own
  rw [List.length_append, hL, bs_append, hBS]
  exact hown3

set_option maxRecDepth 10000 in
set_option maxHeartbeats 1600000 in
theorem renc_2 (t : VT) (w : World) (hin : t.In w) (h2 : t.kind = 2) : Calls Tryd.prog 96 #[t.val] w (BytesPost t.enc w) := by
  obtain ⟨i0, hi0, hz0, hz1, hz2⟩ := info_parts Tryd.info5
  have HI := hide (And.intro hi0 (And.intro hz0 (And.intro hz1 hz2)))
  have HE := hide (show t.enc = ([2] ++ numeral t.str.size) ++ t.str.data.toList by rw [VT.enc_eq, if_neg (by omega), if_pos h2]; simp)
  obtain ⟨_, _, hsz, _⟩ := hin.facts
  have hu : t.str.size < 18446744073709551616 := by omega
  obtain ⟨-, hl10, hl1⟩ := numeral_len hu
  have b1 : (t.kind == 1) = false := by simp [h2]
  have b2 : (t.kind == 2) = true := by simp [h2]
  have HN := fun W => hide (rnumeral_any t.str.size hu W)
  have hwr : IntKind.u64.wrap (t.str.size : Int) = t.str.size := by rw [IntKind.wrap_u64]; omega
  have bx := hide (Box.new w t)
  clear hi0 hz0 hz1 hz2 h2 hin
  go_enter Tryd.func96, Tryd.ntmps96
  go_wp2_with fail
  have hbx := hide (below_new w (.cells #[.int .i64 t.kind, .int .i64 t.num, .string t.str, t.sl] 106))
  generalize hW1 : w.alloc (.cells #[.int .i64 t.kind, .int .i64 t.num, .string t.str, t.sl] 106) = W1 at *
  have hs1 := hbx.out.size
  have ho1 := hide (show Own w.heap.size (.slice (some ⟨W1.heap.size, 0, none⟩) 1 1) [2] (W1.alloc (.cells #[.int .u8 2] 5)).drew from own_one W1 2 w.heap.size hs1)
  have x2 := fun o => (bx.out.later (below_new W1 o)).cells.2.2.1
  have hbx2 := hide (hbx.out.alloc hs1 (.cells #[.int .u8 2] 5))
  have bx2 := hide (show Box (W1.alloc (.cells #[.int .u8 2] 5)).drew w.heap.size t from (show Box (W1.alloc (.cells #[.int .u8 2] 5)) w.heap.size t from bx.out.later (below_new W1 _)))
  have hlen := bs_length (numeral t.str.size)
  have hone := bs_one (numeral t.str.size)
  generalize numeral t.str.size = NB at *
  have hX : w.heap.size < W1.heap.size := by rw [← hW1]; simp
  have x2b := bx.out.cells.2.2.1
  have bxd := hide (show Box W1.drew w.heap.size t from bx.out)
  clear hW1
  go_region_law (first
    | (go_simp; go_at_call 103; refine (HN _).out.mono ?_; rintro e w2 ⟨v2, rfl, hb2, ho2⟩; obtain ⟨g, cap, rfl, hc⟩ := ho2.form hl1; have hwn := hide (ho1.out.later hb2); have hB2 := hide (below_one hbx2.out.drew hb2); have hs2 := hB2.out.size; have z2 := (bx2.out.later hb2).cells.2.2.1)
    | (go_simp; go_at_call 103; refine (HN _).out.mono ?_; rintro e w2 ⟨v2, rfl, hb2, ho2⟩; have hbxd := hide (bxd.out.later hb2); have hB2 := hide (below_one hbx.out.drew hb2); have hs2 := hB2.out.size; have hX2 := Nat.lt_of_lt_of_le hX hb2.size; obtain ⟨g, cap, rfl, hc⟩ := (ho2.later (below_new w2 (.cells #[.int .u8 2] 5))).form hl1; have hwn := hide (own_one w2 2 w.heap.size hs2); have z2 := hbxd.out.cells.2.2.1; have z2a := fun o => (hbxd.out.later (below_new w2 o)).cells.2.2.1; have hB2 := hide (hB2.out.alloc hs2 (.cells #[.int .u8 2] 5)); have hs2 := hB2.out.size)
    | (refine step_append_lies _ (by rfl) _ _ _ (by rfl) w.heap.size 5 i0 _ 1 1 Tryd.underlying22 HI.out.1 HI.out.2.1 HI.out.2.2.1 HI.out.2.2.2 rfl (by omega) _ 1 (bs [2]) (by rfl) hwn.out ⟨g, 0, none⟩ NB.length cap (bs NB) (by rfl) (by omega) hc hone (by omega) (by unfold maxLen; omega) (by omega) hs2 w2.heap.size rfl ?_; intro g3 cap3 w3 hown3 hg3 hat3 hlt3; have z3 := hg3.cell z2 (by simp [Value.ownBlock]; omega); have hB3 := hide (hB2.out.grown hg3 hs2 (fun k hk => (World.ownsRow.lt hwn.out k hk).1)); have hs3 := hB3.out.size)
    | (refine step_append_lies _ (by rfl) _ _ _ (by rfl) w.heap.size 5 i0 _ 1 1 Tryd.underlying22 HI.out.1 HI.out.2.1 HI.out.2.2.1 HI.out.2.2.2 rfl (by omega) _ 1 (bs [2]) (by rfl) hwn.out ⟨g, 0, none⟩ NB.length cap (bs NB) (by rfl) (by omega) hc hone (by omega) (by unfold maxLen; omega) (by omega) hs2 (w2.heap.size + 1) (by simp) ?_; intro g3 cap3 w3 hown3 hg3 hat3 hlt3; have z3 := hg3.cell (z2a _) (by simp [Value.ownBlock]; omega); have hB3 := hide (hB2.out.grown hg3 hs2 (fun k hk => (World.ownsRow.lt hwn.out k hk).1)); have hs3 := hB3.out.size)
    | (refine step_append_string _ (by rfl) _ _ _ _ (by rfl) w.heap.size 5 i0 Tryd.underlying22 Tryd.underlying9 HI.out.1 HI.out.2.1 HI.out.2.2.1 HI.out.2.2.2 _ _ (bs [2] ++ bs NB) (by rfl) hown3 t.str (by rfl) (by omega) (by unfold maxLen; omega) (by omega) hs3 ?_; intro g4 cap4 w4 hown4 hg4))
  all_goals (
    go_wp2_with fail
    go_ret
    refine ⟨_, rfl, hB3.out.grown hg4 hs3 (fun k hk => (World.ownsRow.lt hown3 k hk).1), ?_⟩
    rw [HE.out]
    have hd : t.str.data.toList.length = t.str.size := by rw [Array.length_toList]; rfl
    unfold Own
    rw [List.length_append, List.length_append, hd, bs_append, bs_append]
    exact hown4)
end Go.Proofs.YtalgceplcahgbaaDoor.Cdc

/- encode of the reference, whatever the value; Encode and Size of the reference. -/
namespace Go.Proofs.YtalgceplcahgbaaDoor.Cdc
open Go.RowKit

theorem enc_ne (t : VT) : t.enc ≠ [] := by
  rw [VT.enc_eq]
  intro h
  by_cases h1 : t.kind = 1
  · simp [h1] at h
  · by_cases h2 : t.kind = 2
    · simp [h2] at h
    · simp [h1, h2] at h

/-- Behind a call that only makes new memory, everything is kept. -/
theorem Keeps.later {B : Nat} {a w w' : World} (h : Keeps B a w) (hB : B ≤ w.heap.size) (hb : Below w.heap.size w w') : Keeps B a w' :=
  ⟨below_step h.below hb hB, fun x cs T hT hx => by
    have h1 := h.other x cs T hT hx
    rw [hb.block x (Array.getElem?_eq_some_iff.1 h1).1]
    exact h1⟩
theorem Box.keeps {B : Nat} {w w' : World} {X : Nat} {t : VT} (h : Box w X t) (hk : Keeps B w w') : Box w' X t := hk.other X _ 106 (by decide) h

set_option maxRecDepth 10000 in
set_option maxHeartbeats 1600000 in
theorem renc_3 (t : VT) (w : World) (hin : t.In w) (h1 : t.kind ≠ 1) (h2 : t.kind ≠ 2) (hlen : t.enc.length ≤ 4294967296) (ih : ∀ i (h : i < t.els.length), REncAt t.els[i]) : Calls Tryd.prog 96 #[t.val] w (BytesPost t.enc w) := by
  obtain ⟨i0, hi0, hz0, hz1, hz2⟩ := info_parts Tryd.info5
  have HI := hide (And.intro hi0 (And.intro hz0 (And.intro hz1 hz2)))
  have he : t.enc = ([3] ++ numeral t.els.length) ++ VT.enc.encs t.els := by rw [VT.enc_eq, if_neg h1, if_neg h2]; simp
  have HE := hide he
  rw [he] at hlen
  simp only [List.length_append, List.length_cons, List.length_nil] at hlen
  obtain ⟨_, _, _, hel⟩ := hin.facts
  have hu : t.els.length < 18446744073709551616 := by omega
  obtain ⟨-, hl10, hl1⟩ := numeral_len hu
  have b1 : (t.kind == 1) = false := by simp [h1]
  have b2 : (t.kind == 2) = false := by simp [h2]
  have HN := fun W => hide (rnumeral_any t.els.length hu W)
  have hwr : IntKind.u64.wrap (t.els.length : Int) = t.els.length := by rw [IntKind.wrap_u64]; omega
  have bx := hide (Box.new w t)
  have IH := hide ih
  obtain ⟨A, hv, hsl, hA⟩ := hin.open
  have HSL := hide hsl
  clear hi0 hz0 hz1 hz2 h1 h2 he hsl ih hv
  go_enter Tryd.func96, Tryd.ntmps96
  go_wp2_with fail
  have hw1 := hide ((below_new w (.cells #[.int .i64 t.kind, .int .i64 t.num, .string t.str, t.sl] 106)).alloc (by simp) (.cells #[.int .u8 3] 5))
  have ho1 := hide (own_first w (.cells #[.int .i64 t.kind, .int .i64 t.num, .string t.str, t.sl] 106) 3 3 rfl)
  have bx1 := hide (bx.out.later (below_new _ (.cells #[.int .u8 3] 5)))
  generalize (w.alloc (.cells #[.int .i64 t.kind, .int .i64 t.num, .string t.str, t.sl] 106)).alloc (.cells #[.int .u8 3] 5) = w1 at *
  refine (HN w1).out.mono ?_
  rintro e w2 ⟨v2, rfl, hb2, ho2⟩
  obtain ⟨g, cap, rfl, hc⟩ := ho2.form (by omega)
  have hwn := hide (ho1.out.later hb2)
  have bx2 := hide (bx1.out.later hb2)
  have hB2 := hide (below_one hw1.out hb2)
  have hs2 := hB2.out.size
  have hlen2 := bs_length (numeral t.els.length)
  have hone := bs_one (numeral t.els.length)
  generalize hNB : numeral t.els.length = NB at *
  clear ho1 ho2 hw1 hb2 bx bx1 hwr
  go_wp2_with (at_builtin; refine wpList_append_own _ rfl _ _ 22 rfl w.heap.size 5 i0 (.int .u8 0) 1 1 Tryd.underlying22 HI.out.1 HI.out.2.1 HI.out.2.2.1 HI.out.2.2.2 rfl (by decide) _ 1 (bs [3]) rfl hwn.out ⟨g, 0, none⟩ NB.length cap (bs NB) rfl (by omega) hc hone (by unfold maxLen; omega) (by omega) hs2 ?_; intro v3 w3 hown3 hg3 _)
  have bx3 := hide (bx2.out.keeps ((Keeps.refl _ _).grown hwn.out (Nat.le_refl _) hg3 hs2))
  have hB3 := hide (hB2.out.grown hg3 hs2 (fun k hk => (World.ownsRow.lt hwn.out k hk).1))
  have ho3 := hide (show Own w.heap.size v3 ([3] ++ NB) w3 by unfold Own; rw [List.length_append, bs_append]; exact hown3)
  clear hown3 hg3 hwn bx2 hB2 hc hone hlen2 HN hs2
  go_loopw [3, 4] (fun out i wr => ∃ k : Nat, k ≤ t.els.length ∧ i = .int .i64 k ∧ Hid (Own w.heap.size out ([3] ++ NB ++ VT.enc.encs (t.els.take k)) wr) ∧ Hid (Box wr w.heap.size t) ∧ Below w.heap.size w wr) (fun _ i _ => t.els.length - (intOf i).toNat)
  case atStart => exact ⟨0, Nat.zero_le _, rfl, hide (by simpa [VT.enc.encs] using ho3.out), bx3, hB3.out⟩
  case round =>
    obtain ⟨k, hk, rfl, HO, HX, hb⟩ := hrel
    obtain ⟨_, _, _, y3⟩ := HX.out.cells
    rw [HSL.out] at y3
    have hle := VT.encs_take_le t.els k
    by_cases hlt : k < t.els.length
    · obtain ⟨b, o, rfl, ha⟩ := hA k hlt
      obtain ⟨⟨c0, c1, c2, c3⟩, hink⟩ := (hin.later hb).el ha hlt
      have hsk := VT.encs_get_le hlt
      have HT := hide (VT.encs_take hlt)
      have hlk := congrArg List.length HT.out
      rw [List.length_append] at hlk
      have hle2 := VT.encs_take_le t.els (k + 1)
      have hne := List.length_pos_iff.2 (enc_ne t.els[k])
      have HC := hide (IH.out k hlt wr hink (by omega))
      have hl2 := hide (show ([3] ++ NB ++ VT.enc.encs (t.els.take k)).length = ([3] ++ NB).length + (VT.enc.encs (t.els.take k)).length from List.length_append)
      have hl3 := hide (show ([3] ++ NB).length = 1 + NB.length from List.length_append)
      clear ha
      go_wp2_with (first
        | (go_at_call 96; refine HC.out.mono ?_; rintro e w4 ⟨v4, rfl, hb4, ho4⟩; obtain ⟨g4, cap4, rfl, hc4⟩ := ho4.form hne; have hO4 := hide (HO.out.later hb4); have hB4 := hide (below_one hb hb4); have hs4 := hB4.out.size; have hX4 := hide (HX.out.later hb4))
        | (at_builtin; refine wpList_append_own _ rfl _ _ 22 rfl w.heap.size 5 i0 (.int .u8 0) 1 1 Tryd.underlying22 HI.out.1 HI.out.2.1 HI.out.2.2.1 HI.out.2.2.2 rfl (by decide) _ _ (bs ([3] ++ NB ++ VT.enc.encs (t.els.take k))) rfl hO4.out ⟨g4, 0, none⟩ _ cap4 (bs (t.els[k]).enc) rfl (by rw [bs_length, Nat.mul_one]) hc4 (bs_one _) (by rw [hl2.out, hl3.out]; unfold maxLen; omega) (by rw [hl2.out, hl3.out]; omega) hs4 ?_; intro v5 w5 hown5 hg5 _))
      refine ⟨⟨k + 1, by omega, by go_num, hide ?_, hide (hX4.out.keeps ((Keeps.refl _ _).grown hO4.out (Nat.le_refl _) hg5 hs4)), hB4.out.grown hg5 hs4 (fun k hk => (World.ownsRow.lt hO4.out k hk).1)⟩, by simp [intOf]; omega⟩
      unfold Own
      rw [HT.out, ← List.append_assoc, List.length_append, bs_append]
      exact hown5
    · obtain rfl : k = t.els.length := by omega
      have HF := hide (List.take_length (l := t.els))
      go_wp2_with fail
      go_ret
      refine ⟨_, rfl, hb, ?_⟩
      have := HO.out
      rw [HF.out] at this
      rw [HE.out]
      exact this

theorem renc_any : ∀ (N : Nat) (t : VT), t.sz ≤ N → REncAt t := by
  intro N
  induction N with
  | zero => intro t h; cases t; simp [VT.sz] at h
  | succ N ih =>
    intro t h w hin hlen
    by_cases h1 : t.kind = 1
    · exact renc_1 t w hin h1
    · by_cases h2 : t.kind = 2
      · exact renc_2 t w hin h2
      · exact renc_3 t w hin h1 h2 hlen fun i hi => ih _ (by have := VT.sz_lt hi; omega)

set_option maxHeartbeats 800000 in
theorem refEncode_any (t : VT) (w : World) (hin : t.In w) (hsz : t.sz ≤ 1000000) (hlen : t.enc.length ≤ 4294967296) : Calls Tryd.prog 85 #[t.val] w (EncPost t w) := by
  have H1 := fun W hW => hide (rcheck_any t W hW hsz)
  by_cases hc : chk t = 0
  · have HP := hide hc
    rw [hc] at H1
    have H2 := fun W hW => hide (renc_any t.sz t (Nat.le_refl _) W hW hlen)
    clear hc
    go_enter Tryd.func85, Tryd.ntmps85
    go_wp2_with (first | (go_at_call 95; refine (H1 _ (hin.alloc _)).out.mono ?_; rintro e w1 ⟨rfl, hb1⟩; have bx1 := hide ((Box.new w t).later hb1); obtain ⟨c0, c1, c2, c3⟩ := bx1.out.cells; have hB1 := hide (below_two (Below.refl _ _) hb1)) | (go_at_call 96; refine (H2 _ ((hin.alloc _).later hb1)).out.mono ?_; rintro e w2 ⟨v, rfl, hb2, ho2⟩))
    go_ret2
    refine ⟨v, by rw [HP.out]; rfl, below_one hB1.out hb2, ?_⟩
    rw [if_pos HP.out]
    exact own_weak ho2 hB1.out.size
  · have hne : ((chk t : Int) != 0) = true := by simp; omega
    have HP := hide hc
    clear hc
    have HG := hide (show ∀ w', Below w.heap.size w w' → EncPost t w (.returned (.tuple #[.slice none 0 0, .int .i64 (chk t : Nat)])) w' from fun w' hb => ⟨_, rfl, hb, by rw [if_neg HP.out]⟩)
    generalize hcc : chk t = c at *
    clear hcc
    go_enter Tryd.func85, Tryd.ntmps85
    go_wp2_with (first | (go_at_call 95; refine (H1 _ (hin.alloc _)).out.mono ?_; rintro e w1 ⟨rfl, hb1⟩))
    go_ret2
    exact HG.out _ (below_two (Below.refl _ _) hb1)

end Go.Proofs.YtalgceplcahgbaaDoor.Cdc
