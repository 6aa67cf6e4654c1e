/- NetworkAll: the walk. -/
import Derived.Test.YthmaakiibgdigaaOnW
import Derived.Test.YthmaakiibgdigaaAls
namespace Go.Proofs.Ythmaakiibgdigaa
open Go.RowKit
/-- Links in a new box. -/
structure RN (wr W : World) (L : List Nat) (X : Nat) (x : Net) : Prop where
  bel : Below wr.heap.size wr W
  b : Blk W X 25 x.cs
  l : wr.heap.size ≤ X
  xin : x.In (okL (X :: L)) W
section
variable {w wr W W' : World} {X3 X X7 X8 : Nat} {n x : Net} {p pj : Pkt} {L : List Nat} {A : Option Addr} {m c g N : Nat}
theorem RN.below (h : RN wr W L X x) (hb : Below W.heap.size W W') : RN wr W' L X x := ⟨below_one h.bel hb, h.b.below hb h.b.lt, h.l, h.xin.below hb⟩
theorem RN.new (h : Below wr.heap.size wr W) (hx : x.In (okL L) W) : RN wr (W.alloc (.cells x.cs.toArray 25)) L W.heap.size x :=
  ⟨h.alloc h.size _, Blk.new W 25 x.cs, h.size, (hx.weak okL_cons).below (below_new _ _)⟩
theorem RN.fill {cs : List Value} (h : Below wr.heap.size wr W) (hb : Blk W X 25 cs) (hl : wr.heap.size ≤ X) (hx : x.In (okL (X :: L)) W) : RN wr (W.setRow X x.cs.toArray) L X x :=
  ⟨below_setRow h hl _, hb.row _, hl, hx.keep (Kept.row (fun ho => ho X (List.mem_cons_self ..) rfl) _)⟩
theorem all_arg {p : Pkt} (h : p.In all w) (hL : ∀ x ∈ L, w.heap.size ≤ x) (hb : Below w.heap.size w W) : p.In (okL L) W :=
  (h.weak fun b hb _ x hx e => by have := hL x hx; omega).below hb
/-- Two boxes, made together and then filled. -/
theorem RX.new2 (h : Below wr.heap.size wr W) (hp : p.In (okL L) W) (hx : x.In (okL L) W) :
    RX wr ((((W.alloc (.cells #[.int .i64 0, .int .i64 0, .slice none 0 0] 28)).alloc (.cells #[.slice none 0 0, .slice none 0 0] 25)).setRow W.heap.size p.cs.toArray).setRow (W.heap.size + 1) x.cs.toArray) L (W.heap.size + 1) W.heap.size x p := by
  have h1 := ho_new (o := .cells #[.int .i64 0, .int .i64 0, .slice none 0 0] 28) ⟨hx, hp⟩
  have h2 := ho_new (o := .cells #[.slice none 0 0, .slice none 0 0] 25) h1
  rw [World.size_alloc] at h2
  have h3 := ho_row h2 (X := W.heap.size) (by simp) p.cs.toArray
  have h4 := ho_row h3 (X := W.heap.size + 1) (by simp) x.cs.toArray
  have hs := h.size
  have b := new2_blk W p.cs.toArray
  have hB : Below wr.heap.size wr ((W.alloc (.cells #[.int .i64 0, .int .i64 0, .slice none 0 0] 28)).alloc (.cells #[.slice none 0 0, .slice none 0 0] 25)) := (h.alloc hs _).alloc (by simp only [World.size_alloc]; omega) _
  exact ⟨below_setRow (below_setRow hB hs _) (by omega) _, b.2.row _, (b.1.row _).far (by omega) _, by omega, hs, h4.1, h4.2⟩
/-- The packets made anew, without one. -/
theorem OE.anew {sl : List Pkt} {cap : Nat} {s' : Sl Pkt} (h : OE w X3 n ⟨A, sl, cap⟩ W) (hb : Below W.heap.size W W') (hown : W'.ownsRow W.heap.size 28 3 (.slice s'.A s'.l.length s'.cap) s'.l.length (s'.l.flatMap Pkt.cs)) (hsub : ∀ p ∈ s'.l, p ∈ sl) : OE w X3 n s' W' := by
  have hlo := ownL_lt hown
  have hw : ∀ b, b < W.heap.size → okL (X3 :: ownL A) b → okL (X3 :: ownL s'.A) b := fun b hb ho x hx e => by
    rcases List.mem_cons.1 hx with rfl | hx
    · exact ho x (List.mem_cons_self ..) e
    · have := (hlo x hx).1
      omega
  refine ⟨below_one h.bel hb, h.blk.below hb h.blk.lt, h.hX, ⟨hown.1, ?_⟩, (h.nin.weak hw).below hb, fun p hp => ((h.sin p (hsub p hp)).weak hw).below hb, fun hm => by have := (hlo _ hm).1; have := h.blk.lt; omega⟩
  rcases hown.2 with h1 | ⟨g, cap', cur, hv, h1, h2⟩
  · exact .inl h1
  · exact .inr ⟨g, cap', cur, hv, Nat.le_trans h.bel.size h1, h2⟩
theorem RN.app (h : RN wr W (X3 :: ownL A) X x) (hlo : ∀ x ∈ ownL A, x < wr.heap.size) (hg : W.grownBy W' (Value.slice A m c).ownBlock) : Blk W' X 25 x.cs := by
  exact h.b.grow hg (fun x hx e => by have h1 := hlo x hx; have h2 := h.l; omega)
end
theorem all_case {n : Net} {sl : List Pkt} {pm : Pkt} {y : Nt} {ee : Int} (hd : n.d = ⟨sl.map Pkt.d, []⟩) (hk : (Nt.mk (sl.map Pkt.d) []).chk = true) (hl : sl.length < 4096) (hx : n.d.send pm.d = (y, ee)) :
    (ee ≠ 0) ∨ (ee = 0 ∧ y = ⟨(sl ++ [pm]).map Pkt.d, []⟩ ∧ (Nt.mk ((sl ++ [pm]).map Pkt.d) []).chk = true) := by
  rw [hd] at hx
  cases hp : pkB pm.d with
  | true =>
    obtain ⟨h1, h2⟩ := all_send hk hp (by simpa using hl)
    rw [h1] at hx
    injection hx with e1 e2
    refine .inr ⟨e2.symm, ?_, ?_⟩
    · rw [← e1, List.map_append]; rfl
    · rw [List.map_append]; exact h2
  | false =>
    rw [all_refused hp] at hx
    injection hx with e1 e2
    exact .inl (by rw [← e2]; decide)
def lenV : Value → Nat
  | .slice _ n _ => n
  | _ => 0
theorem wpList_appN {P : Program} {w : World} {o : Oper} {a : Act} {Q : Exit → Act → World → Prop} {ops : Array Oper} {rest : List Oper} (hgd : o.guard = none) (s x : Operand) (t : TypeId) (ho : o.op = .call { callee := .builtin .append, args := #[s, x], argTypes := #[t, t] })
    (base : Nat) (e : TypeId) (i : TypeInfo) (z : Value) (size bytes : Nat) (ht : P.underlying t = some (.slice e)) (hi : P.info? e = some i ∧ i.zero = some z ∧ i.size = size ∧ i.bytes = bytes) (hzs : z.cells.size = size) (hsz : 0 < size)
    (v : Value) (n : Nat) (xs : List Value) (hs : a.eval s = v) (hown : w.ownsRow base e size v n xs)
    (A : Option Addr) (m c : Nat) (news : List Value) (hx : a.eval x = .slice A m c) (hA : A = none → m = 0 ∧ c = 0) (hl : news.length = m * size) (hnews : ∀ ad, A = some ad → ∀ j u, news[j]? = some u → w.cell? (ad.add j) = some u) (h1 : ∀ u ∈ news, u.oneCell' = true)
    (h63 : n + m ≤ maxLen) (hbytes : (n + m) * bytes ≤ 140737488355328) (hbase : base ≤ w.heap.size) (N : Nat) (hN : N = n + m) (L : List Value) (hL : L = xs ++ news)
    (h : ∀ A' cap w', w'.ownsRow base e size (.slice A' N cap) N L → w.grownBy w' v.ownBlock → wpList P ops Q rest (a.put o.dst (.slice A' N cap)) w') : wpList P ops Q (o :: rest) a w := by
  subst hN hL
  exact wpList_app hgd s x t ho base e i z size bytes ht hi hzs hsz v n xs hs hown A m c news hx hA hl hnews h1 h63 hbytes hbase h

set_option maxRecDepth 100000 in
set_option maxHeartbeats 12800000 in
theorem all_walk (qA : Option Addr) (ql : List Pkt) (qc : Nat) (rA : Option Addr) (rl : List UInt8) (rc : Nat) (w : World) (hq : PksIn all ⟨qA, ql, qc⟩ w) (hr : Sec.In all ⟨rA, rl, rc⟩ w) : Calls Try.prog 6 #[.slice qA ql.length qc, .slice rA rl.length rc] w fun e w' => e = .returned (.bool true) ∧ Below w.heap.size w w' := by
  go_enter Try.func6, Try.ntmps6
  have HQ := hide hq
  have HR0 := hide hr
  clear hq hr
  go_wp2_with fail
  refine (sane_any _).mono ?_
  rintro e w1 ⟨rfl, hb⟩
  have H1 := hide hb
  clear hb
  by_cases h12 : 12 < ql.length
  · have h12' : (12 : Int) < (ql.length : Int) := by omega
    go_wp2_with fail
    go_ret
    exact ⟨rfl, H1.out⟩
  · have h12' : ¬ (12 : Int) < (ql.length : Int) := by omega
    go_wp2_with fail
    refine (new_any _).mono ?_
    rintro e w2 ⟨rfl, hb⟩
    have H2 := hide (below_one H1.out hb)
    clear hb H1
    have HOE := hide (OE.start H2.out)
    go_wp2_with fail
    generalize w2.heap.size = X3 at *
    clear H2
    go_loopw [6, 7] (fun s i wr => ∃ (k : Nat) (n : Net) (A : Option Addr) (sl : List Pkt) (cap : Nat), k ≤ ql.length ∧ sl.length ≤ k ∧ i = .int .i64 k ∧ s = .slice A sl.length cap ∧ Hid (OE w X3 n ⟨A, sl, cap⟩ wr) ∧ Hid (n.d = ⟨sl.map Pkt.d, []⟩) ∧ Hid ((Nt.mk (sl.map Pkt.d) []).chk = true)) (fun _ i _ => ql.length - (intOf i).toNat)
    case atStart => exact ⟨0, Net.zero, none, [], 0, by omega, by simp, rfl, rfl, HOE, hide rfl, hide rfl⟩
    case round =>
      clear HOE
      obtain ⟨k, n, A, sl, cap, hk, hsl, rfl, rfl, HO, HD, HK⟩ := hrel
      by_cases hlt : k < ql.length
      · have hlt' : (k : Int) < (ql.length : Int) := by omega
        obtain ⟨b, o, hA, hb2, f0, f1, f2⟩ := HQ.out.at hlt
        have HPM := hide (HQ.out.p _ (List.getElem_mem hlt))
        replace hA : qA = some ⟨b, o, none⟩ := hA
        subst hA
        replace HPM := hide (show (ql[k]).In all w from HPM.out)
        generalize ql[k] = pm at f0 f1 f2 HPM
        have HMW := hide (fun W (hW : Below w.heap.size w W) => pk_cells hb2 f0 f1 f2 hW)
        clear f0 f1 f2 hb2
        obtain ⟨y, ee, hx⟩ : ∃ y ee, n.d.send pm.d = (y, ee) := ⟨_, _, rfl⟩
        have HX := hide hx
        have HT := hide (show (ee ≠ 0) ∨ (ee = 0 ∧ y = ⟨(sl ++ [pm]).map Pkt.d, []⟩ ∧ (Nt.mk ((sl ++ [pm]).map Pkt.d) []).chk = true) from all_case HD.out HK.out (by omega) hx)
        clear hx
        have HB3 := hide (fun W (hW : Below wr.heap.size wr W) => ((HO.out.below hW).blk).c2)
        have HPA := hide (fun W (hW : Below wr.heap.size wr W) (L : List Nat) (hL : ∀ x ∈ L, w.heap.size ≤ x) => all_arg HPM.out hL (below_one HO.out.bel hW))
        go_upto_region 10 with (fail)
        go_cut [8, 9] from 27 to 35 (fun u z W => ∃ (X : Nat) (x : Net), u = .pointer (some ⟨X, 0, none⟩) ∧ z = .int .i64 ee ∧ Hid (x.d = y) ∧ Hid (RN wr W (X3 :: ownL A) X x))
        case first =>
          refine wp_region_plan4 (fun W => Below wr.heap.size wr W) (.take 0 (.take 1 (.take 2 (.take 3 (.take 4 (.both 5 (.take 6 (.take 7 (.take 8 (.run 9 (.run 10 (.run 11 .done)))))) 9 (.run 5 (.take 6 (.take 7 (.take 8 (.run 10 (.run 11 .done)))))))))))) (by kernel_rfl) (by kernel_rfl) ((Below.refl _ _).drew) ?_
          have HF0 := hide (show Below wr.heap.size wr wr.drew from (Below.refl _ _).drew)
          generalize wr.drew = wD at HF0 ⊢
          (refine plan4_take (o := ?_) (v := ?_) (by simp only [List.getElem?_toArray, List.getElem?_cons_zero]; rfl) (yields_run (by rfl) ?_) ?_; rotate_left; (focus (intro w' hw'; obtain ⟨c0, c1⟩ := HB3.out w' hw'; obtain ⟨f0, f1, f2⟩ := HMW.out w' (below_one HO.out.bel hw'); go_simp <;> with_reducible rfl)); (simp only [Act.put, List.setIfInBounds_toArray, List.set_cons_zero, List.set_cons_succ]))
          (refine plan4_take (o := ?_) (v := ?_) (by simp only [List.getElem?_toArray, List.getElem?_cons_succ, List.getElem?_cons_zero]; rfl) (yields_run (by rfl) ?_) ?_; rotate_left; (focus (intro w' hw'; skip; go_simp <;> with_reducible rfl)); (simp only [Act.put, List.setIfInBounds_toArray, List.set_cons_zero, List.set_cons_succ]))
          (refine plan4_take (o := ?_) (v := ?_) (by simp only [List.getElem?_toArray, List.getElem?_cons_succ, List.getElem?_cons_zero]; rfl) (yields_run (by rfl) ?_) ?_; rotate_left; (focus (intro w' hw'; skip; go_simp <;> with_reducible rfl)); (simp only [Act.put, List.setIfInBounds_toArray, List.set_cons_zero, List.set_cons_succ]))
          (refine plan4_take (o := ?_) (v := ?_) (by simp only [List.getElem?_toArray, List.getElem?_cons_succ, List.getElem?_cons_zero]; rfl) (yields_run (by rfl) ?_) ?_; rotate_left; (focus (intro w' hw'; skip; go_simp <;> with_reducible rfl)); (simp only [Act.put, List.setIfInBounds_toArray, List.set_cons_zero, List.set_cons_succ]))
          (refine plan4_take (o := ?_) (v := ?_) (by simp only [List.getElem?_toArray, List.getElem?_cons_succ, List.getElem?_cons_zero]; rfl) (yields_run (by rfl) ?_) ?_; rotate_left; (focus (intro w' hw'; obtain ⟨c0, c1⟩ := HB3.out w' hw'; obtain ⟨f0, f1, f2⟩ := HMW.out w' (below_one HO.out.bel hw'); go_simp <;> with_reducible rfl)); (simp only [Act.put, List.setIfInBounds_toArray, List.set_cons_zero, List.set_cons_succ]))
          refine plan4_both (o1 := ?_) (o2 := ?_) (by simp only [List.getElem?_toArray, List.getElem?_cons_succ, List.getElem?_cons_zero]; rfl) (by simp only [List.getElem?_toArray, List.getElem?_cons_succ, List.getElem?_cons_zero]; rfl) ?_ ?_
          · intro R HR
            have HN5 := hide (show n.In (okL (X3 :: ownL A)) wD from HO.out.nin.below HF0.out)
            have HLL := hide (show ∀ x ∈ X3 :: ownL A, w.heap.size ≤ x ∧ x < wD.heap.size from fun x hx => by
              have h1 := HO.out.lt x hx
              have h2 := HF0.out.size
              exact ⟨h1.1, by omega⟩)
            have HPS := hide (HPA.out wD HF0.out (X3 :: ownL A) (fun x hx => (HLL.out x hx).1))
            go_wp2_with fail
            with_reducible refine (send_is HX.out wD (okL_new (fun x hx => (HLL.out x hx).2)) HN5.out HPS.out).mono ?_
            rintro e v5 ⟨n', rfl, hd, hi, hb⟩
            have HDN := hide hd
            have HI5 := hide hi
            have HF5 := hide (below_one HF0.out hb)
            clear hd hi hb HLL HPS
            go_wp2_with fail
            refine HR.out _ _ HF5.out ?_
            clear HR
            (refine plan4_take (o := ?_) (v := ?_) (by simp only [List.getElem?_toArray, List.getElem?_cons_succ, List.getElem?_cons_zero]; rfl) (yields_run (by rfl) ?_) ?_; rotate_left; (focus (intro w' hw'; skip; go_simp <;> with_reducible rfl)); (simp only [Act.put, List.setIfInBounds_toArray, List.set_cons_zero, List.set_cons_succ]))
            (refine plan4_take (o := ?_) (v := ?_) (by simp only [List.getElem?_toArray, List.getElem?_cons_succ, List.getElem?_cons_zero]; rfl) (yields_run (by rfl) ?_) ?_; rotate_left; (focus (intro w' hw'; skip; go_simp <;> with_reducible rfl)); (simp only [Act.put, List.setIfInBounds_toArray, List.set_cons_zero, List.set_cons_succ]))
            (refine plan4_take (o := ?_) (v := ?_) (by simp only [List.getElem?_toArray, List.getElem?_cons_succ, List.getElem?_cons_zero]; rfl) (yields_run (by rfl) ?_) ?_; rotate_left; (focus (intro w' hw'; skip; go_simp <;> with_reducible rfl)); (simp only [Act.put, List.setIfInBounds_toArray, List.set_cons_zero, List.set_cons_succ]))
            refine plan4_run (o := ?_) (by simp only [List.getElem?_toArray, List.getElem?_cons_succ, List.getElem?_cons_zero]; rfl) ?_
            intro R HR
            have HB59 := hide (Blk.new v5 25 [.slice none 0 0, .slice none 0 0])
            have HL59 := hide (show wr.heap.size ≤ v5.heap.size from HF5.out.size)
            have HF59 := hide (HF5.out.alloc HF5.out.size (.cells #[.slice none 0 0, .slice none 0 0] 25))
            have HI59 := hide ((HI5.out.weak okL_cons).below (below_new v5 (.cells #[.slice none 0 0, .slice none 0 0] 25)))
            go_wp2_with fail
            refine HR.out _ _ HF59.out ?_
            clear HR
            refine plan4_run (o := ?_) (by simp only [List.getElem?_toArray, List.getElem?_cons_succ, List.getElem?_cons_zero]; rfl) ?_
            intro R HR
            have HRN := hide (RN.fill (x := n') HF59.out HB59.out HL59.out HI59.out)
            refine wpList_store_row rfl 25 (.tmp 8) (.tmp 34) rfl _ #[.slice n'.q.A n'.q.l.length n'.q.cap, .slice n'.a.A n'.a.l.length n'.a.cap] rfl rfl 25 _ HB59.out Try.size25 rfl (one25 _ _ _ _ _ _) ?_
            refine HR.out _ _ HRN.out.bel ?_
            clear HR
            refine plan4_run (o := ?_) (by simp only [List.getElem?_toArray, List.getElem?_cons_succ, List.getElem?_cons_zero]; rfl) ?_
            intro R HR
            go_wp2_with fail
            refine HR.out _ _ HRN.out.bel ?_
            clear HR
            refine plan4_done ?_
            go_wp2_with fail
            go_meet
            case rel => exact ⟨v5.heap.size, n', rfl, rfl, HDN, HRN⟩
          · intro R HR
            have HB9 := hide (Blk.new wD 25 [.slice none 0 0, .slice none 0 0])
            have HL9 := hide (show wr.heap.size ≤ wD.heap.size from HF0.out.size)
            have HF9 := hide (HF0.out.alloc HF0.out.size (.cells #[.slice none 0 0, .slice none 0 0] 25))
            go_wp2_with fail
            refine HR.out _ _ HF9.out ?_
            clear HR
            refine plan4_run (o := ?_) (by simp only [List.getElem?_toArray, List.getElem?_cons_succ, List.getElem?_cons_zero]; rfl) ?_
            intro R HR
            have HN95 := hide (show n.In (okL (wD.heap.size :: X3 :: ownL A)) (wD.alloc (.cells #[.slice none 0 0, .slice none 0 0] 25)) from (HO.out.nin.weak (fun b hb h => okL_cons b (Nat.lt_of_lt_of_le hb HL9.out) h)).below HF9.out)
            have HLL := hide (show ∀ x ∈ wD.heap.size :: X3 :: ownL A, w.heap.size ≤ x ∧ x < (wD.alloc (.cells #[.slice none 0 0, .slice none 0 0] 25)).heap.size from fun x hx => by
              rcases List.mem_cons.1 hx with rfl | hx
              · exact ⟨Nat.le_trans HO.out.bel.size HL9.out, HB9.out.lt⟩
              have h1 := HO.out.lt x hx
              have h2 := HF9.out.size
              exact ⟨h1.1, by omega⟩)
            have HPS := hide (HPA.out (wD.alloc (.cells #[.slice none 0 0, .slice none 0 0] 25)) HF9.out (wD.heap.size :: X3 :: ownL A) (fun x hx => (HLL.out x hx).1))
            go_wp2_with fail
            with_reducible refine (send_is HX.out (wD.alloc (.cells #[.slice none 0 0, .slice none 0 0] 25)) (okL_new (fun x hx => (HLL.out x hx).2)) HN95.out HPS.out).mono ?_
            rintro e v5 ⟨n', rfl, hd, hi, hb⟩
            have HDN := hide hd
            have HI5 := hide hi
            have HF95 := hide (below_one HF9.out hb)
            have HB95 := hide (HB9.out.below hb HB9.out.lt)
            clear hd hi hb HLL HPS
            go_wp2_with fail
            refine HR.out _ _ HF95.out ?_
            clear HR
            (refine plan4_take (o := ?_) (v := ?_) (by simp only [List.getElem?_toArray, List.getElem?_cons_succ, List.getElem?_cons_zero]; rfl) (yields_run (by rfl) ?_) ?_; rotate_left; (focus (intro w' hw'; skip; go_simp <;> with_reducible rfl)); (simp only [Act.put, List.setIfInBounds_toArray, List.set_cons_zero, List.set_cons_succ]))
            (refine plan4_take (o := ?_) (v := ?_) (by simp only [List.getElem?_toArray, List.getElem?_cons_succ, List.getElem?_cons_zero]; rfl) (yields_run (by rfl) ?_) ?_; rotate_left; (focus (intro w' hw'; skip; go_simp <;> with_reducible rfl)); (simp only [Act.put, List.setIfInBounds_toArray, List.set_cons_zero, List.set_cons_succ]))
            (refine plan4_take (o := ?_) (v := ?_) (by simp only [List.getElem?_toArray, List.getElem?_cons_succ, List.getElem?_cons_zero]; rfl) (yields_run (by rfl) ?_) ?_; rotate_left; (focus (intro w' hw'; skip; go_simp <;> with_reducible rfl)); (simp only [Act.put, List.setIfInBounds_toArray, List.set_cons_zero, List.set_cons_succ]))
            refine plan4_run (o := ?_) (by simp only [List.getElem?_toArray, List.getElem?_cons_succ, List.getElem?_cons_zero]; rfl) ?_
            intro R HR
            have HRN := hide (RN.fill (x := n') HF95.out HB95.out HL9.out HI5.out)
            refine wpList_store_row rfl 25 (.tmp 8) (.tmp 34) rfl _ #[.slice n'.q.A n'.q.l.length n'.q.cap, .slice n'.a.A n'.a.l.length n'.a.cap] rfl rfl 25 _ HB95.out Try.size25 rfl (one25 _ _ _ _ _ _) ?_
            refine HR.out _ _ HRN.out.bel ?_
            clear HR
            refine plan4_run (o := ?_) (by simp only [List.getElem?_toArray, List.getElem?_cons_succ, List.getElem?_cons_zero]; rfl) ?_
            intro R HR
            go_wp2_with fail
            refine HR.out _ _ HRN.out.bel ?_
            clear HR
            refine plan4_done ?_
            go_wp2_with fail
            go_meet
            case rel => exact ⟨wD.heap.size, n', rfl, rfl, HDN, HRN⟩
        case rest =>
          obtain ⟨X, x, rfl, rfl, HDN, HR⟩ := hcut
          have HO1 := hide (HO.out.below HR.out.bel)
          have HLO := hide (fun z (hz : z ∈ ownL A) => (HO.out.lt z (List.mem_cons_of_mem _ hz)).2)
          rcases HT.out with he | ⟨rfl, hy, hck⟩
          · have hne : (ee == (0 : Int)) = false := by simpa using he
            clear he
            go_wp2_with fail
            go_roundw
            case rel => exact ⟨k + 1, n, A, sl, cap, by omega, by omega, by go_num, rfl, HO1, HD, HK⟩
            case measure => simp [intOf]; omega
          · have HY := hide (HDN.out.trans hy)
            have HCK := hide hck
            clear hy hck HDN HX HT
            obtain ⟨c0, c1⟩ := HR.out.b.c2
            have HB3' := hide HO1.out.blk
            have HOP := hide (HO1.out.put (x := x) (HR.out.xin.weak (okL_sub (fun z hz => List.mem_cons_of_mem _ hz))))
            obtain ⟨i28, hi28⟩ := hinfo28
            have HI28 := hide hi28
            clear hi28
            have HPM2 := hide (all_arg (L := X3 :: ownL A) HPM.out (fun z hz => (HO1.out.lt z hz).1) HOP.out.bel)
            skip
            go_upto_region 13 with (refine wpList_store_row rfl 25 (.tmp 5) (.tmp 38) rfl X3 #[.slice x.q.A x.q.l.length x.q.cap, .slice x.a.A x.a.l.length x.a.cap] rfl rfl 25 _ HB3'.out Try.size25 rfl (one25 _ _ _ _ _ _) ?_)
            replace HOP := hide (show OE w X3 x ⟨A, sl, cap⟩ (wc.setRow X3 #[.slice x.q.A x.q.l.length x.q.cap, .slice x.a.A x.a.l.length x.a.cap]) from HOP.out)
            replace HPM2 := hide (show pm.In (okL (X3 :: ownL A)) (wc.setRow X3 #[.slice x.q.A x.q.l.length x.q.cap, .slice x.a.A x.a.l.length x.a.cap]) from HPM2.out)
            clear c0 c1 HB3' HR HLO HO1
            generalize wc.setRow X3 #[.slice x.q.A x.q.l.length x.q.cap, .slice x.a.A x.a.l.length x.a.cap] = wS at *
            have HOE1 := hide (HOP.out.below (below_new wS (.cells pm.cs.toArray 28)))
            have HPM3 := hide (HPM2.out.below (below_new wS (.cells pm.cs.toArray 28)))
            have hbase := HOE1.out.bel.size
            obtain ⟨f0, f1, f2⟩ := HMW.out _ HOP.out.bel
            go_wp2_with (refine wpList_append_lies _ rfl (.tmp 39) (.tmp 44) 22 rfl w.heap.size 28 i28 _ 3 40 Try.underlying22 HI28.out.1 HI28.out.2.1 HI28.out.2.2.1 HI28.out.2.2.2 rfl (by decide) _ sl.length (sl.flatMap Pkt.cs) rfl HOE1.out.own ⟨wS.heap.size, 0, none⟩ 1 1 pm.cs rfl rfl (fun j u hu => new_cells wS 28 pm.cs _ rfl j u hu) (pk_one pm) (by decide) (by unfold maxLen; omega) (by omega) hbase _ rfl ?_; intro g6 c6 w6 hown hg hat hlt6; have HOA := hide (HOE1.out.app hown hg hat HPM3.out); clear hown hg hat hlt6)
            go_roundw
            case rel => exact ⟨k + 1, x, some ⟨g6, 0, none⟩, sl ++ [pm], c6, by omega, by simp only [List.length_append, List.length_cons, List.length_nil]; omega, by go_num, by simp, HOA, HY, HCK⟩
            case measure => simp [intOf]; omega
      · have hlt' : ¬ (k : Int) < (ql.length : Int) := by omega
        go_wp2_with fail
        skip
        go_loopw [6, 10] (fun s j wl => ∃ (jj : Nat) (n2 : Net) (A2 : Option Addr) (sl2 : List Pkt) (cap2 : Nat), jj + sl2.length ≤ 12 ∧ j = .int .i64 jj ∧ s = .slice A2 sl2.length cap2 ∧ Hid (OE w X3 n2 ⟨A2, sl2, cap2⟩ wl) ∧ Hid (n2.d = ⟨sl2.map Pkt.d, []⟩) ∧ Hid ((Nt.mk (sl2.map Pkt.d) []).chk = true)) (fun s _ _ => lenV s)
        case atStart => exact ⟨0, n, A, sl, cap, by omega, rfl, rfl, HO, HD, HK⟩
        case round =>
          clear HO HD HK
          obtain ⟨jj, n2, A2, sl2, cap2, hj, rfl, rfl, HO, HD, HK⟩ := hrel
          by_cases hpos : 0 < sl2.length
          · have hpos' : (0 : Int) < (sl2.length : Int) := by omega
            go_upto_if 54 with (fail)
            go_cut [11] from 51 to 62 (fun u W => ∃ a : Nat, a < sl2.length ∧ u = .int .i64 a ∧ Hid (Below wr.heap.size wr W))
            case first =>
              by_cases hjr : jj < rl.length
              · have hjr' : (jj : Int) < (rl.length : Int) := by omega
                obtain ⟨b, o, hA, hb2, hcell⟩ := (SlIn.below HR0.out HO.out.bel).at (m := 1) (fun _ => rfl) (by decide) hjr
                have f0 := hcell 0 _ rfl
                simp only [Nat.mul_one, Nat.add_zero] at f0
                clear hcell hb2
                replace hA : rA = some ⟨b, o, none⟩ := hA
                subst hA
                have hcl := (rl[jj]).toNat_lt
                replace f0 : wr.cell? ⟨b, o + jj, none⟩ = some (.int .u8 ((rl[jj]).toNat : Nat)) := f0
                generalize rl[jj] = c at f0 hcl
                obtain ⟨a, ha⟩ : ∃ a, a = c.toNat % sl2.length := ⟨_, rfl⟩
                have hal : a < sl2.length := by rw [ha]; exact Nat.mod_lt _ hpos
                have hw1 : IntKind.i64.wrap (c.toNat : Int) = (c.toNat : Int) := wrapi_small _ (by omega)
                have hw7 : (c.toNat : Int).tmod (sl2.length : Int) = (a : Int) := by rw [Int.tmod_eq_emod_of_nonneg (by omega), ha, Int.natCast_emod]
                have hw8 : IntKind.i64.wrap (a : Int) = (a : Int) := wrapi_small _ (by omega)
                have hnz : (sl2.length : Int) ≠ 0 := by omega
                clear ha
                go_wp2_with fail
                go_meet
                case rel => exact ⟨a, hal, rfl, hide (Below.refl _ _)⟩
              · have hjr' : ¬ (jj : Int) < (rl.length : Int) := by omega
                go_wp2_with fail
                go_meet
                case rel => exact ⟨0, hpos, rfl, hide (Below.refl _ _)⟩
            case rest =>
              obtain ⟨a, hal, rfl, HBW⟩ := hcut
              replace HO := hide (HO.out.below HBW.out)
              clear HBW
              obtain ⟨hg1, hck2⟩ := all_give HK.out (i := a) (by simpa using hal)
              have HCK2 := hide hck2
              have HSA := hide (show sl2[a]? = some sl2[a] from List.getElem?_eq_getElem hal)
              have HGV := hide (show n2.d.give (a : Int) = ((sl2[a]).d, ⟨((sl2.take a ++ sl2.drop (a + 1))).map Pkt.d, []⟩, 0) by rw [HD.out, hg1, List.map_append, List.map_take, List.map_drop, List.getElem_map])
              clear hg1 hck2
              obtain ⟨b2, o2, hA2, hb3, e0, e1, e2⟩ := (PksIn.mk (own_in (ok := all) HO.out.own rfl (fun _ _ => trivial)) (fun p hp => (HO.out.sin p hp).weak (fun _ _ _ => trivial))).at hal
              have HPK := hide ((HO.out.sin _ (List.getElem_mem hal)).weak (ok' := all) fun _ _ _ => trivial)
              replace hA2 : A2 = some ⟨b2, o2, none⟩ := hA2
              subst hA2
              replace HPK := hide (show (sl2[a]).In all _ from HPK.out)
              obtain ⟨pa, hpa⟩ : ∃ pa, pa = sl2[a] := ⟨_, rfl⟩
              have hpd : (sl2[a]).d = pa.d := by rw [hpa]
              replace HGV := hide (show n2.d.give (a : Int) = (pa.d, _, 0) from by rw [← hpd]; exact HGV.out)
              replace e0 : wc.cell? ⟨b2, o2 + a * 3, none⟩ = some (.int .i64 pa.fr) := by rw [hpa]; exact e0
              replace e1 : wc.cell? ⟨b2, o2 + a * 3 + 1, none⟩ = some (.int .i64 pa.to) := by rw [hpa]; exact e1
              replace e2 : wc.cell? ⟨b2, o2 + a * 3 + 2, none⟩ = some pa.s.v := by rw [hpa]; exact e2
              replace HPK := hide (show pa.In all wc by rw [hpa]; exact HPK.out)
              clear hpa hpd HSA
              have HP3 := hide (fun W (hW : Below wc.heap.size wc W) => pk_cells hb3 e0 e1 e2 hW)
              clear e0 e1 e2 hb3
              obtain ⟨c0, c1⟩ := HO.out.blk.c2
              have HC := hide (give_is HGV.out _ (okL_new (fun x hx => (HO.out.lt x hx).2)) HO.out.nin)
              go_wp2_with fail
              refine HC.out.mono ?_
              rintro e w1 ⟨p12, x13, rfl, hd, hd2, hi, hi2, hb⟩
              have HZ := hide (new2_blk w1 #[.int .i64 p12.fr, .int .i64 p12.to, .slice p12.s.A p12.s.l.length p12.s.cap])
              have HRX := hide (RX.new2 hb hi hi2)
              have HPD := hide hd
              have HXD := hide hd2
              clear hd hd2 hi hi2 hb HC c0 c1
              go_upto_region 21 with (first | (refine wpList_store_row rfl 28 (.tmp 12) (.tmp 67) rfl w1.heap.size #[.int .i64 p12.fr, .int .i64 p12.to, .slice p12.s.A p12.s.l.length p12.s.cap] rfl rfl 28 _ HZ.out.1 Try.size28 rfl (one28 _ _ _ _ _) ?_) | (refine wpList_store_row rfl 25 (.tmp 13) (.tmp 68) rfl (w1.heap.size + 1) #[.slice x13.q.A x13.q.l.length x13.q.cap, .slice x13.a.A x13.a.l.length x13.a.cap] rfl rfl 25 _ HZ.out.2 Try.size25 rfl (one25 _ _ _ _ _ _) ?_))
              replace HRX := hide (show RX wc ((((w1.alloc (.cells #[.int .i64 0, .int .i64 0, .slice none 0 0] 28)).alloc (.cells #[.slice none 0 0, .slice none 0 0] 25)).setRow w1.heap.size #[.int .i64 p12.fr, .int .i64 p12.to, .slice p12.s.A p12.s.l.length p12.s.cap]).setRow (w1.heap.size + 1) #[.slice x13.q.A x13.q.l.length x13.q.cap, .slice x13.a.A x13.a.l.length x13.a.cap]) (X3 :: ownL (some ⟨b2, o2, none⟩)) (w1.heap.size + 1) w1.heap.size x13 p12 from HRX.out)
              clear HZ
              generalize (((w1.alloc (.cells #[.int .i64 0, .int .i64 0, .slice none 0 0] 28)).alloc (.cells #[.slice none 0 0, .slice none 0 0] 25)).setRow w1.heap.size #[.int .i64 p12.fr, .int .i64 p12.to, .slice p12.s.A p12.s.l.length p12.s.cap]).setRow (w1.heap.size + 1) #[.slice x13.q.A x13.q.l.length x13.q.cap, .slice x13.a.A x13.a.l.length x13.a.cap] = wB at *
              generalize w1.heap.size = X12 at *
              have HO2 := hide (HO.out.below HRX.out.bel)
              have HDC := hide (show decide (p12.d = pa.d) = true from decide_eq_true HPD.out)
              have HP4 := hide (fun W (hW : Below wB.heap.size wB W) => And.intro (HP3.out W (below_one HRX.out.bel hW)) ((HRX.out.below hW).b8).c3)
              refine wp_region_plan4 (fun W => Below wB.heap.size wB W) (.take 0 (.take 1 (.take 2 (.take 3 (.take 4 (.take 5 (.take 6 (.take 7 (.run 8 (.take 9 (.take 10 .done))))))))))) (by kernel_rfl) (by kernel_rfl) ((Below.refl _ _).drew) ?_
              have HF0 := hide (show Below wB.heap.size wB wB.drew from (Below.refl _ _).drew)
              generalize wB.drew = wD at HF0 ⊢
              (refine plan4_take (o := ?_) (v := ?_) (by simp only [List.getElem?_toArray, List.getElem?_cons_zero]; rfl) (yields_run (by rfl) ?_) ?_; rotate_left; (focus (intro w' hw'; skip; go_simp <;> with_reducible rfl)); (simp only [Act.put, List.setIfInBounds_toArray, List.set_cons_zero, List.set_cons_succ]))
              (refine plan4_take (o := ?_) (v := ?_) (by simp only [List.getElem?_toArray, List.getElem?_cons_succ, List.getElem?_cons_zero]; rfl) (yields_run (by rfl) ?_) ?_; rotate_left; (focus (intro w' hw'; skip; go_simp <;> with_reducible rfl)); (simp only [Act.put, List.setIfInBounds_toArray, List.set_cons_zero, List.set_cons_succ]))
              (refine plan4_take (o := ?_) (v := ?_) (by simp only [List.getElem?_toArray, List.getElem?_cons_succ, List.getElem?_cons_zero]; rfl) (yields_run (by rfl) ?_) ?_; rotate_left; (focus (intro w' hw'; skip; go_simp <;> with_reducible rfl)); (simp only [Act.put, List.setIfInBounds_toArray, List.set_cons_zero, List.set_cons_succ]))
              (refine plan4_take (o := ?_) (v := ?_) (by simp only [List.getElem?_toArray, List.getElem?_cons_succ, List.getElem?_cons_zero]; rfl) (yields_run (by rfl) ?_) ?_; rotate_left; (focus (intro w' hw'; obtain ⟨⟨e0, e1, e2⟩, d0, d1, d2⟩ := HP4.out w' hw'; go_simp <;> with_reducible rfl)); (simp only [Act.put, List.setIfInBounds_toArray, List.set_cons_zero, List.set_cons_succ]))
              (refine plan4_take (o := ?_) (v := ?_) (by simp only [List.getElem?_toArray, List.getElem?_cons_succ, List.getElem?_cons_zero]; rfl) (yields_run (by rfl) ?_) ?_; rotate_left; (focus (intro w' hw'; skip; go_simp <;> with_reducible rfl)); (simp only [Act.put, List.setIfInBounds_toArray, List.set_cons_zero, List.set_cons_succ]))
              (refine plan4_take (o := ?_) (v := ?_) (by simp only [List.getElem?_toArray, List.getElem?_cons_succ, List.getElem?_cons_zero]; rfl) (yields_run (by rfl) ?_) ?_; rotate_left; (focus (intro w' hw'; skip; go_simp <;> with_reducible rfl)); (simp only [Act.put, List.setIfInBounds_toArray, List.set_cons_zero, List.set_cons_succ]))
              (refine plan4_take (o := ?_) (v := ?_) (by simp only [List.getElem?_toArray, List.getElem?_cons_succ, List.getElem?_cons_zero]; rfl) (yields_run (by rfl) ?_) ?_; rotate_left; (focus (intro w' hw'; skip; go_simp <;> with_reducible rfl)); (simp only [Act.put, List.setIfInBounds_toArray, List.set_cons_zero, List.set_cons_succ]))
              (refine plan4_take (o := ?_) (v := ?_) (by simp only [List.getElem?_toArray, List.getElem?_cons_succ, List.getElem?_cons_zero]; rfl) (yields_run (by rfl) ?_) ?_; rotate_left; (focus (intro w' hw'; obtain ⟨⟨e0, e1, e2⟩, d0, d1, d2⟩ := HP4.out w' hw'; go_simp <;> with_reducible rfl)); (simp only [Act.put, List.setIfInBounds_toArray, List.set_cons_zero, List.set_cons_succ]))
              refine plan4_run (o := ?_) (by simp only [List.getElem?_toArray, List.getElem?_cons_succ, List.getElem?_cons_zero]; rfl) ?_
              intro R HR
              go_wp2_with fail
              have HC := hide (samePk_is HDC.out wD ((HRX.out.pin.weak (ok' := all) fun _ _ _ => trivial).below HF0.out) (HPK.out.below (below_one HRX.out.bel HF0.out)))
              with_reducible refine HC.out.mono ?_
              rintro e v7 ⟨rfl, hb⟩
              have HF7 := hide (below_one HF0.out hb)
              clear hb HC
              go_wp2_with fail
              refine HR.out _ _ HF7.out ?_
              clear HR
              (refine plan4_take (o := ?_) (v := ?_) (by simp only [List.getElem?_toArray, List.getElem?_cons_succ, List.getElem?_cons_zero]; rfl) (yields_run (by rfl) ?_) ?_; rotate_left; (focus (intro w' hw'; skip; go_simp <;> with_reducible rfl)); (simp only [Act.put, List.setIfInBounds_toArray, List.set_cons_zero, List.set_cons_succ]))
              (refine plan4_take (o := ?_) (v := ?_) (by simp only [List.getElem?_toArray, List.getElem?_cons_succ, List.getElem?_cons_zero]; rfl) (yields_run (by rfl) ?_) ?_; rotate_left; (focus (intro w' hw'; skip; go_simp <;> with_reducible rfl)); (simp only [Act.put, List.setIfInBounds_toArray, List.set_cons_zero, List.set_cons_succ]))
              refine plan4_done ?_
              skip
              have HR7 := hide (HRX.out.below HF7.out)
              have HO7 := hide (HO2.out.below HF7.out)
              clear HRX HO2 HO HP3 HP4 HPK HF7 HF0 HDC
              obtain ⟨c0, c1⟩ := HR7.out.b7.c2
              have HB3' := hide HO7.out.blk
              have HOP := hide (HO7.out.put (x := x13) (HR7.out.xin.weak (okL_sub (fun z hz => List.mem_cons_of_mem _ (List.mem_cons_of_mem _ hz)))))
              go_upto_region 24 with (refine wpList_store_row rfl 25 (.tmp 5) (.tmp 81) rfl X3 #[.slice x13.q.A x13.q.l.length x13.q.cap, .slice x13.a.A x13.a.l.length x13.a.cap] rfl rfl 25 _ HB3'.out Try.size25 rfl (one25 _ _ _ _ _ _) ?_)
              replace HOP := hide (show OE w X3 x13 ⟨some ⟨b2, o2, none⟩, sl2, cap2⟩ (v7.setRow X3 #[.slice x13.q.A x13.q.l.length x13.q.cap, .slice x13.a.A x13.a.l.length x13.a.cap]) from HOP.out)
              clear c0 c1 HB3' HR7 HO7
              generalize v7.setRow X3 #[.slice x13.q.A x13.q.l.length x13.q.cap, .slice x13.a.A x13.a.l.length x13.a.cap] = wS at *
              have hcle : sl2.length ≤ cap2 ∧ cap2 ≤ 9223372036854775807 := own_caps HOP.out.own
              have hsin := own_in (ok := all) HOP.out.own rfl (fun _ _ => trivial)
              have HQ1 := hide (show SlIn Pkt.cs all ⟨subA (some ⟨b2, o2, none⟩) 0 cap2 3, sl2.take a, cap2⟩ wS by
      have := hsin.sub (k := 3) (fun _ => rfl) (lo := 0) (hi := a) (mx := cap2) (Nat.zero_le _) (Nat.le_of_lt hal) (by omega) (Nat.le_refl _)
      simpa using this)
              have HQ2 := hide (show SlIn Pkt.cs all ⟨subA (some ⟨b2, o2, none⟩) (a + 1) cap2 3, sl2.drop (a + 1), cap2 - (a + 1)⟩ wS by
      have := hsin.sub (k := 3) (fun _ => rfl) (lo := a + 1) (hi := sl2.length) (mx := cap2) hal (Nat.le_refl _) hcle.1 (Nat.le_refl _)
      simpa using this)
              clear hsin
              obtain ⟨i28, hi28⟩ := hinfo28
              have HI28 := hide hi28
              have hsz28 := hi28.2.2.1
              have HS1 := hide (show ∀ W, (Instr.sliceAt 22 (.slice (some ⟨b2, o2, none⟩) sl2.length cap2) none (some (.int .i64 (a : Int))) none).run Try.prog W = .ok (.slice (subA (some ⟨b2, o2, none⟩) 0 cap2 3) a cap2) W from fun W => by
      have := run_slice2 22 28 i28 Try.underlying22 hi28.1 (some ⟨b2, o2, none⟩) sl2.length cap2 a (by omega) W
      rw [hsz28] at this
      exact this)
              have HS2 := hide (show ∀ W, (Instr.sliceAt 22 (.slice (some ⟨b2, o2, none⟩) sl2.length cap2) (some (.int .i64 ((a : Int) + 1))) none none).run Try.prog W = .ok (.slice (subA (some ⟨b2, o2, none⟩) (a + 1) cap2 3) (sl2.length - (a + 1)) (cap2 - (a + 1))) W from fun W => by
      have := run_slice1 22 28 i28 Try.underlying22 hi28.1 (some ⟨b2, o2, none⟩) sl2.length cap2 (a + 1) (by omega) W
      rw [hsz28, show (((a + 1 : Nat) : Nat) : Int) = (a : Int) + 1 by omega] at this
      exact this)
              obtain ⟨sl3, hsl3⟩ : ∃ sl3, sl3 = sl2.take a ++ sl2.drop (a + 1) := ⟨_, rfl⟩
              have HS3 := hide hsl3
              have hl3 : sl3.length + 1 = sl2.length := by rw [hsl3, List.length_append, List.length_take, List.length_drop]; omega
              have HL3 := hide hl3
              have hl3' : sl3.length < 12 := by omega
              have HLN := hide (show sl3.length = a + (sl2.length - (a + 1)) by omega)
              clear hi28 hsz28 hsl3 hl3
              have hwr : IntKind.i64.wrap ((a : Int) + 1) = (a : Int) + 1 := IntWalk.i64_in _ (by omega)
              refine wp_region_plan4 (fun W => Below wS.heap.size wS W) (.take 1 (.take 2 (.take 3 (.take 5 (.take 6 (.take 7 (.take 8 (.run 0 (.run 4 (.run 9 (.take 10 .done))))))))))) (by kernel_rfl) (by kernel_rfl) ((Below.refl _ _).drew) ?_
              have HF0 := hide (show Below wS.heap.size wS wS.drew from (Below.refl _ _).drew)
              generalize wS.drew = wD at HF0 ⊢
              (refine plan4_take (o := ?_) (v := ?_) (by simp only [List.getElem?_toArray, List.getElem?_cons_succ, List.getElem?_cons_zero]; rfl) (yields_run (by rfl) ?_) ?_; rotate_left; (focus (intro w' hw'; skip; go_simp <;> with_reducible rfl)); (simp only [Act.put, List.setIfInBounds_toArray, List.set_cons_zero, List.set_cons_succ]))
              (refine plan4_take (o := ?_) (v := ?_) (by simp only [List.getElem?_toArray, List.getElem?_cons_succ, List.getElem?_cons_zero]; rfl) (yields_run (by rfl) ?_) ?_; rotate_left; (focus (intro w' hw'; skip; go_simp <;> with_reducible rfl)); (simp only [Act.put, List.setIfInBounds_toArray, List.set_cons_zero, List.set_cons_succ]))
              (refine plan4_take (o := ?_) (v := ?_) (by simp only [List.getElem?_toArray, List.getElem?_cons_succ, List.getElem?_cons_zero]; rfl) (yields_run (by rfl) ?_) ?_; rotate_left; (focus (intro w' hw'; have hsl := HS1.out; go_simp <;> with_reducible rfl)); (simp only [Act.put, List.setIfInBounds_toArray, List.set_cons_zero, List.set_cons_succ]))
              (refine plan4_take (o := ?_) (v := ?_) (by simp only [List.getElem?_toArray, List.getElem?_cons_succ, List.getElem?_cons_zero]; rfl) (yields_run (by rfl) ?_) ?_; rotate_left; (focus (intro w' hw'; skip; go_simp <;> with_reducible rfl)); (simp only [Act.put, List.setIfInBounds_toArray, List.set_cons_zero, List.set_cons_succ]))
              (refine plan4_take (o := ?_) (v := ?_) (by simp only [List.getElem?_toArray, List.getElem?_cons_succ, List.getElem?_cons_zero]; rfl) (yields_run (by rfl) ?_) ?_; rotate_left; (focus (intro w' hw'; skip; go_simp <;> with_reducible rfl)); (simp only [Act.put, List.setIfInBounds_toArray, List.set_cons_zero, List.set_cons_succ]))
              (refine plan4_take (o := ?_) (v := ?_) (by simp only [List.getElem?_toArray, List.getElem?_cons_succ, List.getElem?_cons_zero]; rfl) (yields_run (by rfl) ?_) ?_; rotate_left; (focus (intro w' hw'; skip; go_simp <;> with_reducible rfl)); (simp only [Act.put, List.setIfInBounds_toArray, List.set_cons_zero, List.set_cons_succ]))
              (refine plan4_take (o := ?_) (v := ?_) (by simp only [List.getElem?_toArray, List.getElem?_cons_succ, List.getElem?_cons_zero]; rfl) (yields_run (by rfl) ?_) ?_; rotate_left; (focus (intro w' hw'; have hsl := HS2.out; go_simp <;> with_reducible rfl)); (simp only [Act.put, List.setIfInBounds_toArray, List.set_cons_zero, List.set_cons_succ]))
              refine plan4_run (o := ?_) (by simp only [List.getElem?_toArray, List.getElem?_cons_zero]; rfl) ?_
              intro R HR
              have HW0 := hide (own_empty wD wS.heap.size 28 3 HF0.out.size)
              have HE0 := hide (HF0.out.alloc HF0.out.size (.cells #[] 28))
              go_wp2_with fail
              refine HR.out _ _ HE0.out ?_
              clear HR
              refine plan4_run (o := ?_) (by simp only [List.getElem?_toArray, List.getElem?_cons_succ, List.getElem?_cons_zero]; rfl) ?_
              intro R HR
              have hq := HQ1.out.below HE0.out
              refine wpList_appN rfl (.tmp 82) (.tmp 85) 22 rfl wS.heap.size 28 i28 _ 3 40 Try.underlying22 HI28.out rfl (by decide) _ 0 [] rfl HW0.out (subA (some ⟨b2, o2, none⟩) 0 cap2 3) a cap2 ((sl2.take a).flatMap Pkt.cs) rfl (fun h => by have := hq.nil0 h; simp only [List.length_take] at this; omega) (by rw [fl_len _ 3 (fun _ => rfl), List.length_take]; omega) hq.cels.opt (fun u hu => by obtain ⟨z, -, hz⟩ := List.mem_flatMap.1 hu; exact pk_one z u hz) (by unfold maxLen; omega) (by omega) (by simp only [World.size_alloc]; have := HF0.out.size; omega) a (by omega) _ rfl ?_
              intro A4 c4 w4 hown hgr
              have HW4 := hide hown
              have HE4 := hide (below_app HE0.out HW0.out hgr (Nat.le_refl _) (by have := HE0.out.size; omega))
              clear hown hgr hq
              refine HR.out _ _ HE4.out ?_
              clear HR
              refine plan4_run (o := ?_) (by simp only [List.getElem?_toArray, List.getElem?_cons_succ, List.getElem?_cons_zero]; rfl) ?_
              intro R HR
              have hq := HQ2.out.below HE4.out
              refine wpList_appN rfl (.tmp 86) (.tmp 90) 22 rfl wS.heap.size 28 i28 _ 3 40 Try.underlying22 HI28.out rfl (by decide) _ a _ rfl HW4.out (subA (some ⟨b2, o2, none⟩) (a + 1) cap2 3) (sl2.length - (a + 1)) (cap2 - (a + 1)) ((sl2.drop (a + 1)).flatMap Pkt.cs) rfl (fun h => by have := hq.nil0 h; simp only [List.length_drop] at this; omega) (by rw [fl_len _ 3 (fun _ => rfl), List.length_drop]) hq.cels.opt (fun u hu => by obtain ⟨z, -, hz⟩ := List.mem_flatMap.1 hu; exact pk_one z u hz) (by unfold maxLen; omega) (by omega) (by have := HE4.out.size; omega) sl3.length HLN.out (sl3.flatMap Pkt.cs) (by rw [HS3.out, List.flatMap_append]; rfl) ?_
              intro A9 c9 w9 hown hgr
              have HW9 := hide hown
              have HE9 := hide (below_app HE4.out HW4.out hgr (Nat.le_refl _) (by have := HE4.out.size; omega))
              clear hown hgr hq
              refine HR.out _ _ HE9.out ?_
              clear HR
              (refine plan4_take (o := ?_) (v := ?_) (by simp only [List.getElem?_toArray, List.getElem?_cons_succ, List.getElem?_cons_zero]; rfl) (yields_run (by rfl) ?_) ?_; rotate_left; (focus (intro w' hw'; skip; go_simp <;> with_reducible rfl)); (simp only [Act.put, List.setIfInBounds_toArray, List.set_cons_zero, List.set_cons_succ]))
              refine plan4_done ?_
              go_wp2_with fail
              go_roundw
              case rel => exact ⟨jj + 1, x13, A9, sl3, c9, by have := HL3.out; omega, by go_num, rfl, hide (HOP.out.anew (s' := ⟨A9, sl3, c9⟩) HE9.out HW9.out (fun p hp => by rw [HS3.out] at hp; rcases List.mem_append.1 hp with h | h; exact List.mem_of_mem_take h; exact List.mem_of_mem_drop h)), hide (HXD.out.trans (by rw [HS3.out])), hide (by have h := HCK2.out; rw [HS3.out, List.map_append, List.map_take, List.map_drop]; exact h)⟩
              case measure => simp only [lenV]; have := HL3.out; omega
          · have hpos' : ¬ (0 : Int) < (sl2.length : Int) := by omega
            have hn0 : n2.q.l.length = 0 := by have h := congrArg (fun z : Nt => z.q.length) HD.out; simp only [Net.d, List.length_map] at h; omega
            obtain ⟨c0, c1⟩ := HO.out.blk.c2
            rw [hn0] at c0
            clear hn0
            go_wp2_with fail
            go_ret
            exact ⟨rfl, HO.out.bel⟩
end Go.Proofs.Ythmaakiibgdigaa
