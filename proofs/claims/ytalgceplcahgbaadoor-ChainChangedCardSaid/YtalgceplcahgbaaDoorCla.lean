/- The text of a link tells the link. -/
import Derived.Test.YtalgceplcahgbaaDoorHed
import Derived.Test.YtalgceplcahgbaaDoorCPure
import Derived.Test.YtalgceplcahgbaaDoorRtx
namespace Go.Proofs.YtalgceplcahgbaaDoor
open Go.RowKit Go.Shelf
theorem lnk_fits {w : World} {r : Lr} (hr : r.In w) (h1 : r.x.data.length ≤ 1000000) : (lnkT r.x none 0).fits := by
  have a := hr.node
  have b := hr.no
  have c := hr.p32
  simp [lnkT, Cdc.intT, Cdc.textT, Cdc.VT.fits, Cdc.VT.fits.fitss, ByteArray.size]
  omega
theorem lenc_inj {w w' : World} {r s : Lr} (hr : r.In w) (hs : s.In w') (h1 : r.x.data.length ≤ 1000000) (h2 : s.x.data.length ≤ 1000000) (h : lenc r.x = lenc s.x) : r.x = s.x := by
  have e := (Cdc.VT.enc_prefix (lnkT r.x none 0).sz (lnkT r.x none 0) (lnkT s.x none 0) [] [] (Nat.le_refl _) (by simp [lnkT, Cdc.intT, Cdc.textT, Cdc.VT.wf, Cdc.VT.wf.wfs]) (by simp [lnkT, Cdc.intT, Cdc.textT, Cdc.VT.wf, Cdc.VT.wf.wfs]) ?_ ?_ (by rw [List.append_nil, List.append_nil]; exact h)).1
  · obtain ⟨⟨n1, o1, p1, d1⟩, _, _⟩ := r
    obtain ⟨⟨n2, o2, p2, d2⟩, _, _⟩ := s
    simp [lnkT, Cdc.intT, Cdc.textT, Cdc.VT.same, Cdc.VT.same.sames, Cdc.VT.kind, Cdc.VT.num, Cdc.VT.str, Cdc.VT.els, ByteArray.toList_eq] at e
    simp [e]
  · exact lnk_fits hr h1
  · exact lnk_fits hs h2
end Go.Proofs.YtalgceplcahgbaaDoor

/- clash. -/
namespace Go.Proofs.YtalgceplcahgbaaDoor
open Go.RowKit Go.Shelf
set_option maxRecDepth 20000 in
set_option maxHeartbeats 3200000 in
theorem clash_any (A B : Option Addr) (l m : List Lr) (ca cb : Nat) (w : World) (hT : Tab w) (hl : Lks w A l) (hm : Lks w B m) (hlc : l.length ≤ ca) (hcx : ca ≤ 9223372036854775807) (hmc : m.length ≤ cb) (hcy : cb ≤ 9223372036854775807) (hs : Short l) (ht : Short m) (h0 : l ≠ []) (h1 : m ≠ []) :
    Calls Tryd.prog 44 #[.slice A l.length ca, .slice B m.length cb] w fun e w' => e = .returned (.bool (!decide (lenc (l.getLast h0).x = lenc (m.getLast h1).x) && (hdA (lnks l) == hdA (lnks m)))) ∧ Below w.heap.size w w' := by
  have HT := hide hT
  have HL := hide hl
  have HM := hide hm
  have HS := hide (And.intro hs ht)
  clear hT hl hm hs ht
  have HTA := hide (show Calls Tryd.prog 67 #[.slice A l.length ca] w fun e w' => ∃ (A1 : Option Addr) (c1 : Nat), e = .returned (.tuple #[.string ⟨#[108, 105, 110, 107]⟩, .slice A1 (lenc (l.getLast h0).x).length c1]) ∧ Sb w' A1 (lenc (l.getLast h0).x) ∧ Below w.heap.size w w' from
    (rtext_any A l ca w HL.out hlc hcx HS.out.1).mono fun e w' h => by
      obtain ⟨A1, c1, h1, h2, -⟩ := h.2.1 h0
      exact ⟨A1, c1, h1, h2, h.2.2⟩)
  have HTB := hide (fun (W : World) (hW : Below w.heap.size w W) => show Calls Tryd.prog 67 #[.slice B m.length cb] W fun e w' => ∃ (A1 : Option Addr) (c1 : Nat), e = .returned (.tuple #[.string ⟨#[108, 105, 110, 107]⟩, .slice A1 (lenc (m.getLast h1).x).length c1]) ∧ Sb w' A1 (lenc (m.getLast h1).x) ∧ Below W.heap.size W w' from
    (rtext_any B m cb W (HM.out.below hW) hmc hcy HS.out.2).mono fun e w' h => by
      obtain ⟨A1, c1, h2, h3, -⟩ := h.2.1 h1
      exact ⟨A1, c1, h2, h3, h.2.2⟩)
  have he := str_eq (lenc (l.getLast h0).x) (lenc (m.getLast h1).x)
  have HH1 := hide (fun (W : World) (h : Below w.heap.size w W) => head_any A l ca W (HT.out.below h) (HL.out.below h) hlc hcx HS.out.1)
  have HH2 := hide (fun (W : World) (h : Below w.heap.size w W) => head_any B m cb W (HT.out.below h) (HM.out.below h) hmc hcy HS.out.2)
  have H32 := hide (And.intro (hdA_32 (lnks l)) (hdA_32 (lnks m)))
  generalize hdA (lnks l) = g1 at *
  generalize hdA (lnks m) = g2 at *
  generalize lenc (l.getLast h0).x = t1 at *
  generalize lenc (m.getLast h1).x = t2 at *
  by_cases hxy : t1 = t2
  · rw [decide_eq_true hxy] at he ⊢
    have he2 : ((str t1).toList != (str t2).toList) = false := by rw [bne, he]; rfl
    clear hxy
    go_enter Tryd.func44, Tryd.ntmps44
    go_wp2_with fail
    refine HTA.out.mono ?_
    rintro e w1 ⟨A1, c1, rfl, s1, hb⟩
    have HB1 := hide hb
    have HS1 := hide s1
    clear hb s1 HTA
    go_wp2_with fail
    refine (HTB.out w1 HB1.out).mono ?_
    rintro e w2 ⟨A2, c2, rfl, s2, hb⟩
    have HB2 := hide (below_one HB1.out hb)
    have hv0 := sb_conv (cap := c1) (HS1.out.below hb)
    have hv1 := sb_conv (cap := c2) s2
    clear hb s2 HS1 HTB
    go_wp2_with fail
    go_ret
    exact ⟨rfl, HB2.out⟩
  · rw [decide_eq_false hxy] at he ⊢
    have he2 : ((str t1).toList != (str t2).toList) = true := by rw [bne, he]; rfl
    clear hxy
    go_enter Tryd.func44, Tryd.ntmps44
    go_wp2_with fail
    refine HTA.out.mono ?_
    rintro e w1 ⟨A1, c1, rfl, s1, hb⟩
    have HB1 := hide hb
    have HS1 := hide s1
    clear hb s1 HTA
    go_wp2_with fail
    refine (HTB.out w1 HB1.out).mono ?_
    rintro e w2 ⟨A2, c2, rfl, s2, hb⟩
    have HB2 := hide (below_one HB1.out hb)
    have hv0 := sb_conv (cap := c1) (HS1.out.below hb)
    have hv1 := sb_conv (cap := c2) s2
    clear hb s2 HS1 HTB
    go_wp2_with fail
    refine (HH1.out w2 HB2.out).mono ?_
    rintro e w3 ⟨rfl, hb3⟩
    have HB3 := hide (below_one HB2.out hb3)
    clear hb3
    go_wp2_with fail
    refine (HH2.out w3 HB3.out).mono ?_
    rintro e w4 ⟨rfl, hb4⟩
    have HB4 := hide (below_one HB3.out hb4)
    clear hb4
    go_wp2_with (refine wpList_eqlD rfl (.tmp 31) (.tmp 33) 26 rfl g1 g2 rfl rfl H32.out.1 H32.out.2 _ rfl ?_)
    go_ret
    exact ⟨by simp, HB4.out⟩
end Go.Proofs.YtalgceplcahgbaaDoor
