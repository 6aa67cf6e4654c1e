/- The text of a link tells the link. -/
import Derived.Test.YtalgceplcahgbaaDoorHed
import Derived.Test.YtalgceplcahgbaaDoorCPure
namespace Go.Proofs.YtalgceplcahgbaaDoor
open Go.RowKit Go.Shelf
theorem lnk_fits {w : World} {r : Lr} (hr : r.In w) (h1 : r.x.data.length ≤ 1000000) : (lnkT r.x none 0).fits := by
  have a := hr.node
  have b := hr.no
  have c := hr.p32
  simp [lnkT, Cdc.intT, Cdc.textT, Cdc.VT.fits, Cdc.VT.fits.fitss, ByteArray.size]
  omega
theorem lenc_inj {w w' : World} {r s : Lr} (hr : r.In w) (hs : s.In w') (h1 : r.x.data.length ≤ 1000000) (h2 : s.x.data.length ≤ 1000000) (h : lenc r.x = lenc s.x) : r.x = s.x := by
  have e := (Cdc.VT.enc_prefix (lnkT r.x none 0).sz (lnkT r.x none 0) (lnkT s.x none 0) [] [] (Nat.le_refl _) (by simp [lnkT, Cdc.intT, Cdc.textT, Cdc.VT.wf, Cdc.VT.wf.wfs]) (by simp [lnkT, Cdc.intT, Cdc.textT, Cdc.VT.wf, Cdc.VT.wf.wfs]) ?_ ?_ (by rw [List.append_nil, List.append_nil]; exact h)).1
  · obtain ⟨⟨n1, o1, p1, d1⟩, _, _⟩ := r
    obtain ⟨⟨n2, o2, p2, d2⟩, _, _⟩ := s
    simp [lnkT, Cdc.intT, Cdc.textT, Cdc.VT.same, Cdc.VT.same.sames, Cdc.VT.kind, Cdc.VT.num, Cdc.VT.str, Cdc.VT.els, ByteArray.toList_eq] at e
    simp [e]
  · exact lnk_fits hr h1
  · exact lnk_fits hs h2
end Go.Proofs.YtalgceplcahgbaaDoor
