/-
  DERIVED. GIVEN WITH THE SEED: THE CARDS: each row of YthimljcfmnehcaaDoorRows.lean that lists a variable, with what it lists TIED to the program's text (the seventh form; the later family's looks); each row that meets fmt, with fmt's text TOLD by the authors' own Lean function (tested against real Go, not proved from fmt's source: count such statements apart). THE CARD IS WHAT COUNTS. Prove the row's statement (the work); the ties are given (YthimljcfmnehcaaDoorTie.lean); close each card by the builder's one call (the guide's Derived/Test/ToyasCard.lean, 'card_holds'). Laid BY PROGRAM, IN A SANDBOX (cutbox-door.mjs). By AI agents, Wed Nov 11 2026. No macro, syntax, notation, axiom, sorry.
-/
import Derived.Test.YthimljcfmnehcaaDoorRows
import GoSem.ClaimSeven
namespace Go.Proofs.YthimljcfmnehcaaDoor
namespace Rows

/-- THE TIED CARD OF 'signatorylaw02.DigestSumSpec'. -/
def digestSumSpecCard : Claim7 := { stood := { row := digestSumSpecRow, standIns := [], harness := (true, "95102a1977a47d1b281bd82c63d36467d06bfb52a1537a0ace17c5d9015d0678"), looks := false }, kinds := [], alts := [], laidByText := true, laidKinds := [.data], laidTests := true, laidLooks := .later }
def DigestSumSpecCardSaid : Prop := Claim7.holds Tryd.pinned (.plain (OpenSpec.ofChange digestSumSpecSpec)) digestSumSpecCard

/-- THE TIED CARD OF 'signatorylaw02.DigestTreeSpec'. -/
def digestTreeSpecCard : Claim7 := { stood := { row := digestTreeSpecRow, standIns := [], harness := (true, "95102a1977a47d1b281bd82c63d36467d06bfb52a1537a0ace17c5d9015d0678"), looks := false }, kinds := [], alts := [], laidByText := true, laidKinds := [.data], laidTests := true, laidLooks := .later }
def DigestTreeSpecCardSaid : Prop := Claim7.holds Tryd.pinned (.plain (OpenSpec.ofChange digestTreeSpecSpec)) digestTreeSpecCard

/-- THE TIED CARD OF 'signatorylaw02.DigestTags'. -/
def digestTagsCard : Claim7 := { stood := { row := digestTagsRow, standIns := [], harness := (true, "95102a1977a47d1b281bd82c63d36467d06bfb52a1537a0ace17c5d9015d0678"), looks := false }, kinds := [], alts := [], laidByText := true, laidKinds := [.data], laidTests := true, laidLooks := .later }
def DigestTagsCardSaid : Prop := Claim7.holds Tryd.pinned (.plain (OpenSpec.ofChange digestTagsSpec)) digestTagsCard

/-- THE TIED CARD OF 'signatorylaw02.DigestClimbs'. -/
def digestClimbsCard : Claim7 := { stood := { row := digestClimbsRow, standIns := [], harness := (true, "95102a1977a47d1b281bd82c63d36467d06bfb52a1537a0ace17c5d9015d0678"), looks := false }, kinds := [], alts := [], laidByText := true, laidKinds := [.data], laidTests := true, laidLooks := .later }
def DigestClimbsCardSaid : Prop := Claim7.holds Tryd.pinned (.plain (OpenSpec.ofChange digestClimbsSpec)) digestClimbsCard

/-- THE TIED CARD OF 'signatorylaw02.DigestHalves'. -/
def digestHalvesCard : Claim7 := { stood := { row := digestHalvesRow, standIns := [], harness := (true, "95102a1977a47d1b281bd82c63d36467d06bfb52a1537a0ace17c5d9015d0678"), looks := false }, kinds := [], alts := [], laidByText := true, laidKinds := [.data], laidTests := true, laidLooks := .later }
def DigestHalvesCardSaid : Prop := Claim7.holds Tryd.pinned (.plain (OpenSpec.ofChange digestHalvesSpec)) digestHalvesCard

/-- THE TIED CARD OF 'signatorylaw02.DigestNext'. -/
def digestNextCard : Claim7 := { stood := { row := digestNextRow, standIns := [], harness := (true, "95102a1977a47d1b281bd82c63d36467d06bfb52a1537a0ace17c5d9015d0678"), looks := false }, kinds := [], alts := [], laidByText := true, laidKinds := [.data], laidTests := true, laidLooks := .later }
def DigestNextCardSaid : Prop := Claim7.holds Tryd.pinned (.plain (OpenSpec.ofChange digestNextSpec)) digestNextCard

/-- THE TIED CARD OF 'signatorylaw02.DigestPlaces'. -/
def digestPlacesCard : Claim7 := { stood := { row := digestPlacesRow, standIns := [], harness := (true, "95102a1977a47d1b281bd82c63d36467d06bfb52a1537a0ace17c5d9015d0678"), looks := false }, kinds := [], alts := [], laidByText := true, laidKinds := [.data], laidTests := true, laidLooks := .later }
def DigestPlacesCardSaid : Prop := Claim7.holds Tryd.pinned (.plain (OpenSpec.ofChange digestPlacesSpec)) digestPlacesCard

/-- THE TIED CARD OF 'signatorylaw02.DigestChains'. -/
def digestChainsCard : Claim7 := { stood := { row := digestChainsRow, standIns := [], harness := (true, "95102a1977a47d1b281bd82c63d36467d06bfb52a1537a0ace17c5d9015d0678"), looks := false }, kinds := [], alts := [], laidByText := true, laidKinds := [.data], laidTests := true, laidLooks := .later }
def DigestChainsCardSaid : Prop := Claim7.holds Tryd.pinned (.plain (OpenSpec.ofChange digestChainsSpec)) digestChainsCard

/-- THE TIED CARD OF 'signatorylaw10.GroupNumbersSpec'. -/
def groupNumbersSpecCard : Claim7 := { stood := { row := groupNumbersSpecRow, standIns := [], harness := (true, "95102a1977a47d1b281bd82c63d36467d06bfb52a1537a0ace17c5d9015d0678"), looks := false }, kinds := [], alts := [], laidByText := true, laidKinds := [.data], laidTests := true, laidLooks := .later }
def GroupNumbersSpecCardSaid : Prop := Claim7.holds Tryd.pinned (.plain (OpenSpec.ofChange groupNumbersSpecSpec)) groupNumbersSpecCard

/-- THE TIED CARD OF 'signatorylaw10.GroupHash'. -/
def groupHashCard : Claim7 := { stood := { row := groupHashRow, standIns := [], harness := (true, "95102a1977a47d1b281bd82c63d36467d06bfb52a1537a0ace17c5d9015d0678"), looks := false }, kinds := [], alts := [], laidByText := true, laidKinds := [.data], laidTests := true, laidLooks := .later }
def GroupHashCardSaid : Prop := Claim7.holds Tryd.pinned (.plain (OpenSpec.ofChange groupHashSpec)) groupHashCard

/-- THE SECOND FORM's CARD OF 'signatorylaw02.DigestSumSpec'. -/
def digestSumSpecUptoCard : Claim7 := { stood := { row := digestSumSpecUptoRow, standIns := [], harness := (true, "95102a1977a47d1b281bd82c63d36467d06bfb52a1537a0ace17c5d9015d0678"), looks := false }, kinds := [], alts := [], laidByText := true, laidKinds := [.data], laidTests := true, laidLooks := .later }
def DigestSumSpecUptoCardSaid : Prop := Claim7.holds Tryd.pinned (.plain (OpenSpec.upto digestSumSpecSpec)) digestSumSpecUptoCard

/-- THE SECOND FORM's CARD OF 'signatorylaw02.DigestTreeSpec'. -/
def digestTreeSpecUptoCard : Claim7 := { stood := { row := digestTreeSpecUptoRow, standIns := [], harness := (true, "95102a1977a47d1b281bd82c63d36467d06bfb52a1537a0ace17c5d9015d0678"), looks := false }, kinds := [], alts := [], laidByText := true, laidKinds := [.data], laidTests := true, laidLooks := .later }
def DigestTreeSpecUptoCardSaid : Prop := Claim7.holds Tryd.pinned (.plain (OpenSpec.upto digestTreeSpecSpec)) digestTreeSpecUptoCard

/-- THE SECOND FORM's CARD OF 'signatorylaw02.DigestTags'. -/
def digestTagsUptoCard : Claim7 := { stood := { row := digestTagsUptoRow, standIns := [], harness := (true, "95102a1977a47d1b281bd82c63d36467d06bfb52a1537a0ace17c5d9015d0678"), looks := false }, kinds := [], alts := [], laidByText := true, laidKinds := [.data], laidTests := true, laidLooks := .later }
def DigestTagsUptoCardSaid : Prop := Claim7.holds Tryd.pinned (.plain (OpenSpec.upto digestTagsSpec)) digestTagsUptoCard

/-- THE SECOND FORM's CARD OF 'signatorylaw02.DigestClimbs'. -/
def digestClimbsUptoCard : Claim7 := { stood := { row := digestClimbsUptoRow, standIns := [], harness := (true, "95102a1977a47d1b281bd82c63d36467d06bfb52a1537a0ace17c5d9015d0678"), looks := false }, kinds := [], alts := [], laidByText := true, laidKinds := [.data], laidTests := true, laidLooks := .later }
def DigestClimbsUptoCardSaid : Prop := Claim7.holds Tryd.pinned (.plain (OpenSpec.upto digestClimbsSpec)) digestClimbsUptoCard

/-- THE SECOND FORM's CARD OF 'signatorylaw02.DigestHalves'. -/
def digestHalvesUptoCard : Claim7 := { stood := { row := digestHalvesUptoRow, standIns := [], harness := (true, "95102a1977a47d1b281bd82c63d36467d06bfb52a1537a0ace17c5d9015d0678"), looks := false }, kinds := [], alts := [], laidByText := true, laidKinds := [.data], laidTests := true, laidLooks := .later }
def DigestHalvesUptoCardSaid : Prop := Claim7.holds Tryd.pinned (.plain (OpenSpec.upto digestHalvesSpec)) digestHalvesUptoCard

/-- THE SECOND FORM's CARD OF 'signatorylaw02.DigestNext'. -/
def digestNextUptoCard : Claim7 := { stood := { row := digestNextUptoRow, standIns := [], harness := (true, "95102a1977a47d1b281bd82c63d36467d06bfb52a1537a0ace17c5d9015d0678"), looks := false }, kinds := [], alts := [], laidByText := true, laidKinds := [.data], laidTests := true, laidLooks := .later }
def DigestNextUptoCardSaid : Prop := Claim7.holds Tryd.pinned (.plain (OpenSpec.upto digestNextSpec)) digestNextUptoCard

/-- THE SECOND FORM's CARD OF 'signatorylaw02.DigestPlaces'. -/
def digestPlacesUptoCard : Claim7 := { stood := { row := digestPlacesUptoRow, standIns := [], harness := (true, "95102a1977a47d1b281bd82c63d36467d06bfb52a1537a0ace17c5d9015d0678"), looks := false }, kinds := [], alts := [], laidByText := true, laidKinds := [.data], laidTests := true, laidLooks := .later }
def DigestPlacesUptoCardSaid : Prop := Claim7.holds Tryd.pinned (.plain (OpenSpec.upto digestPlacesSpec)) digestPlacesUptoCard

/-- THE SECOND FORM's CARD OF 'signatorylaw02.DigestChains'. -/
def digestChainsUptoCard : Claim7 := { stood := { row := digestChainsUptoRow, standIns := [], harness := (true, "95102a1977a47d1b281bd82c63d36467d06bfb52a1537a0ace17c5d9015d0678"), looks := false }, kinds := [], alts := [], laidByText := true, laidKinds := [.data], laidTests := true, laidLooks := .later }
def DigestChainsUptoCardSaid : Prop := Claim7.holds Tryd.pinned (.plain (OpenSpec.upto digestChainsSpec)) digestChainsUptoCard

/-- THE SECOND FORM's CARD OF 'signatorylaw10.GroupNumbersSpec'. -/
def groupNumbersSpecUptoCard : Claim7 := { stood := { row := groupNumbersSpecUptoRow, standIns := [], harness := (true, "95102a1977a47d1b281bd82c63d36467d06bfb52a1537a0ace17c5d9015d0678"), looks := false }, kinds := [], alts := [], laidByText := true, laidKinds := [.data], laidTests := true, laidLooks := .later }
def GroupNumbersSpecUptoCardSaid : Prop := Claim7.holds Tryd.pinned (.plain (OpenSpec.upto groupNumbersSpecSpec)) groupNumbersSpecUptoCard

/-- THE SECOND FORM's CARD OF 'signatorylaw10.GroupHash'. -/
def groupHashUptoCard : Claim7 := { stood := { row := groupHashUptoRow, standIns := [], harness := (true, "95102a1977a47d1b281bd82c63d36467d06bfb52a1537a0ace17c5d9015d0678"), looks := false }, kinds := [], alts := [], laidByText := true, laidKinds := [.data], laidTests := true, laidLooks := .later }
def GroupHashUptoCardSaid : Prop := Claim7.holds Tryd.pinned (.plain (OpenSpec.upto groupHashSpec)) groupHashUptoCard
end Rows
end Go.Proofs.YthimljcfmnehcaaDoor
