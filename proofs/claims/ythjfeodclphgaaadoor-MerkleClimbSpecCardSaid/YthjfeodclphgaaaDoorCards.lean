/-
  DERIVED. GIVEN WITH THE SEED: THE CARDS: each row of YthjfeodclphgaaaDoorRows.lean that lists a variable, with what it lists TIED to the program's text (the seventh form; the later family's looks); each row that meets fmt, with fmt's text TOLD by the authors' own Lean function (tested against real Go, not proved from fmt's source: count such statements apart). THE CARD IS WHAT COUNTS. Prove the row's statement (the work); the ties are given (YthjfeodclphgaaaDoorTie.lean); close each card by the builder's one call (the guide's Derived/Test/ToyasCard.lean, 'card_holds'). Laid BY PROGRAM, IN A SANDBOX (cutbox-door.mjs). By AI agents, Wed Nov 11 2026. No macro, syntax, notation, axiom, sorry.
-/
import Derived.Test.YthjfeodclphgaaaDoorRows
import GoSem.ClaimSeven
namespace Go.Proofs.YthjfeodclphgaaaDoor
namespace Rows

/-- THE TIED CARD OF 'signatorylaw02.DigestSumSpec'. -/
def digestSumSpecCard : Claim7 := { stood := { row := digestSumSpecRow, standIns := [], harness := (true, "ceda26f8bf4a2b88a9cf8cfff1d62e11137c72847ef3cecee41ce2996577d4ae"), looks := false }, kinds := [], alts := [], laidByText := true, laidKinds := [.data], laidTests := true, laidLooks := .later }
def DigestSumSpecCardSaid : Prop := Claim7.holds Tryd.pinned (.plain (OpenSpec.ofChange digestSumSpecSpec)) digestSumSpecCard

/-- THE TIED CARD OF 'signatorylaw02.DigestTreeSpec'. -/
def digestTreeSpecCard : Claim7 := { stood := { row := digestTreeSpecRow, standIns := [], harness := (true, "ceda26f8bf4a2b88a9cf8cfff1d62e11137c72847ef3cecee41ce2996577d4ae"), looks := false }, kinds := [], alts := [], laidByText := true, laidKinds := [.data], laidTests := true, laidLooks := .later }
def DigestTreeSpecCardSaid : Prop := Claim7.holds Tryd.pinned (.plain (OpenSpec.ofChange digestTreeSpecSpec)) digestTreeSpecCard

/-- THE TIED CARD OF 'signatorylaw02.DigestTags'. -/
def digestTagsCard : Claim7 := { stood := { row := digestTagsRow, standIns := [], harness := (true, "ceda26f8bf4a2b88a9cf8cfff1d62e11137c72847ef3cecee41ce2996577d4ae"), looks := false }, kinds := [], alts := [], laidByText := true, laidKinds := [.data], laidTests := true, laidLooks := .later }
def DigestTagsCardSaid : Prop := Claim7.holds Tryd.pinned (.plain (OpenSpec.ofChange digestTagsSpec)) digestTagsCard

/-- THE TIED CARD OF 'signatorylaw02.DigestClimbs'. -/
def digestClimbsCard : Claim7 := { stood := { row := digestClimbsRow, standIns := [], harness := (true, "ceda26f8bf4a2b88a9cf8cfff1d62e11137c72847ef3cecee41ce2996577d4ae"), looks := false }, kinds := [], alts := [], laidByText := true, laidKinds := [.data], laidTests := true, laidLooks := .later }
def DigestClimbsCardSaid : Prop := Claim7.holds Tryd.pinned (.plain (OpenSpec.ofChange digestClimbsSpec)) digestClimbsCard

/-- THE TIED CARD OF 'signatorylaw02.DigestHalves'. -/
def digestHalvesCard : Claim7 := { stood := { row := digestHalvesRow, standIns := [], harness := (true, "ceda26f8bf4a2b88a9cf8cfff1d62e11137c72847ef3cecee41ce2996577d4ae"), looks := false }, kinds := [], alts := [], laidByText := true, laidKinds := [.data], laidTests := true, laidLooks := .later }
def DigestHalvesCardSaid : Prop := Claim7.holds Tryd.pinned (.plain (OpenSpec.ofChange digestHalvesSpec)) digestHalvesCard

/-- THE TIED CARD OF 'signatorylaw02.DigestNext'. -/
def digestNextCard : Claim7 := { stood := { row := digestNextRow, standIns := [], harness := (true, "ceda26f8bf4a2b88a9cf8cfff1d62e11137c72847ef3cecee41ce2996577d4ae"), looks := false }, kinds := [], alts := [], laidByText := true, laidKinds := [.data], laidTests := true, laidLooks := .later }
def DigestNextCardSaid : Prop := Claim7.holds Tryd.pinned (.plain (OpenSpec.ofChange digestNextSpec)) digestNextCard

/-- THE TIED CARD OF 'signatorylaw02.DigestPlaces'. -/
def digestPlacesCard : Claim7 := { stood := { row := digestPlacesRow, standIns := [], harness := (true, "ceda26f8bf4a2b88a9cf8cfff1d62e11137c72847ef3cecee41ce2996577d4ae"), looks := false }, kinds := [], alts := [], laidByText := true, laidKinds := [.data], laidTests := true, laidLooks := .later }
def DigestPlacesCardSaid : Prop := Claim7.holds Tryd.pinned (.plain (OpenSpec.ofChange digestPlacesSpec)) digestPlacesCard

/-- THE TIED CARD OF 'signatorylaw02.DigestChains'. -/
def digestChainsCard : Claim7 := { stood := { row := digestChainsRow, standIns := [], harness := (true, "ceda26f8bf4a2b88a9cf8cfff1d62e11137c72847ef3cecee41ce2996577d4ae"), looks := false }, kinds := [], alts := [], laidByText := true, laidKinds := [.data], laidTests := true, laidLooks := .later }
def DigestChainsCardSaid : Prop := Claim7.holds Tryd.pinned (.plain (OpenSpec.ofChange digestChainsSpec)) digestChainsCard

/-- THE TIED CARD OF 'signatorylaw07.MerkleSpec'. -/
def merkleSpecCard : Claim7 := { stood := { row := merkleSpecRow, standIns := [], harness := (true, "ceda26f8bf4a2b88a9cf8cfff1d62e11137c72847ef3cecee41ce2996577d4ae"), looks := false }, kinds := [], alts := [], laidByText := true, laidKinds := [.data], laidTests := true, laidLooks := .later }
def MerkleSpecCardSaid : Prop := Claim7.holds Tryd.pinned (.plain (OpenSpec.ofChange merkleSpecSpec)) merkleSpecCard

/-- THE TIED CARD OF 'signatorylaw07.MerkleClimbSpec'. -/
def merkleClimbSpecCard : Claim7 := { stood := { row := merkleClimbSpecRow, standIns := [], harness := (true, "ceda26f8bf4a2b88a9cf8cfff1d62e11137c72847ef3cecee41ce2996577d4ae"), looks := false }, kinds := [], alts := [], laidByText := true, laidKinds := [.data], laidTests := true, laidLooks := .later }
def MerkleClimbSpecCardSaid : Prop := Claim7.holds Tryd.pinned (.plain (OpenSpec.ofChange merkleClimbSpecSpec)) merkleClimbSpecCard

/-- THE TIED CARD OF 'signatorylaw07.MerkleProve'. -/
def merkleProveCard : Claim7 := { stood := { row := merkleProveRow, standIns := [], harness := (true, "ceda26f8bf4a2b88a9cf8cfff1d62e11137c72847ef3cecee41ce2996577d4ae"), looks := false }, kinds := [], alts := [], laidByText := true, laidKinds := [.data], laidTests := true, laidLooks := .later }
def MerkleProveCardSaid : Prop := Claim7.holds Tryd.pinned (.plain (OpenSpec.ofChange merkleProveSpec)) merkleProveCard

/-- THE TIED CARD OF 'signatorylaw07.MerkleBound'. -/
def merkleBoundCard : Claim7 := { stood := { row := merkleBoundRow, standIns := [], harness := (true, "ceda26f8bf4a2b88a9cf8cfff1d62e11137c72847ef3cecee41ce2996577d4ae"), looks := false }, kinds := [], alts := [], laidByText := true, laidKinds := [.data], laidTests := true, laidLooks := .later }
def MerkleBoundCardSaid : Prop := Claim7.holds Tryd.pinned (.plain (OpenSpec.ofChange merkleBoundSpec)) merkleBoundCard

/-- THE TIED CARD OF 'signatorylaw07.MerkleChanged'. -/
def merkleChangedCard : Claim7 := { stood := { row := merkleChangedRow, standIns := [], harness := (true, "ceda26f8bf4a2b88a9cf8cfff1d62e11137c72847ef3cecee41ce2996577d4ae"), looks := false }, kinds := [], alts := [], laidByText := true, laidKinds := [.data], laidTests := true, laidLooks := .later }
def MerkleChangedCardSaid : Prop := Claim7.holds Tryd.pinned (.plain (OpenSpec.ofChange merkleChangedSpec)) merkleChangedCard

/-- THE TIED CARD OF 'signatorylaw07.MerkleSplit'. -/
def merkleSplitCard : Claim7 := { stood := { row := merkleSplitRow, standIns := [], harness := (true, "ceda26f8bf4a2b88a9cf8cfff1d62e11137c72847ef3cecee41ce2996577d4ae"), looks := false }, kinds := [], alts := [], laidByText := true, laidKinds := [.data], laidTests := true, laidLooks := .later }
def MerkleSplitCardSaid : Prop := Claim7.holds Tryd.pinned (.plain (OpenSpec.ofChange merkleSplitSpec)) merkleSplitCard

/-- THE TIED CARD OF 'signatorylaw07.MerkleLength'. -/
def merkleLengthCard : Claim7 := { stood := { row := merkleLengthRow, standIns := [], harness := (true, "ceda26f8bf4a2b88a9cf8cfff1d62e11137c72847ef3cecee41ce2996577d4ae"), looks := false }, kinds := [], alts := [], laidByText := true, laidKinds := [.data], laidTests := true, laidLooks := .later }
def MerkleLengthCardSaid : Prop := Claim7.holds Tryd.pinned (.plain (OpenSpec.ofChange merkleLengthSpec)) merkleLengthCard

/-- THE SECOND FORM's CARD OF 'signatorylaw02.DigestSumSpec'. -/
def digestSumSpecUptoCard : Claim7 := { stood := { row := digestSumSpecUptoRow, standIns := [], harness := (true, "ceda26f8bf4a2b88a9cf8cfff1d62e11137c72847ef3cecee41ce2996577d4ae"), looks := false }, kinds := [], alts := [], laidByText := true, laidKinds := [.data], laidTests := true, laidLooks := .later }
def DigestSumSpecUptoCardSaid : Prop := Claim7.holds Tryd.pinned (.plain (OpenSpec.upto digestSumSpecSpec)) digestSumSpecUptoCard

/-- THE SECOND FORM's CARD OF 'signatorylaw02.DigestTreeSpec'. -/
def digestTreeSpecUptoCard : Claim7 := { stood := { row := digestTreeSpecUptoRow, standIns := [], harness := (true, "ceda26f8bf4a2b88a9cf8cfff1d62e11137c72847ef3cecee41ce2996577d4ae"), looks := false }, kinds := [], alts := [], laidByText := true, laidKinds := [.data], laidTests := true, laidLooks := .later }
def DigestTreeSpecUptoCardSaid : Prop := Claim7.holds Tryd.pinned (.plain (OpenSpec.upto digestTreeSpecSpec)) digestTreeSpecUptoCard

/-- THE SECOND FORM's CARD OF 'signatorylaw02.DigestTags'. -/
def digestTagsUptoCard : Claim7 := { stood := { row := digestTagsUptoRow, standIns := [], harness := (true, "ceda26f8bf4a2b88a9cf8cfff1d62e11137c72847ef3cecee41ce2996577d4ae"), looks := false }, kinds := [], alts := [], laidByText := true, laidKinds := [.data], laidTests := true, laidLooks := .later }
def DigestTagsUptoCardSaid : Prop := Claim7.holds Tryd.pinned (.plain (OpenSpec.upto digestTagsSpec)) digestTagsUptoCard

/-- THE SECOND FORM's CARD OF 'signatorylaw02.DigestClimbs'. -/
def digestClimbsUptoCard : Claim7 := { stood := { row := digestClimbsUptoRow, standIns := [], harness := (true, "ceda26f8bf4a2b88a9cf8cfff1d62e11137c72847ef3cecee41ce2996577d4ae"), looks := false }, kinds := [], alts := [], laidByText := true, laidKinds := [.data], laidTests := true, laidLooks := .later }
def DigestClimbsUptoCardSaid : Prop := Claim7.holds Tryd.pinned (.plain (OpenSpec.upto digestClimbsSpec)) digestClimbsUptoCard

/-- THE SECOND FORM's CARD OF 'signatorylaw02.DigestHalves'. -/
def digestHalvesUptoCard : Claim7 := { stood := { row := digestHalvesUptoRow, standIns := [], harness := (true, "ceda26f8bf4a2b88a9cf8cfff1d62e11137c72847ef3cecee41ce2996577d4ae"), looks := false }, kinds := [], alts := [], laidByText := true, laidKinds := [.data], laidTests := true, laidLooks := .later }
def DigestHalvesUptoCardSaid : Prop := Claim7.holds Tryd.pinned (.plain (OpenSpec.upto digestHalvesSpec)) digestHalvesUptoCard

/-- THE SECOND FORM's CARD OF 'signatorylaw02.DigestNext'. -/
def digestNextUptoCard : Claim7 := { stood := { row := digestNextUptoRow, standIns := [], harness := (true, "ceda26f8bf4a2b88a9cf8cfff1d62e11137c72847ef3cecee41ce2996577d4ae"), looks := false }, kinds := [], alts := [], laidByText := true, laidKinds := [.data], laidTests := true, laidLooks := .later }
def DigestNextUptoCardSaid : Prop := Claim7.holds Tryd.pinned (.plain (OpenSpec.upto digestNextSpec)) digestNextUptoCard

/-- THE SECOND FORM's CARD OF 'signatorylaw02.DigestPlaces'. -/
def digestPlacesUptoCard : Claim7 := { stood := { row := digestPlacesUptoRow, standIns := [], harness := (true, "ceda26f8bf4a2b88a9cf8cfff1d62e11137c72847ef3cecee41ce2996577d4ae"), looks := false }, kinds := [], alts := [], laidByText := true, laidKinds := [.data], laidTests := true, laidLooks := .later }
def DigestPlacesUptoCardSaid : Prop := Claim7.holds Tryd.pinned (.plain (OpenSpec.upto digestPlacesSpec)) digestPlacesUptoCard

/-- THE SECOND FORM's CARD OF 'signatorylaw02.DigestChains'. -/
def digestChainsUptoCard : Claim7 := { stood := { row := digestChainsUptoRow, standIns := [], harness := (true, "ceda26f8bf4a2b88a9cf8cfff1d62e11137c72847ef3cecee41ce2996577d4ae"), looks := false }, kinds := [], alts := [], laidByText := true, laidKinds := [.data], laidTests := true, laidLooks := .later }
def DigestChainsUptoCardSaid : Prop := Claim7.holds Tryd.pinned (.plain (OpenSpec.upto digestChainsSpec)) digestChainsUptoCard

/-- THE SECOND FORM's CARD OF 'signatorylaw07.MerkleSpec'. -/
def merkleSpecUptoCard : Claim7 := { stood := { row := merkleSpecUptoRow, standIns := [], harness := (true, "ceda26f8bf4a2b88a9cf8cfff1d62e11137c72847ef3cecee41ce2996577d4ae"), looks := false }, kinds := [], alts := [], laidByText := true, laidKinds := [.data], laidTests := true, laidLooks := .later }
def MerkleSpecUptoCardSaid : Prop := Claim7.holds Tryd.pinned (.plain (OpenSpec.upto merkleSpecSpec)) merkleSpecUptoCard

/-- THE SECOND FORM's CARD OF 'signatorylaw07.MerkleClimbSpec'. -/
def merkleClimbSpecUptoCard : Claim7 := { stood := { row := merkleClimbSpecUptoRow, standIns := [], harness := (true, "ceda26f8bf4a2b88a9cf8cfff1d62e11137c72847ef3cecee41ce2996577d4ae"), looks := false }, kinds := [], alts := [], laidByText := true, laidKinds := [.data], laidTests := true, laidLooks := .later }
def MerkleClimbSpecUptoCardSaid : Prop := Claim7.holds Tryd.pinned (.plain (OpenSpec.upto merkleClimbSpecSpec)) merkleClimbSpecUptoCard

/-- THE SECOND FORM's CARD OF 'signatorylaw07.MerkleProve'. -/
def merkleProveUptoCard : Claim7 := { stood := { row := merkleProveUptoRow, standIns := [], harness := (true, "ceda26f8bf4a2b88a9cf8cfff1d62e11137c72847ef3cecee41ce2996577d4ae"), looks := false }, kinds := [], alts := [], laidByText := true, laidKinds := [.data], laidTests := true, laidLooks := .later }
def MerkleProveUptoCardSaid : Prop := Claim7.holds Tryd.pinned (.plain (OpenSpec.upto merkleProveSpec)) merkleProveUptoCard

/-- THE SECOND FORM's CARD OF 'signatorylaw07.MerkleBound'. -/
def merkleBoundUptoCard : Claim7 := { stood := { row := merkleBoundUptoRow, standIns := [], harness := (true, "ceda26f8bf4a2b88a9cf8cfff1d62e11137c72847ef3cecee41ce2996577d4ae"), looks := false }, kinds := [], alts := [], laidByText := true, laidKinds := [.data], laidTests := true, laidLooks := .later }
def MerkleBoundUptoCardSaid : Prop := Claim7.holds Tryd.pinned (.plain (OpenSpec.upto merkleBoundSpec)) merkleBoundUptoCard

/-- THE SECOND FORM's CARD OF 'signatorylaw07.MerkleChanged'. -/
def merkleChangedUptoCard : Claim7 := { stood := { row := merkleChangedUptoRow, standIns := [], harness := (true, "ceda26f8bf4a2b88a9cf8cfff1d62e11137c72847ef3cecee41ce2996577d4ae"), looks := false }, kinds := [], alts := [], laidByText := true, laidKinds := [.data], laidTests := true, laidLooks := .later }
def MerkleChangedUptoCardSaid : Prop := Claim7.holds Tryd.pinned (.plain (OpenSpec.upto merkleChangedSpec)) merkleChangedUptoCard

/-- THE SECOND FORM's CARD OF 'signatorylaw07.MerkleSplit'. -/
def merkleSplitUptoCard : Claim7 := { stood := { row := merkleSplitUptoRow, standIns := [], harness := (true, "ceda26f8bf4a2b88a9cf8cfff1d62e11137c72847ef3cecee41ce2996577d4ae"), looks := false }, kinds := [], alts := [], laidByText := true, laidKinds := [.data], laidTests := true, laidLooks := .later }
def MerkleSplitUptoCardSaid : Prop := Claim7.holds Tryd.pinned (.plain (OpenSpec.upto merkleSplitSpec)) merkleSplitUptoCard

/-- THE SECOND FORM's CARD OF 'signatorylaw07.MerkleLength'. -/
def merkleLengthUptoCard : Claim7 := { stood := { row := merkleLengthUptoRow, standIns := [], harness := (true, "ceda26f8bf4a2b88a9cf8cfff1d62e11137c72847ef3cecee41ce2996577d4ae"), looks := false }, kinds := [], alts := [], laidByText := true, laidKinds := [.data], laidTests := true, laidLooks := .later }
def MerkleLengthUptoCardSaid : Prop := Claim7.holds Tryd.pinned (.plain (OpenSpec.upto merkleLengthSpec)) merkleLengthUptoCard
end Rows
end Go.Proofs.YthjfeodclphgaaaDoor
