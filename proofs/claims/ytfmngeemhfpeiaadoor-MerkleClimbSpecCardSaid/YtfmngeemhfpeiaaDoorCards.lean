/-
  DERIVED. GIVEN WITH THE SEED: THE CARDS: each row of YtfmngeemhfpeiaaDoorRows.lean that lists a variable, with what it lists TIED to the program's text (the seventh form; the later family's looks); each row that meets fmt, with fmt's text TOLD by the authors' own Lean function (tested against real Go, not proved from fmt's source: count such statements apart). THE CARD IS WHAT COUNTS. Prove the row's statement (the work); the ties are given (YtfmngeemhfpeiaaDoorTie.lean); close each card by the builder's one call (the guide's Derived/Test/ToyasCard.lean, 'card_holds'). Laid BY PROGRAM, IN A SANDBOX (cutbox-door.mjs). By AI agents, Wed Nov 11 2026. No macro, syntax, notation, axiom, sorry.
-/
import Derived.Test.YtfmngeemhfpeiaaDoorRows
import GoSem.ClaimSeven
namespace Go.Proofs.YtfmngeemhfpeiaaDoor
namespace Rows

/-- THE TIED CARD OF 'hansardlaw07.MerkleSpec'. -/
def merkleSpecCard : Claim7 := { stood := { row := merkleSpecRow, standIns := [], harness := (true, "8890f59acef6732885305fc06bc0bdf3315d8914573a952d28af26eccbdf357a"), looks := false }, kinds := [], alts := [], laidByText := true, laidKinds := [.data], laidTests := true, laidLooks := .later }
def MerkleSpecCardSaid : Prop := Claim7.holds Tryd.pinned (.plain (OpenSpec.ofChange merkleSpecSpec)) merkleSpecCard

/-- THE TIED CARD OF 'hansardlaw07.MerkleClimbSpec'. -/
def merkleClimbSpecCard : Claim7 := { stood := { row := merkleClimbSpecRow, standIns := [], harness := (true, "8890f59acef6732885305fc06bc0bdf3315d8914573a952d28af26eccbdf357a"), looks := false }, kinds := [], alts := [], laidByText := true, laidKinds := [.data], laidTests := true, laidLooks := .later }
def MerkleClimbSpecCardSaid : Prop := Claim7.holds Tryd.pinned (.plain (OpenSpec.ofChange merkleClimbSpecSpec)) merkleClimbSpecCard

/-- THE TIED CARD OF 'hansardlaw07.MerkleProve'. -/
def merkleProveCard : Claim7 := { stood := { row := merkleProveRow, standIns := [], harness := (true, "8890f59acef6732885305fc06bc0bdf3315d8914573a952d28af26eccbdf357a"), looks := false }, kinds := [], alts := [], laidByText := true, laidKinds := [.data], laidTests := true, laidLooks := .later }
def MerkleProveCardSaid : Prop := Claim7.holds Tryd.pinned (.plain (OpenSpec.ofChange merkleProveSpec)) merkleProveCard

/-- THE TIED CARD OF 'hansardlaw07.MerkleBound'. -/
def merkleBoundCard : Claim7 := { stood := { row := merkleBoundRow, standIns := [], harness := (true, "8890f59acef6732885305fc06bc0bdf3315d8914573a952d28af26eccbdf357a"), looks := false }, kinds := [], alts := [], laidByText := true, laidKinds := [.data], laidTests := true, laidLooks := .later }
def MerkleBoundCardSaid : Prop := Claim7.holds Tryd.pinned (.plain (OpenSpec.ofChange merkleBoundSpec)) merkleBoundCard

/-- THE TIED CARD OF 'hansardlaw07.MerkleChanged'. -/
def merkleChangedCard : Claim7 := { stood := { row := merkleChangedRow, standIns := [], harness := (true, "8890f59acef6732885305fc06bc0bdf3315d8914573a952d28af26eccbdf357a"), looks := false }, kinds := [], alts := [], laidByText := true, laidKinds := [.data], laidTests := true, laidLooks := .later }
def MerkleChangedCardSaid : Prop := Claim7.holds Tryd.pinned (.plain (OpenSpec.ofChange merkleChangedSpec)) merkleChangedCard

/-- THE TIED CARD OF 'hansardlaw07.MerkleSplit'. -/
def merkleSplitCard : Claim7 := { stood := { row := merkleSplitRow, standIns := [], harness := (true, "8890f59acef6732885305fc06bc0bdf3315d8914573a952d28af26eccbdf357a"), looks := false }, kinds := [], alts := [], laidByText := true, laidKinds := [.data], laidTests := true, laidLooks := .later }
def MerkleSplitCardSaid : Prop := Claim7.holds Tryd.pinned (.plain (OpenSpec.ofChange merkleSplitSpec)) merkleSplitCard

/-- THE TIED CARD OF 'hansardlaw07.MerkleLength'. -/
def merkleLengthCard : Claim7 := { stood := { row := merkleLengthRow, standIns := [], harness := (true, "8890f59acef6732885305fc06bc0bdf3315d8914573a952d28af26eccbdf357a"), looks := false }, kinds := [], alts := [], laidByText := true, laidKinds := [.data], laidTests := true, laidLooks := .later }
def MerkleLengthCardSaid : Prop := Claim7.holds Tryd.pinned (.plain (OpenSpec.ofChange merkleLengthSpec)) merkleLengthCard

/-- THE TIED CARD OF 'hansardlaw08.ChainSpec'. -/
def chainSpecCard : Claim7 := { stood := { row := chainSpecRow, standIns := [], harness := (true, "8890f59acef6732885305fc06bc0bdf3315d8914573a952d28af26eccbdf357a"), looks := false }, kinds := [], alts := [], laidByText := true, laidKinds := [.data], laidTests := true, laidLooks := .later }
def ChainSpecCardSaid : Prop := Claim7.holds Tryd.pinned (.plain (OpenSpec.ofChange chainSpecSpec)) chainSpecCard

/-- THE TIED CARD OF 'hansardlaw08.ChainAddSpec'. -/
def chainAddSpecCard : Claim7 := { stood := { row := chainAddSpecRow, standIns := [], harness := (true, "8890f59acef6732885305fc06bc0bdf3315d8914573a952d28af26eccbdf357a"), looks := false }, kinds := [], alts := [], laidByText := true, laidKinds := [.data], laidTests := true, laidLooks := .later }
def ChainAddSpecCardSaid : Prop := Claim7.holds Tryd.pinned (.plain (OpenSpec.ofChange chainAddSpecSpec)) chainAddSpecCard

/-- THE TIED CARD OF 'hansardlaw08.ChainBuilt'. -/
def chainBuiltCard : Claim7 := { stood := { row := chainBuiltRow, standIns := [], harness := (true, "8890f59acef6732885305fc06bc0bdf3315d8914573a952d28af26eccbdf357a"), looks := false }, kinds := [], alts := [], laidByText := true, laidKinds := [.data], laidTests := true, laidLooks := .later }
def ChainBuiltCardSaid : Prop := Claim7.holds Tryd.pinned (.plain (OpenSpec.ofChange chainBuiltSpec)) chainBuiltCard

/-- THE TIED CARD OF 'hansardlaw08.ChainEqual'. -/
def chainEqualCard : Claim7 := { stood := { row := chainEqualRow, standIns := [], harness := (true, "8890f59acef6732885305fc06bc0bdf3315d8914573a952d28af26eccbdf357a"), looks := false }, kinds := [], alts := [], laidByText := true, laidKinds := [.data], laidTests := true, laidLooks := .later }
def ChainEqualCardSaid : Prop := Claim7.holds Tryd.pinned (.plain (OpenSpec.ofChange chainEqualSpec)) chainEqualCard

/-- THE TIED CARD OF 'hansardlaw08.ChainChanged'. -/
def chainChangedCard : Claim7 := { stood := { row := chainChangedRow, standIns := [], harness := (true, "8890f59acef6732885305fc06bc0bdf3315d8914573a952d28af26eccbdf357a"), looks := false }, kinds := [], alts := [], laidByText := true, laidKinds := [.data], laidTests := true, laidLooks := .later }
def ChainChangedCardSaid : Prop := Claim7.holds Tryd.pinned (.plain (OpenSpec.ofChange chainChangedSpec)) chainChangedCard

/-- THE TIED CARD OF 'hansardlaw08.ChainParts'. -/
def chainPartsCard : Claim7 := { stood := { row := chainPartsRow, standIns := [], harness := (true, "8890f59acef6732885305fc06bc0bdf3315d8914573a952d28af26eccbdf357a"), looks := false }, kinds := [], alts := [], laidByText := true, laidKinds := [.data], laidTests := true, laidLooks := .later }
def ChainPartsCardSaid : Prop := Claim7.holds Tryd.pinned (.plain (OpenSpec.ofChange chainPartsSpec)) chainPartsCard

/-- THE SECOND FORM's CARD OF 'hansardlaw07.MerkleSpec'. -/
def merkleSpecUptoCard : Claim7 := { stood := { row := merkleSpecUptoRow, standIns := [], harness := (true, "8890f59acef6732885305fc06bc0bdf3315d8914573a952d28af26eccbdf357a"), looks := false }, kinds := [], alts := [], laidByText := true, laidKinds := [.data], laidTests := true, laidLooks := .later }
def MerkleSpecUptoCardSaid : Prop := Claim7.holds Tryd.pinned (.plain (OpenSpec.upto merkleSpecSpec)) merkleSpecUptoCard

/-- THE SECOND FORM's CARD OF 'hansardlaw07.MerkleClimbSpec'. -/
def merkleClimbSpecUptoCard : Claim7 := { stood := { row := merkleClimbSpecUptoRow, standIns := [], harness := (true, "8890f59acef6732885305fc06bc0bdf3315d8914573a952d28af26eccbdf357a"), looks := false }, kinds := [], alts := [], laidByText := true, laidKinds := [.data], laidTests := true, laidLooks := .later }
def MerkleClimbSpecUptoCardSaid : Prop := Claim7.holds Tryd.pinned (.plain (OpenSpec.upto merkleClimbSpecSpec)) merkleClimbSpecUptoCard

/-- THE SECOND FORM's CARD OF 'hansardlaw07.MerkleProve'. -/
def merkleProveUptoCard : Claim7 := { stood := { row := merkleProveUptoRow, standIns := [], harness := (true, "8890f59acef6732885305fc06bc0bdf3315d8914573a952d28af26eccbdf357a"), looks := false }, kinds := [], alts := [], laidByText := true, laidKinds := [.data], laidTests := true, laidLooks := .later }
def MerkleProveUptoCardSaid : Prop := Claim7.holds Tryd.pinned (.plain (OpenSpec.upto merkleProveSpec)) merkleProveUptoCard

/-- THE SECOND FORM's CARD OF 'hansardlaw07.MerkleBound'. -/
def merkleBoundUptoCard : Claim7 := { stood := { row := merkleBoundUptoRow, standIns := [], harness := (true, "8890f59acef6732885305fc06bc0bdf3315d8914573a952d28af26eccbdf357a"), looks := false }, kinds := [], alts := [], laidByText := true, laidKinds := [.data], laidTests := true, laidLooks := .later }
def MerkleBoundUptoCardSaid : Prop := Claim7.holds Tryd.pinned (.plain (OpenSpec.upto merkleBoundSpec)) merkleBoundUptoCard

/-- THE SECOND FORM's CARD OF 'hansardlaw07.MerkleChanged'. -/
def merkleChangedUptoCard : Claim7 := { stood := { row := merkleChangedUptoRow, standIns := [], harness := (true, "8890f59acef6732885305fc06bc0bdf3315d8914573a952d28af26eccbdf357a"), looks := false }, kinds := [], alts := [], laidByText := true, laidKinds := [.data], laidTests := true, laidLooks := .later }
def MerkleChangedUptoCardSaid : Prop := Claim7.holds Tryd.pinned (.plain (OpenSpec.upto merkleChangedSpec)) merkleChangedUptoCard

/-- THE SECOND FORM's CARD OF 'hansardlaw07.MerkleSplit'. -/
def merkleSplitUptoCard : Claim7 := { stood := { row := merkleSplitUptoRow, standIns := [], harness := (true, "8890f59acef6732885305fc06bc0bdf3315d8914573a952d28af26eccbdf357a"), looks := false }, kinds := [], alts := [], laidByText := true, laidKinds := [.data], laidTests := true, laidLooks := .later }
def MerkleSplitUptoCardSaid : Prop := Claim7.holds Tryd.pinned (.plain (OpenSpec.upto merkleSplitSpec)) merkleSplitUptoCard

/-- THE SECOND FORM's CARD OF 'hansardlaw07.MerkleLength'. -/
def merkleLengthUptoCard : Claim7 := { stood := { row := merkleLengthUptoRow, standIns := [], harness := (true, "8890f59acef6732885305fc06bc0bdf3315d8914573a952d28af26eccbdf357a"), looks := false }, kinds := [], alts := [], laidByText := true, laidKinds := [.data], laidTests := true, laidLooks := .later }
def MerkleLengthUptoCardSaid : Prop := Claim7.holds Tryd.pinned (.plain (OpenSpec.upto merkleLengthSpec)) merkleLengthUptoCard

/-- THE SECOND FORM's CARD OF 'hansardlaw08.ChainSpec'. -/
def chainSpecUptoCard : Claim7 := { stood := { row := chainSpecUptoRow, standIns := [], harness := (true, "8890f59acef6732885305fc06bc0bdf3315d8914573a952d28af26eccbdf357a"), looks := false }, kinds := [], alts := [], laidByText := true, laidKinds := [.data], laidTests := true, laidLooks := .later }
def ChainSpecUptoCardSaid : Prop := Claim7.holds Tryd.pinned (.plain (OpenSpec.upto chainSpecSpec)) chainSpecUptoCard

/-- THE SECOND FORM's CARD OF 'hansardlaw08.ChainAddSpec'. -/
def chainAddSpecUptoCard : Claim7 := { stood := { row := chainAddSpecUptoRow, standIns := [], harness := (true, "8890f59acef6732885305fc06bc0bdf3315d8914573a952d28af26eccbdf357a"), looks := false }, kinds := [], alts := [], laidByText := true, laidKinds := [.data], laidTests := true, laidLooks := .later }
def ChainAddSpecUptoCardSaid : Prop := Claim7.holds Tryd.pinned (.plain (OpenSpec.upto chainAddSpecSpec)) chainAddSpecUptoCard

/-- THE SECOND FORM's CARD OF 'hansardlaw08.ChainBuilt'. -/
def chainBuiltUptoCard : Claim7 := { stood := { row := chainBuiltUptoRow, standIns := [], harness := (true, "8890f59acef6732885305fc06bc0bdf3315d8914573a952d28af26eccbdf357a"), looks := false }, kinds := [], alts := [], laidByText := true, laidKinds := [.data], laidTests := true, laidLooks := .later }
def ChainBuiltUptoCardSaid : Prop := Claim7.holds Tryd.pinned (.plain (OpenSpec.upto chainBuiltSpec)) chainBuiltUptoCard

/-- THE SECOND FORM's CARD OF 'hansardlaw08.ChainEqual'. -/
def chainEqualUptoCard : Claim7 := { stood := { row := chainEqualUptoRow, standIns := [], harness := (true, "8890f59acef6732885305fc06bc0bdf3315d8914573a952d28af26eccbdf357a"), looks := false }, kinds := [], alts := [], laidByText := true, laidKinds := [.data], laidTests := true, laidLooks := .later }
def ChainEqualUptoCardSaid : Prop := Claim7.holds Tryd.pinned (.plain (OpenSpec.upto chainEqualSpec)) chainEqualUptoCard

/-- THE SECOND FORM's CARD OF 'hansardlaw08.ChainChanged'. -/
def chainChangedUptoCard : Claim7 := { stood := { row := chainChangedUptoRow, standIns := [], harness := (true, "8890f59acef6732885305fc06bc0bdf3315d8914573a952d28af26eccbdf357a"), looks := false }, kinds := [], alts := [], laidByText := true, laidKinds := [.data], laidTests := true, laidLooks := .later }
def ChainChangedUptoCardSaid : Prop := Claim7.holds Tryd.pinned (.plain (OpenSpec.upto chainChangedSpec)) chainChangedUptoCard

/-- THE SECOND FORM's CARD OF 'hansardlaw08.ChainParts'. -/
def chainPartsUptoCard : Claim7 := { stood := { row := chainPartsUptoRow, standIns := [], harness := (true, "8890f59acef6732885305fc06bc0bdf3315d8914573a952d28af26eccbdf357a"), looks := false }, kinds := [], alts := [], laidByText := true, laidKinds := [.data], laidTests := true, laidLooks := .later }
def ChainPartsUptoCardSaid : Prop := Claim7.holds Tryd.pinned (.plain (OpenSpec.upto chainPartsSpec)) chainPartsUptoCard
end Rows
end Go.Proofs.YtfmngeemhfpeiaaDoor
