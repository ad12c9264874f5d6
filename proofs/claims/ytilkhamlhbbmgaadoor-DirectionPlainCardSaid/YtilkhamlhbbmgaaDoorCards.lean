/-
  DERIVED. GIVEN WITH THE SEED: THE CARDS: each row of YtilkhamlhbbmgaaDoorRows.lean that lists a variable, with what it lists TIED to the program's text (the seventh form; the later family's looks); each row that meets fmt, with fmt's text TOLD by the authors' own Lean function (tested against real Go, not proved from fmt's source: count such statements apart). THE CARD IS WHAT COUNTS. Prove the row's statement (the work); the ties are given (YtilkhamlhbbmgaaDoorTie.lean); close each card by the builder's one call (the guide's Derived/Test/ToyasCard.lean, 'card_holds'). Laid BY PROGRAM, IN A SANDBOX (cutbox-door.mjs). By AI agents, Wed Nov 11 2026. No macro, syntax, notation, axiom, sorry.
-/
import Derived.Test.YtilkhamlhbbmgaaDoorRows
import GoSem.ClaimSeven
namespace Go.Proofs.YtilkhamlhbbmgaaDoor
namespace Rows

/-- THE TIED CARD OF 'hansardlaw09.TextSpec'. -/
def textSpecCard : Claim7 := { stood := { row := textSpecRow, standIns := [], harness := (true, "4922f3aac9be6038b28268b49f85ba9a9cb47745fc7b9f6b613183aeff4cb7db"), looks := false }, kinds := [], alts := [], laidByText := true, laidKinds := [.data, .pinned], laidTests := true, laidLooks := .later }
def TextSpecCardSaid : Prop := Claim7.holds Tryd.pinned (.plain (OpenSpec.ofChange textSpecSpec)) textSpecCard

/-- THE TIED CARD OF 'hansardlaw09.TextWordsSpec'. -/
def textWordsSpecCard : Claim7 := { stood := { row := textWordsSpecRow, standIns := [], harness := (true, "4922f3aac9be6038b28268b49f85ba9a9cb47745fc7b9f6b613183aeff4cb7db"), looks := false }, kinds := [], alts := [], laidByText := true, laidKinds := [.data, .pinned], laidTests := true, laidLooks := .later }
def TextWordsSpecCardSaid : Prop := Claim7.holds Tryd.pinned (.plain (OpenSpec.ofChange textWordsSpecSpec)) textWordsSpecCard

/-- THE TIED CARD OF 'hansardlaw09.TextBack'. -/
def textBackCard : Claim7 := { stood := { row := textBackRow, standIns := [], harness := (true, "4922f3aac9be6038b28268b49f85ba9a9cb47745fc7b9f6b613183aeff4cb7db"), looks := false }, kinds := [], alts := [], laidByText := true, laidKinds := [.data, .pinned], laidTests := true, laidLooks := .later }
def TextBackCardSaid : Prop := Claim7.holds Tryd.pinned (.plain (OpenSpec.ofChange textBackSpec)) textBackCard

/-- THE TIED CARD OF 'hansardlaw09.TextBytes'. -/
def textBytesCard : Claim7 := { stood := { row := textBytesRow, standIns := [], harness := (true, "4922f3aac9be6038b28268b49f85ba9a9cb47745fc7b9f6b613183aeff4cb7db"), looks := false }, kinds := [], alts := [], laidByText := true, laidKinds := [.data, .pinned], laidTests := true, laidLooks := .later }
def TextBytesCardSaid : Prop := Claim7.holds Tryd.pinned (.plain (OpenSpec.ofChange textBytesSpec)) textBytesCard

/-- THE TIED CARD OF 'hansardlaw09.TextJoined'. -/
def textJoinedCard : Claim7 := { stood := { row := textJoinedRow, standIns := [], harness := (true, "4922f3aac9be6038b28268b49f85ba9a9cb47745fc7b9f6b613183aeff4cb7db"), looks := false }, kinds := [], alts := [], laidByText := true, laidKinds := [.data, .pinned], laidTests := true, laidLooks := .later }
def TextJoinedCardSaid : Prop := Claim7.holds Tryd.pinned (.plain (OpenSpec.ofChange textJoinedSpec)) textJoinedCard

/-- THE TIED CARD OF 'hansardlaw09.TextPieces'. -/
def textPiecesCard : Claim7 := { stood := { row := textPiecesRow, standIns := [], harness := (true, "4922f3aac9be6038b28268b49f85ba9a9cb47745fc7b9f6b613183aeff4cb7db"), looks := false }, kinds := [], alts := [], laidByText := true, laidKinds := [.data, .pinned], laidTests := true, laidLooks := .later }
def TextPiecesCardSaid : Prop := Claim7.holds Tryd.pinned (.plain (OpenSpec.ofChange textPiecesSpec)) textPiecesCard

/-- THE TIED CARD OF 'hansardlaw09.TextWord'. -/
def textWordCard : Claim7 := { stood := { row := textWordRow, standIns := [], harness := (true, "4922f3aac9be6038b28268b49f85ba9a9cb47745fc7b9f6b613183aeff4cb7db"), looks := false }, kinds := [], alts := [], laidByText := true, laidKinds := [.data, .pinned], laidTests := true, laidLooks := .later }
def TextWordCardSaid : Prop := Claim7.holds Tryd.pinned (.plain (OpenSpec.ofChange textWordSpec)) textWordCard

/-- THE TIED CARD OF 'hansardlaw10.DirectionSpec'. -/
def directionSpecCard : Claim7 := { stood := { row := directionSpecRow, standIns := [], harness := (true, "4922f3aac9be6038b28268b49f85ba9a9cb47745fc7b9f6b613183aeff4cb7db"), looks := false }, kinds := [], alts := [], laidByText := true, laidKinds := [.data, .data, .pinned], laidTests := true, laidLooks := .later }
def DirectionSpecCardSaid : Prop := Claim7.holds Tryd.pinned (.plain (OpenSpec.ofChange directionSpecSpec)) directionSpecCard

/-- THE TIED CARD OF 'hansardlaw10.DirectionShowSpec'. -/
def directionShowSpecCard : Claim7 := { stood := { row := directionShowSpecRow, standIns := [], harness := (true, "4922f3aac9be6038b28268b49f85ba9a9cb47745fc7b9f6b613183aeff4cb7db"), looks := false }, kinds := [], alts := [], laidByText := true, laidKinds := [.data, .data, .pinned], laidTests := true, laidLooks := .later }
def DirectionShowSpecCardSaid : Prop := Claim7.holds Tryd.pinned (.plain (OpenSpec.ofChange directionShowSpecSpec)) directionShowSpecCard

/-- THE TIED CARD OF 'hansardlaw10.DirectionNeighbours'. -/
def directionNeighboursCard : Claim7 := { stood := { row := directionNeighboursRow, standIns := [], harness := (true, "4922f3aac9be6038b28268b49f85ba9a9cb47745fc7b9f6b613183aeff4cb7db"), looks := false }, kinds := [], alts := [], laidByText := true, laidKinds := [.data, .data, .pinned], laidTests := true, laidLooks := .later }
def DirectionNeighboursCardSaid : Prop := Claim7.holds Tryd.pinned (.plain (OpenSpec.ofChange directionNeighboursSpec)) directionNeighboursCard

/-- THE TIED CARD OF 'hansardlaw10.DirectionRuns'. -/
def directionRunsCard : Claim7 := { stood := { row := directionRunsRow, standIns := [], harness := (true, "4922f3aac9be6038b28268b49f85ba9a9cb47745fc7b9f6b613183aeff4cb7db"), looks := false }, kinds := [], alts := [], laidByText := true, laidKinds := [.data, .data, .pinned], laidTests := true, laidLooks := .later }
def DirectionRunsCardSaid : Prop := Claim7.holds Tryd.pinned (.plain (OpenSpec.ofChange directionRunsSpec)) directionRunsCard

/-- THE TIED CARD OF 'hansardlaw10.DirectionLevels'. -/
def directionLevelsCard : Claim7 := { stood := { row := directionLevelsRow, standIns := [], harness := (true, "4922f3aac9be6038b28268b49f85ba9a9cb47745fc7b9f6b613183aeff4cb7db"), looks := false }, kinds := [], alts := [], laidByText := true, laidKinds := [.data, .data, .pinned], laidTests := true, laidLooks := .later }
def DirectionLevelsCardSaid : Prop := Claim7.holds Tryd.pinned (.plain (OpenSpec.ofChange directionLevelsSpec)) directionLevelsCard

/-- THE TIED CARD OF 'hansardlaw10.DirectionPlain'. -/
def directionPlainCard : Claim7 := { stood := { row := directionPlainRow, standIns := [], harness := (true, "4922f3aac9be6038b28268b49f85ba9a9cb47745fc7b9f6b613183aeff4cb7db"), looks := false }, kinds := [], alts := [], laidByText := true, laidKinds := [.data, .data, .pinned], laidTests := true, laidLooks := .later }
def DirectionPlainCardSaid : Prop := Claim7.holds Tryd.pinned (.plain (OpenSpec.ofChange directionPlainSpec)) directionPlainCard

/-- THE SECOND FORM's CARD OF 'hansardlaw09.TextSpec'. -/
def textSpecUptoCard : Claim7 := { stood := { row := textSpecUptoRow, standIns := [], harness := (true, "4922f3aac9be6038b28268b49f85ba9a9cb47745fc7b9f6b613183aeff4cb7db"), looks := false }, kinds := [], alts := [], laidByText := true, laidKinds := [.data, .pinned], laidTests := true, laidLooks := .later }
def TextSpecUptoCardSaid : Prop := Claim7.holds Tryd.pinned (.plain (OpenSpec.upto textSpecSpec)) textSpecUptoCard

/-- THE SECOND FORM's CARD OF 'hansardlaw09.TextWordsSpec'. -/
def textWordsSpecUptoCard : Claim7 := { stood := { row := textWordsSpecUptoRow, standIns := [], harness := (true, "4922f3aac9be6038b28268b49f85ba9a9cb47745fc7b9f6b613183aeff4cb7db"), looks := false }, kinds := [], alts := [], laidByText := true, laidKinds := [.data, .pinned], laidTests := true, laidLooks := .later }
def TextWordsSpecUptoCardSaid : Prop := Claim7.holds Tryd.pinned (.plain (OpenSpec.upto textWordsSpecSpec)) textWordsSpecUptoCard

/-- THE SECOND FORM's CARD OF 'hansardlaw09.TextBack'. -/
def textBackUptoCard : Claim7 := { stood := { row := textBackUptoRow, standIns := [], harness := (true, "4922f3aac9be6038b28268b49f85ba9a9cb47745fc7b9f6b613183aeff4cb7db"), looks := false }, kinds := [], alts := [], laidByText := true, laidKinds := [.data, .pinned], laidTests := true, laidLooks := .later }
def TextBackUptoCardSaid : Prop := Claim7.holds Tryd.pinned (.plain (OpenSpec.upto textBackSpec)) textBackUptoCard

/-- THE SECOND FORM's CARD OF 'hansardlaw09.TextBytes'. -/
def textBytesUptoCard : Claim7 := { stood := { row := textBytesUptoRow, standIns := [], harness := (true, "4922f3aac9be6038b28268b49f85ba9a9cb47745fc7b9f6b613183aeff4cb7db"), looks := false }, kinds := [], alts := [], laidByText := true, laidKinds := [.data, .pinned], laidTests := true, laidLooks := .later }
def TextBytesUptoCardSaid : Prop := Claim7.holds Tryd.pinned (.plain (OpenSpec.upto textBytesSpec)) textBytesUptoCard

/-- THE SECOND FORM's CARD OF 'hansardlaw09.TextJoined'. -/
def textJoinedUptoCard : Claim7 := { stood := { row := textJoinedUptoRow, standIns := [], harness := (true, "4922f3aac9be6038b28268b49f85ba9a9cb47745fc7b9f6b613183aeff4cb7db"), looks := false }, kinds := [], alts := [], laidByText := true, laidKinds := [.data, .pinned], laidTests := true, laidLooks := .later }
def TextJoinedUptoCardSaid : Prop := Claim7.holds Tryd.pinned (.plain (OpenSpec.upto textJoinedSpec)) textJoinedUptoCard

/-- THE SECOND FORM's CARD OF 'hansardlaw09.TextPieces'. -/
def textPiecesUptoCard : Claim7 := { stood := { row := textPiecesUptoRow, standIns := [], harness := (true, "4922f3aac9be6038b28268b49f85ba9a9cb47745fc7b9f6b613183aeff4cb7db"), looks := false }, kinds := [], alts := [], laidByText := true, laidKinds := [.data, .pinned], laidTests := true, laidLooks := .later }
def TextPiecesUptoCardSaid : Prop := Claim7.holds Tryd.pinned (.plain (OpenSpec.upto textPiecesSpec)) textPiecesUptoCard

/-- THE SECOND FORM's CARD OF 'hansardlaw09.TextWord'. -/
def textWordUptoCard : Claim7 := { stood := { row := textWordUptoRow, standIns := [], harness := (true, "4922f3aac9be6038b28268b49f85ba9a9cb47745fc7b9f6b613183aeff4cb7db"), looks := false }, kinds := [], alts := [], laidByText := true, laidKinds := [.data, .pinned], laidTests := true, laidLooks := .later }
def TextWordUptoCardSaid : Prop := Claim7.holds Tryd.pinned (.plain (OpenSpec.upto textWordSpec)) textWordUptoCard

/-- THE SECOND FORM's CARD OF 'hansardlaw10.DirectionSpec'. -/
def directionSpecUptoCard : Claim7 := { stood := { row := directionSpecUptoRow, standIns := [], harness := (true, "4922f3aac9be6038b28268b49f85ba9a9cb47745fc7b9f6b613183aeff4cb7db"), looks := false }, kinds := [], alts := [], laidByText := true, laidKinds := [.data, .data, .pinned], laidTests := true, laidLooks := .later }
def DirectionSpecUptoCardSaid : Prop := Claim7.holds Tryd.pinned (.plain (OpenSpec.upto directionSpecSpec)) directionSpecUptoCard

/-- THE SECOND FORM's CARD OF 'hansardlaw10.DirectionShowSpec'. -/
def directionShowSpecUptoCard : Claim7 := { stood := { row := directionShowSpecUptoRow, standIns := [], harness := (true, "4922f3aac9be6038b28268b49f85ba9a9cb47745fc7b9f6b613183aeff4cb7db"), looks := false }, kinds := [], alts := [], laidByText := true, laidKinds := [.data, .data, .pinned], laidTests := true, laidLooks := .later }
def DirectionShowSpecUptoCardSaid : Prop := Claim7.holds Tryd.pinned (.plain (OpenSpec.upto directionShowSpecSpec)) directionShowSpecUptoCard

/-- THE SECOND FORM's CARD OF 'hansardlaw10.DirectionNeighbours'. -/
def directionNeighboursUptoCard : Claim7 := { stood := { row := directionNeighboursUptoRow, standIns := [], harness := (true, "4922f3aac9be6038b28268b49f85ba9a9cb47745fc7b9f6b613183aeff4cb7db"), looks := false }, kinds := [], alts := [], laidByText := true, laidKinds := [.data, .data, .pinned], laidTests := true, laidLooks := .later }
def DirectionNeighboursUptoCardSaid : Prop := Claim7.holds Tryd.pinned (.plain (OpenSpec.upto directionNeighboursSpec)) directionNeighboursUptoCard

/-- THE SECOND FORM's CARD OF 'hansardlaw10.DirectionRuns'. -/
def directionRunsUptoCard : Claim7 := { stood := { row := directionRunsUptoRow, standIns := [], harness := (true, "4922f3aac9be6038b28268b49f85ba9a9cb47745fc7b9f6b613183aeff4cb7db"), looks := false }, kinds := [], alts := [], laidByText := true, laidKinds := [.data, .data, .pinned], laidTests := true, laidLooks := .later }
def DirectionRunsUptoCardSaid : Prop := Claim7.holds Tryd.pinned (.plain (OpenSpec.upto directionRunsSpec)) directionRunsUptoCard

/-- THE SECOND FORM's CARD OF 'hansardlaw10.DirectionLevels'. -/
def directionLevelsUptoCard : Claim7 := { stood := { row := directionLevelsUptoRow, standIns := [], harness := (true, "4922f3aac9be6038b28268b49f85ba9a9cb47745fc7b9f6b613183aeff4cb7db"), looks := false }, kinds := [], alts := [], laidByText := true, laidKinds := [.data, .data, .pinned], laidTests := true, laidLooks := .later }
def DirectionLevelsUptoCardSaid : Prop := Claim7.holds Tryd.pinned (.plain (OpenSpec.upto directionLevelsSpec)) directionLevelsUptoCard

/-- THE SECOND FORM's CARD OF 'hansardlaw10.DirectionPlain'. -/
def directionPlainUptoCard : Claim7 := { stood := { row := directionPlainUptoRow, standIns := [], harness := (true, "4922f3aac9be6038b28268b49f85ba9a9cb47745fc7b9f6b613183aeff4cb7db"), looks := false }, kinds := [], alts := [], laidByText := true, laidKinds := [.data, .data, .pinned], laidTests := true, laidLooks := .later }
def DirectionPlainUptoCardSaid : Prop := Claim7.holds Tryd.pinned (.plain (OpenSpec.upto directionPlainSpec)) directionPlainUptoCard
end Rows
end Go.Proofs.YtilkhamlhbbmgaaDoor
