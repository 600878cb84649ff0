/-
  DERIVED. GIVEN WITH THE SEED: THE CARDS: each row of YtfkjgjdbjmcioaaDoorRows.lean that lists a variable, with what it lists TIED to the program's text (the seventh form; the later family's looks); each row that meets fmt, with fmt's text TOLD by the authors' own Lean function (tested against real Go, not proved from fmt's source: count such statements apart). THE CARD IS WHAT COUNTS. Prove the row's statement (the work); the ties are given (YtfkjgjdbjmcioaaDoorTie.lean); close each card by the builder's one call (the guide's Derived/Test/ToyasCard.lean, 'card_holds'). Laid BY PROGRAM, IN A SANDBOX (cutbox-door.mjs). By AI agents, Wed Nov 11 2026. No macro, syntax, notation, axiom, sorry.
-/
import Derived.Test.YtfkjgjdbjmcioaaDoorRows
import GoSem.ClaimSeven
namespace Go.Proofs.YtfkjgjdbjmcioaaDoor
namespace Rows

/-- THE TIED CARD OF 'sticklerlaw08.KindsNames'. -/
def kindsNamesCard : Claim7 := { stood := { row := kindsNamesRow, standIns := [], harness := (true, "f38e89e2668b982ae391d0bfc4eef893f368107828ea4ba2fc6a2f04e30e93f1"), looks := false }, kinds := [], alts := [], laidByText := true, laidKinds := [.data, .data, .data, .data], laidTests := true, laidLooks := .later }
def KindsNamesCardSaid : Prop := Claim7.holds Tryd.pinned (.plain (OpenSpec.ofChange kindsNamesSpec)) kindsNamesCard

/-- THE TIED CARD OF 'sticklerlaw08.KindsFlags'. -/
def kindsFlagsCard : Claim7 := { stood := { row := kindsFlagsRow, standIns := [], harness := (true, "f38e89e2668b982ae391d0bfc4eef893f368107828ea4ba2fc6a2f04e30e93f1"), looks := false }, kinds := [], alts := [], laidByText := true, laidKinds := [.data, .data, .data, .data], laidTests := true, laidLooks := .later }
def KindsFlagsCardSaid : Prop := Claim7.holds Tryd.pinned (.plain (OpenSpec.ofChange kindsFlagsSpec)) kindsFlagsCard

/-- THE TIED CARD OF 'sticklerlaw08.KindsStreams'. -/
def kindsStreamsCard : Claim7 := { stood := { row := kindsStreamsRow, standIns := [], harness := (true, "f38e89e2668b982ae391d0bfc4eef893f368107828ea4ba2fc6a2f04e30e93f1"), looks := false }, kinds := [], alts := [], laidByText := true, laidKinds := [.data, .data, .data, .data], laidTests := true, laidLooks := .later }
def KindsStreamsCardSaid : Prop := Claim7.holds Tryd.pinned (.plain (OpenSpec.ofChange kindsStreamsSpec)) kindsStreamsCard

/-- THE TIED CARD OF 'sticklerlaw25.TokenLowers'. -/
def tokenLowersCard : Claim7 := { stood := { row := tokenLowersRow, standIns := [], harness := (true, "f38e89e2668b982ae391d0bfc4eef893f368107828ea4ba2fc6a2f04e30e93f1"), looks := false }, kinds := [], alts := [], laidByText := true, laidKinds := [.data], laidTests := true, laidLooks := .later }
def TokenLowersCardSaid : Prop := Claim7.holds Tryd.pinned (.plain (OpenSpec.ofChange tokenLowersSpec)) tokenLowersCard

/-- THE TIED CARD OF 'sticklerlaw03.DigitsTexts'. -/
def digitsTextsCard : Claim7 := { stood := { row := digitsTextsRow, standIns := [], harness := (true, "f38e89e2668b982ae391d0bfc4eef893f368107828ea4ba2fc6a2f04e30e93f1"), looks := false }, kinds := [], alts := [], laidByText := true, laidKinds := [.data, .data, .data, .data, .pinned], laidTests := true, laidLooks := .later }
def DigitsTextsCardSaid : Prop := Claim7.holds Tryd.pinned (.plain (OpenSpec.ofChange digitsTextsSpec)) digitsTextsCard

/-- THE TIED CARD OF 'sticklerlaw03.DigitsReads'. -/
def digitsReadsCard : Claim7 := { stood := { row := digitsReadsRow, standIns := [], harness := (true, "f38e89e2668b982ae391d0bfc4eef893f368107828ea4ba2fc6a2f04e30e93f1"), looks := false }, kinds := [], alts := [], laidByText := true, laidKinds := [.data, .data, .data, .data, .pinned], laidTests := true, laidLooks := .later }
def DigitsReadsCardSaid : Prop := Claim7.holds Tryd.pinned (.plain (OpenSpec.ofChange digitsReadsSpec)) digitsReadsCard

/-- THE TIED CARD OF 'sticklerlaw03.DigitsNatural'. -/
def digitsNaturalCard : Claim7 := { stood := { row := digitsNaturalRow, standIns := [], harness := (true, "f38e89e2668b982ae391d0bfc4eef893f368107828ea4ba2fc6a2f04e30e93f1"), looks := false }, kinds := [], alts := [], laidByText := true, laidKinds := [.data, .data, .data, .data, .pinned], laidTests := true, laidLooks := .later }
def DigitsNaturalCardSaid : Prop := Claim7.holds Tryd.pinned (.plain (OpenSpec.ofChange digitsNaturalSpec)) digitsNaturalCard

/-- THE TIED CARD OF 'sticklerlaw03.DigitsLists'. -/
def digitsListsCard : Claim7 := { stood := { row := digitsListsRow, standIns := [], harness := (true, "f38e89e2668b982ae391d0bfc4eef893f368107828ea4ba2fc6a2f04e30e93f1"), looks := false }, kinds := [], alts := [], laidByText := true, laidKinds := [.data, .data, .data, .data, .pinned], laidTests := true, laidLooks := .later }
def DigitsListsCardSaid : Prop := Claim7.holds Tryd.pinned (.plain (OpenSpec.ofChange digitsListsSpec)) digitsListsCard

/-- THE TIED CARD OF 'sticklerlaw04.WordsQuote'. -/
def wordsQuoteCard : Claim7 := { stood := { row := wordsQuoteRow, standIns := [], harness := (true, "f38e89e2668b982ae391d0bfc4eef893f368107828ea4ba2fc6a2f04e30e93f1"), looks := false }, kinds := [], alts := [], laidByText := true, laidKinds := [.data, .pinned], laidTests := true, laidLooks := .later }
def WordsQuoteCardSaid : Prop := Claim7.holds Tryd.pinned (.plain (OpenSpec.ofChange wordsQuoteSpec)) wordsQuoteCard

/-- THE TIED CARD OF 'sticklerlaw04.WordsHex'. -/
def wordsHexCard : Claim7 := { stood := { row := wordsHexRow, standIns := [], harness := (true, "f38e89e2668b982ae391d0bfc4eef893f368107828ea4ba2fc6a2f04e30e93f1"), looks := false }, kinds := [], alts := [], laidByText := true, laidKinds := [.data, .pinned], laidTests := true, laidLooks := .later }
def WordsHexCardSaid : Prop := Claim7.holds Tryd.pinned (.plain (OpenSpec.ofChange wordsHexSpec)) wordsHexCard

/-- THE TIED CARD OF 'sticklerlaw09.FaultsSets'. -/
def faultsSetsCard : Claim7 := { stood := { row := faultsSetsRow, standIns := [], harness := (true, "f38e89e2668b982ae391d0bfc4eef893f368107828ea4ba2fc6a2f04e30e93f1"), looks := false }, kinds := [], alts := [], laidByText := true, laidKinds := [.data, .data, .data, .data], laidTests := true, laidLooks := .later }
def FaultsSetsCardSaid : Prop := Claim7.holds Tryd.pinned (.plain (OpenSpec.ofChange faultsSetsSpec)) faultsSetsCard

/-- THE TIED CARD OF 'sticklerlaw09.FaultsUnion'. -/
def faultsUnionCard : Claim7 := { stood := { row := faultsUnionRow, standIns := [], harness := (true, "f38e89e2668b982ae391d0bfc4eef893f368107828ea4ba2fc6a2f04e30e93f1"), looks := false }, kinds := [], alts := [], laidByText := true, laidKinds := [.data, .data, .data, .data], laidTests := true, laidLooks := .later }
def FaultsUnionCardSaid : Prop := Claim7.holds Tryd.pinned (.plain (OpenSpec.ofChange faultsUnionSpec)) faultsUnionCard

/-- THE SECOND FORM's CARD OF 'sticklerlaw08.KindsNames'. -/
def kindsNamesUptoCard : Claim7 := { stood := { row := kindsNamesUptoRow, standIns := [], harness := (true, "f38e89e2668b982ae391d0bfc4eef893f368107828ea4ba2fc6a2f04e30e93f1"), looks := false }, kinds := [], alts := [], laidByText := true, laidKinds := [.data, .data, .data, .data], laidTests := true, laidLooks := .later }
def KindsNamesUptoCardSaid : Prop := Claim7.holds Tryd.pinned (.plain (OpenSpec.upto kindsNamesSpec)) kindsNamesUptoCard

/-- THE SECOND FORM's CARD OF 'sticklerlaw08.KindsFlags'. -/
def kindsFlagsUptoCard : Claim7 := { stood := { row := kindsFlagsUptoRow, standIns := [], harness := (true, "f38e89e2668b982ae391d0bfc4eef893f368107828ea4ba2fc6a2f04e30e93f1"), looks := false }, kinds := [], alts := [], laidByText := true, laidKinds := [.data, .data, .data, .data], laidTests := true, laidLooks := .later }
def KindsFlagsUptoCardSaid : Prop := Claim7.holds Tryd.pinned (.plain (OpenSpec.upto kindsFlagsSpec)) kindsFlagsUptoCard

/-- THE SECOND FORM's CARD OF 'sticklerlaw08.KindsStreams'. -/
def kindsStreamsUptoCard : Claim7 := { stood := { row := kindsStreamsUptoRow, standIns := [], harness := (true, "f38e89e2668b982ae391d0bfc4eef893f368107828ea4ba2fc6a2f04e30e93f1"), looks := false }, kinds := [], alts := [], laidByText := true, laidKinds := [.data, .data, .data, .data], laidTests := true, laidLooks := .later }
def KindsStreamsUptoCardSaid : Prop := Claim7.holds Tryd.pinned (.plain (OpenSpec.upto kindsStreamsSpec)) kindsStreamsUptoCard

/-- THE SECOND FORM's CARD OF 'sticklerlaw25.TokenLowers'. -/
def tokenLowersUptoCard : Claim7 := { stood := { row := tokenLowersUptoRow, standIns := [], harness := (true, "f38e89e2668b982ae391d0bfc4eef893f368107828ea4ba2fc6a2f04e30e93f1"), looks := false }, kinds := [], alts := [], laidByText := true, laidKinds := [.data], laidTests := true, laidLooks := .later }
def TokenLowersUptoCardSaid : Prop := Claim7.holds Tryd.pinned (.plain (OpenSpec.upto tokenLowersSpec)) tokenLowersUptoCard

/-- THE SECOND FORM's CARD OF 'sticklerlaw03.DigitsTexts'. -/
def digitsTextsUptoCard : Claim7 := { stood := { row := digitsTextsUptoRow, standIns := [], harness := (true, "f38e89e2668b982ae391d0bfc4eef893f368107828ea4ba2fc6a2f04e30e93f1"), looks := false }, kinds := [], alts := [], laidByText := true, laidKinds := [.data, .data, .data, .data, .pinned], laidTests := true, laidLooks := .later }
def DigitsTextsUptoCardSaid : Prop := Claim7.holds Tryd.pinned (.plain (OpenSpec.upto digitsTextsSpec)) digitsTextsUptoCard

/-- THE SECOND FORM's CARD OF 'sticklerlaw03.DigitsReads'. -/
def digitsReadsUptoCard : Claim7 := { stood := { row := digitsReadsUptoRow, standIns := [], harness := (true, "f38e89e2668b982ae391d0bfc4eef893f368107828ea4ba2fc6a2f04e30e93f1"), looks := false }, kinds := [], alts := [], laidByText := true, laidKinds := [.data, .data, .data, .data, .pinned], laidTests := true, laidLooks := .later }
def DigitsReadsUptoCardSaid : Prop := Claim7.holds Tryd.pinned (.plain (OpenSpec.upto digitsReadsSpec)) digitsReadsUptoCard

/-- THE SECOND FORM's CARD OF 'sticklerlaw03.DigitsNatural'. -/
def digitsNaturalUptoCard : Claim7 := { stood := { row := digitsNaturalUptoRow, standIns := [], harness := (true, "f38e89e2668b982ae391d0bfc4eef893f368107828ea4ba2fc6a2f04e30e93f1"), looks := false }, kinds := [], alts := [], laidByText := true, laidKinds := [.data, .data, .data, .data, .pinned], laidTests := true, laidLooks := .later }
def DigitsNaturalUptoCardSaid : Prop := Claim7.holds Tryd.pinned (.plain (OpenSpec.upto digitsNaturalSpec)) digitsNaturalUptoCard

/-- THE SECOND FORM's CARD OF 'sticklerlaw03.DigitsLists'. -/
def digitsListsUptoCard : Claim7 := { stood := { row := digitsListsUptoRow, standIns := [], harness := (true, "f38e89e2668b982ae391d0bfc4eef893f368107828ea4ba2fc6a2f04e30e93f1"), looks := false }, kinds := [], alts := [], laidByText := true, laidKinds := [.data, .data, .data, .data, .pinned], laidTests := true, laidLooks := .later }
def DigitsListsUptoCardSaid : Prop := Claim7.holds Tryd.pinned (.plain (OpenSpec.upto digitsListsSpec)) digitsListsUptoCard

/-- THE SECOND FORM's CARD OF 'sticklerlaw04.WordsQuote'. -/
def wordsQuoteUptoCard : Claim7 := { stood := { row := wordsQuoteUptoRow, standIns := [], harness := (true, "f38e89e2668b982ae391d0bfc4eef893f368107828ea4ba2fc6a2f04e30e93f1"), looks := false }, kinds := [], alts := [], laidByText := true, laidKinds := [.data, .pinned], laidTests := true, laidLooks := .later }
def WordsQuoteUptoCardSaid : Prop := Claim7.holds Tryd.pinned (.plain (OpenSpec.upto wordsQuoteSpec)) wordsQuoteUptoCard

/-- THE SECOND FORM's CARD OF 'sticklerlaw04.WordsHex'. -/
def wordsHexUptoCard : Claim7 := { stood := { row := wordsHexUptoRow, standIns := [], harness := (true, "f38e89e2668b982ae391d0bfc4eef893f368107828ea4ba2fc6a2f04e30e93f1"), looks := false }, kinds := [], alts := [], laidByText := true, laidKinds := [.data, .pinned], laidTests := true, laidLooks := .later }
def WordsHexUptoCardSaid : Prop := Claim7.holds Tryd.pinned (.plain (OpenSpec.upto wordsHexSpec)) wordsHexUptoCard

/-- THE SECOND FORM's CARD OF 'sticklerlaw09.FaultsSets'. -/
def faultsSetsUptoCard : Claim7 := { stood := { row := faultsSetsUptoRow, standIns := [], harness := (true, "f38e89e2668b982ae391d0bfc4eef893f368107828ea4ba2fc6a2f04e30e93f1"), looks := false }, kinds := [], alts := [], laidByText := true, laidKinds := [.data, .data, .data, .data], laidTests := true, laidLooks := .later }
def FaultsSetsUptoCardSaid : Prop := Claim7.holds Tryd.pinned (.plain (OpenSpec.upto faultsSetsSpec)) faultsSetsUptoCard

/-- THE SECOND FORM's CARD OF 'sticklerlaw09.FaultsUnion'. -/
def faultsUnionUptoCard : Claim7 := { stood := { row := faultsUnionUptoRow, standIns := [], harness := (true, "f38e89e2668b982ae391d0bfc4eef893f368107828ea4ba2fc6a2f04e30e93f1"), looks := false }, kinds := [], alts := [], laidByText := true, laidKinds := [.data, .data, .data, .data], laidTests := true, laidLooks := .later }
def FaultsUnionUptoCardSaid : Prop := Claim7.holds Tryd.pinned (.plain (OpenSpec.upto faultsUnionSpec)) faultsUnionUptoCard
end Rows
end Go.Proofs.YtfkjgjdbjmcioaaDoor
