/-
  DERIVED. GIVEN WITH THE SEED: THE CARDS: each row of YtdlmmjnomeladaaDoorRows.lean that lists a variable, with what it lists TIED to the program's text (the seventh form; the later family's looks); each row that meets fmt, with fmt's text TOLD by the authors' own Lean function (tested against real Go, not proved from fmt's source: count such statements apart). THE CARD IS WHAT COUNTS. Prove the row's statement (the work); the ties are given (YtdlmmjnomeladaaDoorTie.lean); close each card by the builder's one call (the guide's Derived/Test/ToyasCard.lean, 'card_holds'). Laid BY PROGRAM, IN A SANDBOX (cutbox-door.mjs). By AI agents, Wed Nov 11 2026. No macro, syntax, notation, axiom, sorry.
-/
import Derived.Test.YtdlmmjnomeladaaDoorRows
import GoSem.ClaimSeven
namespace Go.Proofs.YtdlmmjnomeladaaDoor
namespace Rows

/-- THE TIED CARD OF 'sticklerlaw04.WordsHex'. -/
def wordsHexCard : Claim7 := { stood := { row := wordsHexRow, standIns := [], harness := (true, "7b9c3c24eb0a7e2099f1741e06549565ffd0a5a058c1e5a2accda6067b4adf48"), looks := false }, kinds := [], alts := [], laidByText := true, laidKinds := [.data, .pinned], laidTests := true, laidLooks := .later }
def WordsHexCardSaid : Prop := Claim7.holds Tryd.pinned (.plain (OpenSpec.ofChange wordsHexSpec)) wordsHexCard

/-- THE TIED CARD OF 'sticklerlaw04.WordsQuote'. -/
def wordsQuoteCard : Claim7 := { stood := { row := wordsQuoteRow, standIns := [], harness := (true, "7b9c3c24eb0a7e2099f1741e06549565ffd0a5a058c1e5a2accda6067b4adf48"), looks := false }, kinds := [], alts := [], laidByText := true, laidKinds := [.data, .pinned], laidTests := true, laidLooks := .later }
def WordsQuoteCardSaid : Prop := Claim7.holds Tryd.pinned (.plain (OpenSpec.ofChange wordsQuoteSpec)) wordsQuoteCard

/-- THE TIED CARD OF 'sticklerlaw04.WordsLine'. -/
def wordsLineCard : Claim7 := { stood := { row := wordsLineRow, standIns := [], harness := (true, "7b9c3c24eb0a7e2099f1741e06549565ffd0a5a058c1e5a2accda6067b4adf48"), looks := false }, kinds := [], alts := [], laidByText := true, laidKinds := [.data, .pinned], laidTests := true, laidLooks := .later }
def WordsLineCardSaid : Prop := Claim7.holds Tryd.pinned (.plain (OpenSpec.ofChange wordsLineSpec)) wordsLineCard

/-- THE TIED CARD OF 'sticklerlaw04.WordsSplit'. -/
def wordsSplitCard : Claim7 := { stood := { row := wordsSplitRow, standIns := [], harness := (true, "7b9c3c24eb0a7e2099f1741e06549565ffd0a5a058c1e5a2accda6067b4adf48"), looks := false }, kinds := [], alts := [], laidByText := true, laidKinds := [.data, .pinned], laidTests := true, laidLooks := .later }
def WordsSplitCardSaid : Prop := Claim7.holds Tryd.pinned (.plain (OpenSpec.ofChange wordsSplitSpec)) wordsSplitCard

/-- THE TIED CARD OF 'sticklerlaw03.DigitsTexts'. -/
def digitsTextsCard : Claim7 := { stood := { row := digitsTextsRow, standIns := [], harness := (true, "7b9c3c24eb0a7e2099f1741e06549565ffd0a5a058c1e5a2accda6067b4adf48"), looks := false }, kinds := [], alts := [], laidByText := true, laidKinds := [.data, .data, .data, .data, .pinned], laidTests := true, laidLooks := .later }
def DigitsTextsCardSaid : Prop := Claim7.holds Tryd.pinned (.plain (OpenSpec.ofChange digitsTextsSpec)) digitsTextsCard

/-- THE TIED CARD OF 'sticklerlaw03.DigitsReads'. -/
def digitsReadsCard : Claim7 := { stood := { row := digitsReadsRow, standIns := [], harness := (true, "7b9c3c24eb0a7e2099f1741e06549565ffd0a5a058c1e5a2accda6067b4adf48"), looks := false }, kinds := [], alts := [], laidByText := true, laidKinds := [.data, .data, .data, .data, .pinned], laidTests := true, laidLooks := .later }
def DigitsReadsCardSaid : Prop := Claim7.holds Tryd.pinned (.plain (OpenSpec.ofChange digitsReadsSpec)) digitsReadsCard

/-- THE TIED CARD OF 'sticklerlaw03.DigitsNatural'. -/
def digitsNaturalCard : Claim7 := { stood := { row := digitsNaturalRow, standIns := [], harness := (true, "7b9c3c24eb0a7e2099f1741e06549565ffd0a5a058c1e5a2accda6067b4adf48"), looks := false }, kinds := [], alts := [], laidByText := true, laidKinds := [.data, .data, .data, .data, .pinned], laidTests := true, laidLooks := .later }
def DigitsNaturalCardSaid : Prop := Claim7.holds Tryd.pinned (.plain (OpenSpec.ofChange digitsNaturalSpec)) digitsNaturalCard

/-- THE TIED CARD OF 'sticklerlaw03.DigitsLists'. -/
def digitsListsCard : Claim7 := { stood := { row := digitsListsRow, standIns := [], harness := (true, "7b9c3c24eb0a7e2099f1741e06549565ffd0a5a058c1e5a2accda6067b4adf48"), looks := false }, kinds := [], alts := [], laidByText := true, laidKinds := [.data, .data, .data, .data, .pinned], laidTests := true, laidLooks := .later }
def DigitsListsCardSaid : Prop := Claim7.holds Tryd.pinned (.plain (OpenSpec.ofChange digitsListsSpec)) digitsListsCard

/-- THE TIED CARD OF 'sticklerlaw08.KindsNames'. -/
def kindsNamesCard : Claim7 := { stood := { row := kindsNamesRow, standIns := [], harness := (true, "7b9c3c24eb0a7e2099f1741e06549565ffd0a5a058c1e5a2accda6067b4adf48"), looks := false }, kinds := [], alts := [], laidByText := true, laidKinds := [.data, .data, .data, .data], laidTests := true, laidLooks := .later }
def KindsNamesCardSaid : Prop := Claim7.holds Tryd.pinned (.plain (OpenSpec.ofChange kindsNamesSpec)) kindsNamesCard

/-- THE TIED CARD OF 'sticklerlaw08.KindsFlags'. -/
def kindsFlagsCard : Claim7 := { stood := { row := kindsFlagsRow, standIns := [], harness := (true, "7b9c3c24eb0a7e2099f1741e06549565ffd0a5a058c1e5a2accda6067b4adf48"), looks := false }, kinds := [], alts := [], laidByText := true, laidKinds := [.data, .data, .data, .data], laidTests := true, laidLooks := .later }
def KindsFlagsCardSaid : Prop := Claim7.holds Tryd.pinned (.plain (OpenSpec.ofChange kindsFlagsSpec)) kindsFlagsCard

/-- THE TIED CARD OF 'sticklerlaw09.FaultsCodes'. -/
def faultsCodesCard : Claim7 := { stood := { row := faultsCodesRow, standIns := [], harness := (true, "7b9c3c24eb0a7e2099f1741e06549565ffd0a5a058c1e5a2accda6067b4adf48"), looks := false }, kinds := [], alts := [], laidByText := true, laidKinds := [.data, .data, .data, .data], laidTests := true, laidLooks := .later }
def FaultsCodesCardSaid : Prop := Claim7.holds Tryd.pinned (.plain (OpenSpec.ofChange faultsCodesSpec)) faultsCodesCard

/-- THE TIED CARD OF 'sticklerlaw09.FaultsSets'. -/
def faultsSetsCard : Claim7 := { stood := { row := faultsSetsRow, standIns := [], harness := (true, "7b9c3c24eb0a7e2099f1741e06549565ffd0a5a058c1e5a2accda6067b4adf48"), looks := false }, kinds := [], alts := [], laidByText := true, laidKinds := [.data, .data, .data, .data], laidTests := true, laidLooks := .later }
def FaultsSetsCardSaid : Prop := Claim7.holds Tryd.pinned (.plain (OpenSpec.ofChange faultsSetsSpec)) faultsSetsCard

/-- THE TIED CARD OF 'sticklerlaw09.FaultsUnion'. -/
def faultsUnionCard : Claim7 := { stood := { row := faultsUnionRow, standIns := [], harness := (true, "7b9c3c24eb0a7e2099f1741e06549565ffd0a5a058c1e5a2accda6067b4adf48"), looks := false }, kinds := [], alts := [], laidByText := true, laidKinds := [.data, .data, .data, .data], laidTests := true, laidLooks := .later }
def FaultsUnionCardSaid : Prop := Claim7.holds Tryd.pinned (.plain (OpenSpec.ofChange faultsUnionSpec)) faultsUnionCard

/-- THE TIED CARD OF 'sticklerlaw09.FaultsTexts'. -/
def faultsTextsCard : Claim7 := { stood := { row := faultsTextsRow, standIns := [], harness := (true, "7b9c3c24eb0a7e2099f1741e06549565ffd0a5a058c1e5a2accda6067b4adf48"), looks := false }, kinds := [], alts := [], laidByText := true, laidKinds := [.data, .data, .data, .data, .data, .pinned], laidTests := true, laidLooks := .later }
def FaultsTextsCardSaid : Prop := Claim7.holds Tryd.pinned (.plain (OpenSpec.ofChange faultsTextsSpec)) faultsTextsCard

/-- THE SECOND FORM's CARD OF 'sticklerlaw04.WordsHex'. -/
def wordsHexUptoCard : Claim7 := { stood := { row := wordsHexUptoRow, standIns := [], harness := (true, "7b9c3c24eb0a7e2099f1741e06549565ffd0a5a058c1e5a2accda6067b4adf48"), looks := false }, kinds := [], alts := [], laidByText := true, laidKinds := [.data, .pinned], laidTests := true, laidLooks := .later }
def WordsHexUptoCardSaid : Prop := Claim7.holds Tryd.pinned (.plain (OpenSpec.upto wordsHexSpec)) wordsHexUptoCard

/-- THE SECOND FORM's CARD OF 'sticklerlaw04.WordsQuote'. -/
def wordsQuoteUptoCard : Claim7 := { stood := { row := wordsQuoteUptoRow, standIns := [], harness := (true, "7b9c3c24eb0a7e2099f1741e06549565ffd0a5a058c1e5a2accda6067b4adf48"), looks := false }, kinds := [], alts := [], laidByText := true, laidKinds := [.data, .pinned], laidTests := true, laidLooks := .later }
def WordsQuoteUptoCardSaid : Prop := Claim7.holds Tryd.pinned (.plain (OpenSpec.upto wordsQuoteSpec)) wordsQuoteUptoCard

/-- THE SECOND FORM's CARD OF 'sticklerlaw04.WordsLine'. -/
def wordsLineUptoCard : Claim7 := { stood := { row := wordsLineUptoRow, standIns := [], harness := (true, "7b9c3c24eb0a7e2099f1741e06549565ffd0a5a058c1e5a2accda6067b4adf48"), looks := false }, kinds := [], alts := [], laidByText := true, laidKinds := [.data, .pinned], laidTests := true, laidLooks := .later }
def WordsLineUptoCardSaid : Prop := Claim7.holds Tryd.pinned (.plain (OpenSpec.upto wordsLineSpec)) wordsLineUptoCard

/-- THE SECOND FORM's CARD OF 'sticklerlaw04.WordsSplit'. -/
def wordsSplitUptoCard : Claim7 := { stood := { row := wordsSplitUptoRow, standIns := [], harness := (true, "7b9c3c24eb0a7e2099f1741e06549565ffd0a5a058c1e5a2accda6067b4adf48"), looks := false }, kinds := [], alts := [], laidByText := true, laidKinds := [.data, .pinned], laidTests := true, laidLooks := .later }
def WordsSplitUptoCardSaid : Prop := Claim7.holds Tryd.pinned (.plain (OpenSpec.upto wordsSplitSpec)) wordsSplitUptoCard

/-- THE SECOND FORM's CARD OF 'sticklerlaw03.DigitsTexts'. -/
def digitsTextsUptoCard : Claim7 := { stood := { row := digitsTextsUptoRow, standIns := [], harness := (true, "7b9c3c24eb0a7e2099f1741e06549565ffd0a5a058c1e5a2accda6067b4adf48"), looks := false }, kinds := [], alts := [], laidByText := true, laidKinds := [.data, .data, .data, .data, .pinned], laidTests := true, laidLooks := .later }
def DigitsTextsUptoCardSaid : Prop := Claim7.holds Tryd.pinned (.plain (OpenSpec.upto digitsTextsSpec)) digitsTextsUptoCard

/-- THE SECOND FORM's CARD OF 'sticklerlaw03.DigitsReads'. -/
def digitsReadsUptoCard : Claim7 := { stood := { row := digitsReadsUptoRow, standIns := [], harness := (true, "7b9c3c24eb0a7e2099f1741e06549565ffd0a5a058c1e5a2accda6067b4adf48"), looks := false }, kinds := [], alts := [], laidByText := true, laidKinds := [.data, .data, .data, .data, .pinned], laidTests := true, laidLooks := .later }
def DigitsReadsUptoCardSaid : Prop := Claim7.holds Tryd.pinned (.plain (OpenSpec.upto digitsReadsSpec)) digitsReadsUptoCard

/-- THE SECOND FORM's CARD OF 'sticklerlaw03.DigitsNatural'. -/
def digitsNaturalUptoCard : Claim7 := { stood := { row := digitsNaturalUptoRow, standIns := [], harness := (true, "7b9c3c24eb0a7e2099f1741e06549565ffd0a5a058c1e5a2accda6067b4adf48"), looks := false }, kinds := [], alts := [], laidByText := true, laidKinds := [.data, .data, .data, .data, .pinned], laidTests := true, laidLooks := .later }
def DigitsNaturalUptoCardSaid : Prop := Claim7.holds Tryd.pinned (.plain (OpenSpec.upto digitsNaturalSpec)) digitsNaturalUptoCard

/-- THE SECOND FORM's CARD OF 'sticklerlaw03.DigitsLists'. -/
def digitsListsUptoCard : Claim7 := { stood := { row := digitsListsUptoRow, standIns := [], harness := (true, "7b9c3c24eb0a7e2099f1741e06549565ffd0a5a058c1e5a2accda6067b4adf48"), looks := false }, kinds := [], alts := [], laidByText := true, laidKinds := [.data, .data, .data, .data, .pinned], laidTests := true, laidLooks := .later }
def DigitsListsUptoCardSaid : Prop := Claim7.holds Tryd.pinned (.plain (OpenSpec.upto digitsListsSpec)) digitsListsUptoCard

/-- THE SECOND FORM's CARD OF 'sticklerlaw08.KindsNames'. -/
def kindsNamesUptoCard : Claim7 := { stood := { row := kindsNamesUptoRow, standIns := [], harness := (true, "7b9c3c24eb0a7e2099f1741e06549565ffd0a5a058c1e5a2accda6067b4adf48"), looks := false }, kinds := [], alts := [], laidByText := true, laidKinds := [.data, .data, .data, .data], laidTests := true, laidLooks := .later }
def KindsNamesUptoCardSaid : Prop := Claim7.holds Tryd.pinned (.plain (OpenSpec.upto kindsNamesSpec)) kindsNamesUptoCard

/-- THE SECOND FORM's CARD OF 'sticklerlaw08.KindsFlags'. -/
def kindsFlagsUptoCard : Claim7 := { stood := { row := kindsFlagsUptoRow, standIns := [], harness := (true, "7b9c3c24eb0a7e2099f1741e06549565ffd0a5a058c1e5a2accda6067b4adf48"), looks := false }, kinds := [], alts := [], laidByText := true, laidKinds := [.data, .data, .data, .data], laidTests := true, laidLooks := .later }
def KindsFlagsUptoCardSaid : Prop := Claim7.holds Tryd.pinned (.plain (OpenSpec.upto kindsFlagsSpec)) kindsFlagsUptoCard

/-- THE SECOND FORM's CARD OF 'sticklerlaw09.FaultsCodes'. -/
def faultsCodesUptoCard : Claim7 := { stood := { row := faultsCodesUptoRow, standIns := [], harness := (true, "7b9c3c24eb0a7e2099f1741e06549565ffd0a5a058c1e5a2accda6067b4adf48"), looks := false }, kinds := [], alts := [], laidByText := true, laidKinds := [.data, .data, .data, .data], laidTests := true, laidLooks := .later }
def FaultsCodesUptoCardSaid : Prop := Claim7.holds Tryd.pinned (.plain (OpenSpec.upto faultsCodesSpec)) faultsCodesUptoCard

/-- THE SECOND FORM's CARD OF 'sticklerlaw09.FaultsSets'. -/
def faultsSetsUptoCard : Claim7 := { stood := { row := faultsSetsUptoRow, standIns := [], harness := (true, "7b9c3c24eb0a7e2099f1741e06549565ffd0a5a058c1e5a2accda6067b4adf48"), looks := false }, kinds := [], alts := [], laidByText := true, laidKinds := [.data, .data, .data, .data], laidTests := true, laidLooks := .later }
def FaultsSetsUptoCardSaid : Prop := Claim7.holds Tryd.pinned (.plain (OpenSpec.upto faultsSetsSpec)) faultsSetsUptoCard

/-- THE SECOND FORM's CARD OF 'sticklerlaw09.FaultsUnion'. -/
def faultsUnionUptoCard : Claim7 := { stood := { row := faultsUnionUptoRow, standIns := [], harness := (true, "7b9c3c24eb0a7e2099f1741e06549565ffd0a5a058c1e5a2accda6067b4adf48"), looks := false }, kinds := [], alts := [], laidByText := true, laidKinds := [.data, .data, .data, .data], laidTests := true, laidLooks := .later }
def FaultsUnionUptoCardSaid : Prop := Claim7.holds Tryd.pinned (.plain (OpenSpec.upto faultsUnionSpec)) faultsUnionUptoCard

/-- THE SECOND FORM's CARD OF 'sticklerlaw09.FaultsTexts'. -/
def faultsTextsUptoCard : Claim7 := { stood := { row := faultsTextsUptoRow, standIns := [], harness := (true, "7b9c3c24eb0a7e2099f1741e06549565ffd0a5a058c1e5a2accda6067b4adf48"), looks := false }, kinds := [], alts := [], laidByText := true, laidKinds := [.data, .data, .data, .data, .data, .pinned], laidTests := true, laidLooks := .later }
def FaultsTextsUptoCardSaid : Prop := Claim7.holds Tryd.pinned (.plain (OpenSpec.upto faultsTextsSpec)) faultsTextsUptoCard
end Rows
end Go.Proofs.YtdlmmjnomeladaaDoor
