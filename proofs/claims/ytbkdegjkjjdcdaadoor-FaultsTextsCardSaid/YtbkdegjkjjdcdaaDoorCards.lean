/-
  DERIVED. GIVEN WITH THE SEED: THE CARDS: each row of YtbkdegjkjjdcdaaDoorRows.lean that lists a variable, with what it lists TIED to the program's text (the seventh form; the later family's looks); each row that meets fmt, with fmt's text TOLD by the authors' own Lean function (tested against real Go, not proved from fmt's source: count such statements apart). THE CARD IS WHAT COUNTS. Prove the row's statement (the work); the ties are given (YtbkdegjkjjdcdaaDoorTie.lean); close each card by the builder's one call (the guide's Derived/Test/ToyasCard.lean, 'card_holds'). Laid BY PROGRAM, IN A SANDBOX (cutbox-door.mjs). By AI agents, Wed Nov 11 2026. No macro, syntax, notation, axiom, sorry.
-/
import Derived.Test.YtbkdegjkjjdcdaaDoorRows
import GoSem.ClaimSeven
namespace Go.Proofs.YtbkdegjkjjdcdaaDoor
namespace Rows

/-- THE TIED CARD OF 'sticklerlaw08.KindsFlags'. -/
def kindsFlagsCard : Claim7 := { stood := { row := kindsFlagsRow, standIns := [], harness := (true, "c7d89291556e2b4d48a6c5f06cb182fc441c45d276c6782e13c2cbf2f8326e79"), looks := false }, kinds := [], alts := [], laidByText := true, laidKinds := [.data, .data, .data, .data], laidTests := true, laidLooks := .later }
def KindsFlagsCardSaid : Prop := Claim7.holds Tryd.pinned (.plain (OpenSpec.ofChange kindsFlagsSpec)) kindsFlagsCard

/-- THE TIED CARD OF 'sticklerlaw09.FaultsSets'. -/
def faultsSetsCard : Claim7 := { stood := { row := faultsSetsRow, standIns := [], harness := (true, "c7d89291556e2b4d48a6c5f06cb182fc441c45d276c6782e13c2cbf2f8326e79"), looks := false }, kinds := [], alts := [], laidByText := true, laidKinds := [.data, .data, .data, .data], laidTests := true, laidLooks := .later }
def FaultsSetsCardSaid : Prop := Claim7.holds Tryd.pinned (.plain (OpenSpec.ofChange faultsSetsSpec)) faultsSetsCard

/-- THE TIED CARD OF 'sticklerlaw09.FaultsTexts'. -/
def faultsTextsCard : Claim7 := { stood := { row := faultsTextsRow, standIns := [], harness := (true, "c7d89291556e2b4d48a6c5f06cb182fc441c45d276c6782e13c2cbf2f8326e79"), looks := false }, kinds := [], alts := [], laidByText := true, laidKinds := [.data, .data, .data, .data, .data, .pinned], laidTests := true, laidLooks := .later }
def FaultsTextsCardSaid : Prop := Claim7.holds Tryd.pinned (.plain (OpenSpec.ofChange faultsTextsSpec)) faultsTextsCard

/-- THE TIED CARD OF 'sticklerlaw41.RecordOf'. -/
def recordOfCard : Claim7 := { stood := { row := recordOfRow, standIns := [], harness := (true, "c7d89291556e2b4d48a6c5f06cb182fc441c45d276c6782e13c2cbf2f8326e79"), looks := false }, kinds := [], alts := [], laidByText := true, laidKinds := [.data, .data, .data, .data], laidTests := true, laidLooks := .later }
def RecordOfCardSaid : Prop := Claim7.holds Tryd.pinned (.plain (OpenSpec.ofChange recordOfSpec)) recordOfCard

/-- THE SECOND FORM's CARD OF 'sticklerlaw08.KindsFlags'. -/
def kindsFlagsUptoCard : Claim7 := { stood := { row := kindsFlagsUptoRow, standIns := [], harness := (true, "c7d89291556e2b4d48a6c5f06cb182fc441c45d276c6782e13c2cbf2f8326e79"), looks := false }, kinds := [], alts := [], laidByText := true, laidKinds := [.data, .data, .data, .data], laidTests := true, laidLooks := .later }
def KindsFlagsUptoCardSaid : Prop := Claim7.holds Tryd.pinned (.plain (OpenSpec.upto kindsFlagsSpec)) kindsFlagsUptoCard

/-- THE SECOND FORM's CARD OF 'sticklerlaw09.FaultsSets'. -/
def faultsSetsUptoCard : Claim7 := { stood := { row := faultsSetsUptoRow, standIns := [], harness := (true, "c7d89291556e2b4d48a6c5f06cb182fc441c45d276c6782e13c2cbf2f8326e79"), looks := false }, kinds := [], alts := [], laidByText := true, laidKinds := [.data, .data, .data, .data], laidTests := true, laidLooks := .later }
def FaultsSetsUptoCardSaid : Prop := Claim7.holds Tryd.pinned (.plain (OpenSpec.upto faultsSetsSpec)) faultsSetsUptoCard

/-- THE SECOND FORM's CARD OF 'sticklerlaw09.FaultsTexts'. -/
def faultsTextsUptoCard : Claim7 := { stood := { row := faultsTextsUptoRow, standIns := [], harness := (true, "c7d89291556e2b4d48a6c5f06cb182fc441c45d276c6782e13c2cbf2f8326e79"), looks := false }, kinds := [], alts := [], laidByText := true, laidKinds := [.data, .data, .data, .data, .data, .pinned], laidTests := true, laidLooks := .later }
def FaultsTextsUptoCardSaid : Prop := Claim7.holds Tryd.pinned (.plain (OpenSpec.upto faultsTextsSpec)) faultsTextsUptoCard

/-- THE SECOND FORM's CARD OF 'sticklerlaw41.RecordOf'. -/
def recordOfUptoCard : Claim7 := { stood := { row := recordOfUptoRow, standIns := [], harness := (true, "c7d89291556e2b4d48a6c5f06cb182fc441c45d276c6782e13c2cbf2f8326e79"), looks := false }, kinds := [], alts := [], laidByText := true, laidKinds := [.data, .data, .data, .data], laidTests := true, laidLooks := .later }
def RecordOfUptoCardSaid : Prop := Claim7.holds Tryd.pinned (.plain (OpenSpec.upto recordOfSpec)) recordOfUptoCard
end Rows
end Go.Proofs.YtbkdegjkjjdcdaaDoor
