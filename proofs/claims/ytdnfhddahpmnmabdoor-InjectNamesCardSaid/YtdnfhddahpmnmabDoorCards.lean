/-
  DERIVED. GIVEN WITH THE SEED: THE CARDS: each row of YtdnfhddahpmnmabDoorRows.lean that lists a variable, with what it lists TIED to the program's text (the seventh form; the later family's looks); each row that meets fmt, with fmt's text TOLD by the authors' own Lean function (tested against real Go, not proved from fmt's source: count such statements apart). THE CARD IS WHAT COUNTS. Prove the row's statement (the work); the ties are given (YtdnfhddahpmnmabDoorTie.lean); close each card by the builder's one call (the guide's Derived/Test/ToyasCard.lean, 'card_holds'). Laid BY PROGRAM, IN A SANDBOX (cutbox-door.mjs). By AI agents, Wed Nov 11 2026. No macro, syntax, notation, axiom, sorry.
-/
import Derived.Test.YtdnfhddahpmnmabDoorRows
import GoSem.ClaimSeven
namespace Go.Proofs.YtdnfhddahpmnmabDoor
namespace Rows

/-- THE TIED CARD OF 'sticklerlaw03.DigitsNatural'. -/
def digitsNaturalCard : Claim7 := { stood := { row := digitsNaturalRow, standIns := [], harness := (true, "c667e8a8eb911a09c839ee718aafa96ef311c8be8440cc141ec926725a63c9d5"), looks := false }, kinds := [], alts := [], laidByText := true, laidKinds := [.data, .data, .data, .data, .pinned], laidTests := true, laidLooks := .later }
def DigitsNaturalCardSaid : Prop := Claim7.holds Tryd.pinned (.plain (OpenSpec.ofChange digitsNaturalSpec)) digitsNaturalCard

/-- THE TIED CARD OF 'sticklerlaw22.ReprPuts'. -/
def reprPutsCard : Claim7 := { stood := { row := reprPutsRow, standIns := [], harness := (true, "c667e8a8eb911a09c839ee718aafa96ef311c8be8440cc141ec926725a63c9d5"), looks := false }, kinds := [], alts := [], laidByText := true, laidKinds := [.data], laidTests := true, laidLooks := .later }
def ReprPutsCardSaid : Prop := Claim7.holds Tryd.pinned (.plain (OpenSpec.ofChange reprPutsSpec)) reprPutsCard

/-- THE TIED CARD OF 'sticklerlaw22.ReprGets'. -/
def reprGetsCard : Claim7 := { stood := { row := reprGetsRow, standIns := [], harness := (true, "c667e8a8eb911a09c839ee718aafa96ef311c8be8440cc141ec926725a63c9d5"), looks := false }, kinds := [], alts := [], laidByText := true, laidKinds := [.data], laidTests := true, laidLooks := .later }
def ReprGetsCardSaid : Prop := Claim7.holds Tryd.pinned (.plain (OpenSpec.ofChange reprGetsSpec)) reprGetsCard

/-- THE TIED CARD OF 'sticklerlaw22.ReprBack'. -/
def reprBackCard : Claim7 := { stood := { row := reprBackRow, standIns := [], harness := (true, "c667e8a8eb911a09c839ee718aafa96ef311c8be8440cc141ec926725a63c9d5"), looks := false }, kinds := [], alts := [], laidByText := true, laidKinds := [.data], laidTests := true, laidLooks := .later }
def ReprBackCardSaid : Prop := Claim7.holds Tryd.pinned (.plain (OpenSpec.ofChange reprBackSpec)) reprBackCard

/-- THE TIED CARD OF 'sticklerlaw46.InjectNames'. -/
def injectNamesCard : Claim7 := { stood := { row := injectNamesRow, standIns := [], harness := (true, "c667e8a8eb911a09c839ee718aafa96ef311c8be8440cc141ec926725a63c9d5"), looks := false }, kinds := [], alts := [], laidByText := true, laidKinds := [.data, .data], laidTests := true, laidLooks := .later }
def InjectNamesCardSaid : Prop := Claim7.holds Tryd.pinned (.plain (OpenSpec.ofChange injectNamesSpec)) injectNamesCard

/-- THE TIED CARD OF 'sticklerlaw41.RecordOf'. -/
def recordOfCard : Claim7 := { stood := { row := recordOfRow, standIns := [], harness := (true, "c667e8a8eb911a09c839ee718aafa96ef311c8be8440cc141ec926725a63c9d5"), looks := false }, kinds := [], alts := [], laidByText := true, laidKinds := [.data, .data, .data, .data], laidTests := true, laidLooks := .later }
def RecordOfCardSaid : Prop := Claim7.holds Tryd.pinned (.plain (OpenSpec.ofChange recordOfSpec)) recordOfCard

/-- THE SECOND FORM's CARD OF 'sticklerlaw03.DigitsNatural'. -/
def digitsNaturalUptoCard : Claim7 := { stood := { row := digitsNaturalUptoRow, standIns := [], harness := (true, "c667e8a8eb911a09c839ee718aafa96ef311c8be8440cc141ec926725a63c9d5"), looks := false }, kinds := [], alts := [], laidByText := true, laidKinds := [.data, .data, .data, .data, .pinned], laidTests := true, laidLooks := .later }
def DigitsNaturalUptoCardSaid : Prop := Claim7.holds Tryd.pinned (.plain (OpenSpec.upto digitsNaturalSpec)) digitsNaturalUptoCard

/-- THE SECOND FORM's CARD OF 'sticklerlaw22.ReprPuts'. -/
def reprPutsUptoCard : Claim7 := { stood := { row := reprPutsUptoRow, standIns := [], harness := (true, "c667e8a8eb911a09c839ee718aafa96ef311c8be8440cc141ec926725a63c9d5"), looks := false }, kinds := [], alts := [], laidByText := true, laidKinds := [.data], laidTests := true, laidLooks := .later }
def ReprPutsUptoCardSaid : Prop := Claim7.holds Tryd.pinned (.plain (OpenSpec.upto reprPutsSpec)) reprPutsUptoCard

/-- THE SECOND FORM's CARD OF 'sticklerlaw22.ReprGets'. -/
def reprGetsUptoCard : Claim7 := { stood := { row := reprGetsUptoRow, standIns := [], harness := (true, "c667e8a8eb911a09c839ee718aafa96ef311c8be8440cc141ec926725a63c9d5"), looks := false }, kinds := [], alts := [], laidByText := true, laidKinds := [.data], laidTests := true, laidLooks := .later }
def ReprGetsUptoCardSaid : Prop := Claim7.holds Tryd.pinned (.plain (OpenSpec.upto reprGetsSpec)) reprGetsUptoCard

/-- THE SECOND FORM's CARD OF 'sticklerlaw22.ReprBack'. -/
def reprBackUptoCard : Claim7 := { stood := { row := reprBackUptoRow, standIns := [], harness := (true, "c667e8a8eb911a09c839ee718aafa96ef311c8be8440cc141ec926725a63c9d5"), looks := false }, kinds := [], alts := [], laidByText := true, laidKinds := [.data], laidTests := true, laidLooks := .later }
def ReprBackUptoCardSaid : Prop := Claim7.holds Tryd.pinned (.plain (OpenSpec.upto reprBackSpec)) reprBackUptoCard

/-- THE SECOND FORM's CARD OF 'sticklerlaw46.InjectNames'. -/
def injectNamesUptoCard : Claim7 := { stood := { row := injectNamesUptoRow, standIns := [], harness := (true, "c667e8a8eb911a09c839ee718aafa96ef311c8be8440cc141ec926725a63c9d5"), looks := false }, kinds := [], alts := [], laidByText := true, laidKinds := [.data, .data], laidTests := true, laidLooks := .later }
def InjectNamesUptoCardSaid : Prop := Claim7.holds Tryd.pinned (.plain (OpenSpec.upto injectNamesSpec)) injectNamesUptoCard

/-- THE SECOND FORM's CARD OF 'sticklerlaw41.RecordOf'. -/
def recordOfUptoCard : Claim7 := { stood := { row := recordOfUptoRow, standIns := [], harness := (true, "c667e8a8eb911a09c839ee718aafa96ef311c8be8440cc141ec926725a63c9d5"), looks := false }, kinds := [], alts := [], laidByText := true, laidKinds := [.data, .data, .data, .data], laidTests := true, laidLooks := .later }
def RecordOfUptoCardSaid : Prop := Claim7.holds Tryd.pinned (.plain (OpenSpec.upto recordOfSpec)) recordOfUptoCard
end Rows
end Go.Proofs.YtdnfhddahpmnmabDoor
