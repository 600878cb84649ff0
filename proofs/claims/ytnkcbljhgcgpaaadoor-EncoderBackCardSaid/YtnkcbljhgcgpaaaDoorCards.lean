/-
  DERIVED. GIVEN WITH THE SEED: THE CARDS: each row of YtnkcbljhgcgpaaaDoorRows.lean that lists a variable, with what it lists TIED to the program's text (the seventh form; the later family's looks); each row that meets fmt, with fmt's text TOLD by the authors' own Lean function (tested against real Go, not proved from fmt's source: count such statements apart). THE CARD IS WHAT COUNTS. Prove the row's statement (the work); the ties are given (YtnkcbljhgcgpaaaDoorTie.lean); close each card by the builder's one call (the guide's Derived/Test/ToyasCard.lean, 'card_holds'). Laid BY PROGRAM, IN A SANDBOX (cutbox-door.mjs). By AI agents, Wed Nov 11 2026. No macro, syntax, notation, axiom, sorry.
-/
import Derived.Test.YtnkcbljhgcgpaaaDoorRows
import GoSem.ClaimSeven
namespace Go.Proofs.YtnkcbljhgcgpaaaDoor
namespace Rows

/-- THE TIED CARD OF 'sticklerlaw23.DecoderNobody'. -/
def decoderNobodyCard : Claim7 := { stood := { row := decoderNobodyRow, standIns := [], harness := (true, "f33b112622033dccbb66df732950d8b3e30fa72e2d6fe4a08eb962c30eb970f5"), looks := false }, kinds := [], alts := [], laidByText := true, laidKinds := [.data], laidTests := true, laidLooks := .later }
def DecoderNobodyCardSaid : Prop := Claim7.holds Tryd.pinned (.plain (OpenSpec.ofChange decoderNobodySpec)) decoderNobodyCard

/-- THE TIED CARD OF 'sticklerlaw23.DecoderBounds'. -/
def decoderBoundsCard : Claim7 := { stood := { row := decoderBoundsRow, standIns := [], harness := (true, "f33b112622033dccbb66df732950d8b3e30fa72e2d6fe4a08eb962c30eb970f5"), looks := false }, kinds := [], alts := [], laidByText := true, laidKinds := [.data], laidTests := true, laidLooks := .later }
def DecoderBoundsCardSaid : Prop := Claim7.holds Tryd.pinned (.plain (OpenSpec.ofChange decoderBoundsSpec)) decoderBoundsCard

/-- THE TIED CARD OF 'sticklerlaw23.DecoderPlays'. -/
def decoderPlaysCard : Claim7 := { stood := { row := decoderPlaysRow, standIns := [], harness := (true, "f33b112622033dccbb66df732950d8b3e30fa72e2d6fe4a08eb962c30eb970f5"), looks := false }, kinds := [], alts := [], laidByText := true, laidKinds := [.data], laidTests := true, laidLooks := .later }
def DecoderPlaysCardSaid : Prop := Claim7.holds Tryd.pinned (.plain (OpenSpec.ofChange decoderPlaysSpec)) decoderPlaysCard

/-- THE TIED CARD OF 'sticklerlaw24.EncoderNobody'. -/
def encoderNobodyCard : Claim7 := { stood := { row := encoderNobodyRow, standIns := [], harness := (true, "f33b112622033dccbb66df732950d8b3e30fa72e2d6fe4a08eb962c30eb970f5"), looks := false }, kinds := [], alts := [], laidByText := true, laidKinds := [.data], laidTests := true, laidLooks := .later }
def EncoderNobodyCardSaid : Prop := Claim7.holds Tryd.pinned (.plain (OpenSpec.ofChange encoderNobodySpec)) encoderNobodyCard

/-- THE TIED CARD OF 'sticklerlaw24.EncoderWrites'. -/
def encoderWritesCard : Claim7 := { stood := { row := encoderWritesRow, standIns := [], harness := (true, "f33b112622033dccbb66df732950d8b3e30fa72e2d6fe4a08eb962c30eb970f5"), looks := false }, kinds := [], alts := [], laidByText := true, laidKinds := [.data], laidTests := true, laidLooks := .later }
def EncoderWritesCardSaid : Prop := Claim7.holds Tryd.pinned (.plain (OpenSpec.ofChange encoderWritesSpec)) encoderWritesCard

/-- THE TIED CARD OF 'sticklerlaw24.EncoderBack'. -/
def encoderBackCard : Claim7 := { stood := { row := encoderBackRow, standIns := [], harness := (true, "f33b112622033dccbb66df732950d8b3e30fa72e2d6fe4a08eb962c30eb970f5"), looks := false }, kinds := [], alts := [], laidByText := true, laidKinds := [.data], laidTests := true, laidLooks := .later }
def EncoderBackCardSaid : Prop := Claim7.holds Tryd.pinned (.plain (OpenSpec.ofChange encoderBackSpec)) encoderBackCard

/-- THE SECOND FORM's CARD OF 'sticklerlaw23.DecoderNobody'. -/
def decoderNobodyUptoCard : Claim7 := { stood := { row := decoderNobodyUptoRow, standIns := [], harness := (true, "f33b112622033dccbb66df732950d8b3e30fa72e2d6fe4a08eb962c30eb970f5"), looks := false }, kinds := [], alts := [], laidByText := true, laidKinds := [.data], laidTests := true, laidLooks := .later }
def DecoderNobodyUptoCardSaid : Prop := Claim7.holds Tryd.pinned (.plain (OpenSpec.upto decoderNobodySpec)) decoderNobodyUptoCard

/-- THE SECOND FORM's CARD OF 'sticklerlaw23.DecoderBounds'. -/
def decoderBoundsUptoCard : Claim7 := { stood := { row := decoderBoundsUptoRow, standIns := [], harness := (true, "f33b112622033dccbb66df732950d8b3e30fa72e2d6fe4a08eb962c30eb970f5"), looks := false }, kinds := [], alts := [], laidByText := true, laidKinds := [.data], laidTests := true, laidLooks := .later }
def DecoderBoundsUptoCardSaid : Prop := Claim7.holds Tryd.pinned (.plain (OpenSpec.upto decoderBoundsSpec)) decoderBoundsUptoCard

/-- THE SECOND FORM's CARD OF 'sticklerlaw23.DecoderPlays'. -/
def decoderPlaysUptoCard : Claim7 := { stood := { row := decoderPlaysUptoRow, standIns := [], harness := (true, "f33b112622033dccbb66df732950d8b3e30fa72e2d6fe4a08eb962c30eb970f5"), looks := false }, kinds := [], alts := [], laidByText := true, laidKinds := [.data], laidTests := true, laidLooks := .later }
def DecoderPlaysUptoCardSaid : Prop := Claim7.holds Tryd.pinned (.plain (OpenSpec.upto decoderPlaysSpec)) decoderPlaysUptoCard

/-- THE SECOND FORM's CARD OF 'sticklerlaw24.EncoderNobody'. -/
def encoderNobodyUptoCard : Claim7 := { stood := { row := encoderNobodyUptoRow, standIns := [], harness := (true, "f33b112622033dccbb66df732950d8b3e30fa72e2d6fe4a08eb962c30eb970f5"), looks := false }, kinds := [], alts := [], laidByText := true, laidKinds := [.data], laidTests := true, laidLooks := .later }
def EncoderNobodyUptoCardSaid : Prop := Claim7.holds Tryd.pinned (.plain (OpenSpec.upto encoderNobodySpec)) encoderNobodyUptoCard

/-- THE SECOND FORM's CARD OF 'sticklerlaw24.EncoderWrites'. -/
def encoderWritesUptoCard : Claim7 := { stood := { row := encoderWritesUptoRow, standIns := [], harness := (true, "f33b112622033dccbb66df732950d8b3e30fa72e2d6fe4a08eb962c30eb970f5"), looks := false }, kinds := [], alts := [], laidByText := true, laidKinds := [.data], laidTests := true, laidLooks := .later }
def EncoderWritesUptoCardSaid : Prop := Claim7.holds Tryd.pinned (.plain (OpenSpec.upto encoderWritesSpec)) encoderWritesUptoCard

/-- THE SECOND FORM's CARD OF 'sticklerlaw24.EncoderBack'. -/
def encoderBackUptoCard : Claim7 := { stood := { row := encoderBackUptoRow, standIns := [], harness := (true, "f33b112622033dccbb66df732950d8b3e30fa72e2d6fe4a08eb962c30eb970f5"), looks := false }, kinds := [], alts := [], laidByText := true, laidKinds := [.data], laidTests := true, laidLooks := .later }
def EncoderBackUptoCardSaid : Prop := Claim7.holds Tryd.pinned (.plain (OpenSpec.upto encoderBackSpec)) encoderBackUptoCard
end Rows
end Go.Proofs.YtnkcbljhgcgpaaaDoor
