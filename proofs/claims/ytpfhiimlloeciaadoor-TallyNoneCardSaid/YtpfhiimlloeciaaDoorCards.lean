/-
  DERIVED. GIVEN WITH THE SEED: THE CARDS: each row of YtpfhiimlloeciaaDoorRows.lean that lists a variable, with what it lists TIED to the program's text (the seventh form; the later family's looks); each row that meets fmt, with fmt's text TOLD by the authors' own Lean function (tested against real Go, not proved from fmt's source: count such statements apart). THE CARD IS WHAT COUNTS. Prove the row's statement (the work); the ties are given (YtpfhiimlloeciaaDoorTie.lean); close each card by the builder's one call (the guide's Derived/Test/ToyasCard.lean, 'card_holds'). Laid BY PROGRAM, IN A SANDBOX (cutbox-door.mjs). By AI agents, Wed Nov 11 2026. No macro, syntax, notation, axiom, sorry.
-/
import Derived.Test.YtpfhiimlloeciaaDoorRows
import GoSem.ClaimSeven
namespace Go.Proofs.YtpfhiimlloeciaaDoor
namespace Rows

/-- THE TIED CARD OF 'sticklerlaw08.KindsFlags'. -/
def kindsFlagsCard : Claim7 := { stood := { row := kindsFlagsRow, standIns := [], harness := (true, "334cce0752fb21650deeafe8bb4f14aa3718698ace54a9cbf22647eb6a4bf5c3"), looks := false }, kinds := [], alts := [], laidByText := true, laidKinds := [.data, .data, .data, .data], laidTests := true, laidLooks := .later }
def KindsFlagsCardSaid : Prop := Claim7.holds Tryd.pinned (.plain (OpenSpec.ofChange kindsFlagsSpec)) kindsFlagsCard

/-- THE TIED CARD OF 'sticklerlaw22.ReprPuts'. -/
def reprPutsCard : Claim7 := { stood := { row := reprPutsRow, standIns := [], harness := (true, "334cce0752fb21650deeafe8bb4f14aa3718698ace54a9cbf22647eb6a4bf5c3"), looks := false }, kinds := [], alts := [], laidByText := true, laidKinds := [.data], laidTests := true, laidLooks := .later }
def ReprPutsCardSaid : Prop := Claim7.holds Tryd.pinned (.plain (OpenSpec.ofChange reprPutsSpec)) reprPutsCard

/-- THE TIED CARD OF 'sticklerlaw22.ReprGets'. -/
def reprGetsCard : Claim7 := { stood := { row := reprGetsRow, standIns := [], harness := (true, "334cce0752fb21650deeafe8bb4f14aa3718698ace54a9cbf22647eb6a4bf5c3"), looks := false }, kinds := [], alts := [], laidByText := true, laidKinds := [.data], laidTests := true, laidLooks := .later }
def ReprGetsCardSaid : Prop := Claim7.holds Tryd.pinned (.plain (OpenSpec.ofChange reprGetsSpec)) reprGetsCard

/-- THE TIED CARD OF 'sticklerlaw22.ReprBack'. -/
def reprBackCard : Claim7 := { stood := { row := reprBackRow, standIns := [], harness := (true, "334cce0752fb21650deeafe8bb4f14aa3718698ace54a9cbf22647eb6a4bf5c3"), looks := false }, kinds := [], alts := [], laidByText := true, laidKinds := [.data], laidTests := true, laidLooks := .later }
def ReprBackCardSaid : Prop := Claim7.holds Tryd.pinned (.plain (OpenSpec.ofChange reprBackSpec)) reprBackCard

/-- THE TIED CARD OF 'sticklerlaw28.MessageChecks'. -/
def messageChecksCard : Claim7 := { stood := { row := messageChecksRow, standIns := [], harness := (true, "334cce0752fb21650deeafe8bb4f14aa3718698ace54a9cbf22647eb6a4bf5c3"), looks := false }, kinds := [], alts := [], laidByText := true, laidKinds := [.data], laidTests := true, laidLooks := .later }
def MessageChecksCardSaid : Prop := Claim7.holds Tryd.pinned (.plain (OpenSpec.ofChange messageChecksSpec)) messageChecksCard

/-- THE TIED CARD OF 'sticklerlaw28.MessageMore'. -/
def messageMoreCard : Claim7 := { stood := { row := messageMoreRow, standIns := [], harness := (true, "334cce0752fb21650deeafe8bb4f14aa3718698ace54a9cbf22647eb6a4bf5c3"), looks := false }, kinds := [], alts := [], laidByText := true, laidKinds := [.data], laidTests := true, laidLooks := .later }
def MessageMoreCardSaid : Prop := Claim7.holds Tryd.pinned (.plain (OpenSpec.ofChange messageMoreSpec)) messageMoreCard

/-- THE TIED CARD OF 'sticklerlaw28.MessagePromise'. -/
def messagePromiseCard : Claim7 := { stood := { row := messagePromiseRow, standIns := [], harness := (true, "334cce0752fb21650deeafe8bb4f14aa3718698ace54a9cbf22647eb6a4bf5c3"), looks := false }, kinds := [], alts := [], laidByText := true, laidKinds := [.data], laidTests := true, laidLooks := .later }
def MessagePromiseCardSaid : Prop := Claim7.holds Tryd.pinned (.plain (OpenSpec.ofChange messagePromiseSpec)) messagePromiseCard

/-- THE TIED CARD OF 'sticklerlaw29.TallyPlays'. -/
def tallyPlaysCard : Claim7 := { stood := { row := tallyPlaysRow, standIns := [], harness := (true, "334cce0752fb21650deeafe8bb4f14aa3718698ace54a9cbf22647eb6a4bf5c3"), looks := false }, kinds := [], alts := [], laidByText := true, laidKinds := [.data], laidTests := true, laidLooks := .later }
def TallyPlaysCardSaid : Prop := Claim7.holds Tryd.pinned (.plain (OpenSpec.ofChange tallyPlaysSpec)) tallyPlaysCard

/-- THE TIED CARD OF 'sticklerlaw29.TallySums'. -/
def tallySumsCard : Claim7 := { stood := { row := tallySumsRow, standIns := [], harness := (true, "334cce0752fb21650deeafe8bb4f14aa3718698ace54a9cbf22647eb6a4bf5c3"), looks := false }, kinds := [], alts := [], laidByText := true, laidKinds := [.data], laidTests := true, laidLooks := .later }
def TallySumsCardSaid : Prop := Claim7.holds Tryd.pinned (.plain (OpenSpec.ofChange tallySumsSpec)) tallySumsCard

/-- THE TIED CARD OF 'sticklerlaw29.TallyNone'. -/
def tallyNoneCard : Claim7 := { stood := { row := tallyNoneRow, standIns := [], harness := (true, "334cce0752fb21650deeafe8bb4f14aa3718698ace54a9cbf22647eb6a4bf5c3"), looks := false }, kinds := [], alts := [], laidByText := true, laidKinds := [.data], laidTests := true, laidLooks := .later }
def TallyNoneCardSaid : Prop := Claim7.holds Tryd.pinned (.plain (OpenSpec.ofChange tallyNoneSpec)) tallyNoneCard

/-- THE SECOND FORM's CARD OF 'sticklerlaw08.KindsFlags'. -/
def kindsFlagsUptoCard : Claim7 := { stood := { row := kindsFlagsUptoRow, standIns := [], harness := (true, "334cce0752fb21650deeafe8bb4f14aa3718698ace54a9cbf22647eb6a4bf5c3"), looks := false }, kinds := [], alts := [], laidByText := true, laidKinds := [.data, .data, .data, .data], laidTests := true, laidLooks := .later }
def KindsFlagsUptoCardSaid : Prop := Claim7.holds Tryd.pinned (.plain (OpenSpec.upto kindsFlagsSpec)) kindsFlagsUptoCard

/-- THE SECOND FORM's CARD OF 'sticklerlaw22.ReprPuts'. -/
def reprPutsUptoCard : Claim7 := { stood := { row := reprPutsUptoRow, standIns := [], harness := (true, "334cce0752fb21650deeafe8bb4f14aa3718698ace54a9cbf22647eb6a4bf5c3"), looks := false }, kinds := [], alts := [], laidByText := true, laidKinds := [.data], laidTests := true, laidLooks := .later }
def ReprPutsUptoCardSaid : Prop := Claim7.holds Tryd.pinned (.plain (OpenSpec.upto reprPutsSpec)) reprPutsUptoCard

/-- THE SECOND FORM's CARD OF 'sticklerlaw22.ReprGets'. -/
def reprGetsUptoCard : Claim7 := { stood := { row := reprGetsUptoRow, standIns := [], harness := (true, "334cce0752fb21650deeafe8bb4f14aa3718698ace54a9cbf22647eb6a4bf5c3"), looks := false }, kinds := [], alts := [], laidByText := true, laidKinds := [.data], laidTests := true, laidLooks := .later }
def ReprGetsUptoCardSaid : Prop := Claim7.holds Tryd.pinned (.plain (OpenSpec.upto reprGetsSpec)) reprGetsUptoCard

/-- THE SECOND FORM's CARD OF 'sticklerlaw22.ReprBack'. -/
def reprBackUptoCard : Claim7 := { stood := { row := reprBackUptoRow, standIns := [], harness := (true, "334cce0752fb21650deeafe8bb4f14aa3718698ace54a9cbf22647eb6a4bf5c3"), looks := false }, kinds := [], alts := [], laidByText := true, laidKinds := [.data], laidTests := true, laidLooks := .later }
def ReprBackUptoCardSaid : Prop := Claim7.holds Tryd.pinned (.plain (OpenSpec.upto reprBackSpec)) reprBackUptoCard

/-- THE SECOND FORM's CARD OF 'sticklerlaw28.MessageChecks'. -/
def messageChecksUptoCard : Claim7 := { stood := { row := messageChecksUptoRow, standIns := [], harness := (true, "334cce0752fb21650deeafe8bb4f14aa3718698ace54a9cbf22647eb6a4bf5c3"), looks := false }, kinds := [], alts := [], laidByText := true, laidKinds := [.data], laidTests := true, laidLooks := .later }
def MessageChecksUptoCardSaid : Prop := Claim7.holds Tryd.pinned (.plain (OpenSpec.upto messageChecksSpec)) messageChecksUptoCard

/-- THE SECOND FORM's CARD OF 'sticklerlaw28.MessageMore'. -/
def messageMoreUptoCard : Claim7 := { stood := { row := messageMoreUptoRow, standIns := [], harness := (true, "334cce0752fb21650deeafe8bb4f14aa3718698ace54a9cbf22647eb6a4bf5c3"), looks := false }, kinds := [], alts := [], laidByText := true, laidKinds := [.data], laidTests := true, laidLooks := .later }
def MessageMoreUptoCardSaid : Prop := Claim7.holds Tryd.pinned (.plain (OpenSpec.upto messageMoreSpec)) messageMoreUptoCard

/-- THE SECOND FORM's CARD OF 'sticklerlaw28.MessagePromise'. -/
def messagePromiseUptoCard : Claim7 := { stood := { row := messagePromiseUptoRow, standIns := [], harness := (true, "334cce0752fb21650deeafe8bb4f14aa3718698ace54a9cbf22647eb6a4bf5c3"), looks := false }, kinds := [], alts := [], laidByText := true, laidKinds := [.data], laidTests := true, laidLooks := .later }
def MessagePromiseUptoCardSaid : Prop := Claim7.holds Tryd.pinned (.plain (OpenSpec.upto messagePromiseSpec)) messagePromiseUptoCard

/-- THE SECOND FORM's CARD OF 'sticklerlaw29.TallyPlays'. -/
def tallyPlaysUptoCard : Claim7 := { stood := { row := tallyPlaysUptoRow, standIns := [], harness := (true, "334cce0752fb21650deeafe8bb4f14aa3718698ace54a9cbf22647eb6a4bf5c3"), looks := false }, kinds := [], alts := [], laidByText := true, laidKinds := [.data], laidTests := true, laidLooks := .later }
def TallyPlaysUptoCardSaid : Prop := Claim7.holds Tryd.pinned (.plain (OpenSpec.upto tallyPlaysSpec)) tallyPlaysUptoCard

/-- THE SECOND FORM's CARD OF 'sticklerlaw29.TallySums'. -/
def tallySumsUptoCard : Claim7 := { stood := { row := tallySumsUptoRow, standIns := [], harness := (true, "334cce0752fb21650deeafe8bb4f14aa3718698ace54a9cbf22647eb6a4bf5c3"), looks := false }, kinds := [], alts := [], laidByText := true, laidKinds := [.data], laidTests := true, laidLooks := .later }
def TallySumsUptoCardSaid : Prop := Claim7.holds Tryd.pinned (.plain (OpenSpec.upto tallySumsSpec)) tallySumsUptoCard

/-- THE SECOND FORM's CARD OF 'sticklerlaw29.TallyNone'. -/
def tallyNoneUptoCard : Claim7 := { stood := { row := tallyNoneUptoRow, standIns := [], harness := (true, "334cce0752fb21650deeafe8bb4f14aa3718698ace54a9cbf22647eb6a4bf5c3"), looks := false }, kinds := [], alts := [], laidByText := true, laidKinds := [.data], laidTests := true, laidLooks := .later }
def TallyNoneUptoCardSaid : Prop := Claim7.holds Tryd.pinned (.plain (OpenSpec.upto tallyNoneSpec)) tallyNoneUptoCard
end Rows
end Go.Proofs.YtpfhiimlloeciaaDoor
