/-
  No cell of these rows narrows 'for every input' (looked for: loops, veiled, ifaces, maps, wideKeys, modest, calm, conditions, laid).
  DERIVED. THE GIVEN ROWS OF THIS SEAT. 12 by the template 'for every input the law returns true; each argument reads behind the call as it read before'; 0 by the template 'total and deterministic' (their statements: YtfgifdgbhikegaaTotals.lean).
  GIVEN WITH THE SEED: the statements are not yours to turn. If you find one false, say at which input.
  Laid BY PROGRAM, IN A SANDBOX (cutbox-rows.mjs): the forced cells as the released guide's own fill.sh prints them over the translation 66847cdcdc0d1b52… (all of the seat's roots in one cut). By AI agents, Wed Nov 11 2026. No macro, syntax, notation, axiom, sorry.
-/
import Derived.Test.YtfgifdgbhikegaaChecked
import GoSem.Claim
import GoSem.ClaimJoined
import GoSem.ClaimMapViews
import Derived.JoinedTies
import Derived.KernelRfl
namespace Go.Proofs.Ytfgifdgbhikegaa
/- THE CELL 'sum', in the pinned program and in every row, IS THE sha256 OF THE DUMP (.gsa) THAT YtfgifdgbhikegaaProg.lean LOADS. Nothing in Lean hashes anything: it is a label: what it is worth is what the hold of that sum in a sandbox is worth. -/
noncomputable def Try.pinned : Pinned := { name := "ytfgifdgbhikegaa", sum := "66847cdcdc0d1b52a7f26d138e8938509895a2206e1c1dd83510f23604ea2ed1", checked := Try.checked }
namespace Rows
def none {H : Type} : Left H := { results := [], args := [] }

/-- 'sticklerlaw06.PairMoves': WHATEVER THE INPUT: true; the input reads as it did. -/
def pairMovesSpec : ChangeSpec := { name := "pairMoves", fn := fun _ => fun
  | [d] => { results := [.lit (.bool true)], args := [d] }
  | _ => none }
def pairMovesRow : OpenClaim := { program := "ytfgifdgbhikegaa", sum := "66847cdcdc0d1b52a7f26d138e8938509895a2206e1c1dd83510f23604ea2ed1", func := "stickler/sticklerlaw06.PairMoves", spec := "pairMoves", inPlace := ["math.Float64bits", "math.Float64frombits", "math.archTrunc"], apart := false }
def PairMovesSaid : Prop := pairMovesRow.holds Try.pinned (OpenSpec.ofChange pairMovesSpec)

/-- ITS FALSE NEIGHBOUR: 'it returns false'. Refute it at one input. -/
def pairMovesWrong : ChangeSpec := { name := "pairMoves", fn := fun _ => fun
  | [d] => { results := [.lit (.bool false)], args := [d] }
  | _ => none }
def PairMovesWrongFalsely : Prop := pairMovesRow.holds Try.pinned (OpenSpec.ofChange pairMovesWrong)

/-- 'sticklerlaw06.PairTotal': WHATEVER THE INPUT: true; the input reads as it did. -/
def pairTotalSpec : ChangeSpec := { name := "pairTotal", fn := fun _ => fun
  | [d1, d2] => { results := [.lit (.bool true)], args := [d1, d2] }
  | _ => none }
def pairTotalRow : OpenClaim := { program := "ytfgifdgbhikegaa", sum := "66847cdcdc0d1b52a7f26d138e8938509895a2206e1c1dd83510f23604ea2ed1", func := "stickler/sticklerlaw06.PairTotal", spec := "pairTotal", inPlace := ["math.Float64bits", "math.Float64frombits", "math.archTrunc"], apart := false }
def PairTotalSaid : Prop := pairTotalRow.holds Try.pinned (OpenSpec.ofChange pairTotalSpec)

/-- ITS FALSE NEIGHBOUR: 'it returns false'. Refute it at one input. -/
def pairTotalWrong : ChangeSpec := { name := "pairTotal", fn := fun _ => fun
  | [d1, d2] => { results := [.lit (.bool false)], args := [d1, d2] }
  | _ => none }
def PairTotalWrongFalsely : Prop := pairTotalRow.holds Try.pinned (OpenSpec.ofChange pairTotalWrong)

/-- 'sticklerlaw07.HeadPuts': WHATEVER THE INPUT: true; the input reads as it did. -/
def headPutsSpec : ChangeSpec := { name := "headPuts", fn := fun _ => fun
  | [d] => { results := [.lit (.bool true)], args := [d] }
  | _ => none }
def headPutsRow : OpenClaim := { program := "ytfgifdgbhikegaa", sum := "66847cdcdc0d1b52a7f26d138e8938509895a2206e1c1dd83510f23604ea2ed1", func := "stickler/sticklerlaw07.HeadPuts", spec := "headPuts", apart := false }
def HeadPutsSaid : Prop := headPutsRow.holds Try.pinned (OpenSpec.ofChange headPutsSpec)

/-- ITS FALSE NEIGHBOUR: 'it returns false'. Refute it at one input. -/
def headPutsWrong : ChangeSpec := { name := "headPuts", fn := fun _ => fun
  | [d] => { results := [.lit (.bool false)], args := [d] }
  | _ => none }
def HeadPutsWrongFalsely : Prop := headPutsRow.holds Try.pinned (OpenSpec.ofChange headPutsWrong)

/-- 'sticklerlaw07.HeadGets': WHATEVER THE INPUT: true; the input reads as it did. -/
def headGetsSpec : ChangeSpec := { name := "headGets", fn := fun _ => fun
  | [d] => { results := [.lit (.bool true)], args := [d] }
  | _ => none }
def headGetsRow : OpenClaim := { program := "ytfgifdgbhikegaa", sum := "66847cdcdc0d1b52a7f26d138e8938509895a2206e1c1dd83510f23604ea2ed1", func := "stickler/sticklerlaw07.HeadGets", spec := "headGets", apart := false }
def HeadGetsSaid : Prop := headGetsRow.holds Try.pinned (OpenSpec.ofChange headGetsSpec)

/-- ITS FALSE NEIGHBOUR: 'it returns false'. Refute it at one input. -/
def headGetsWrong : ChangeSpec := { name := "headGets", fn := fun _ => fun
  | [d] => { results := [.lit (.bool false)], args := [d] }
  | _ => none }
def HeadGetsWrongFalsely : Prop := headGetsRow.holds Try.pinned (OpenSpec.ofChange headGetsWrong)

/-- 'sticklerlaw07.HeadBytes': WHATEVER THE INPUT: true; the input reads as it did. -/
def headBytesSpec : ChangeSpec := { name := "headBytes", fn := fun _ => fun
  | [d] => { results := [.lit (.bool true)], args := [d] }
  | _ => none }
def headBytesRow : OpenClaim := { program := "ytfgifdgbhikegaa", sum := "66847cdcdc0d1b52a7f26d138e8938509895a2206e1c1dd83510f23604ea2ed1", func := "stickler/sticklerlaw07.HeadBytes", spec := "headBytes", apart := false }
def HeadBytesSaid : Prop := headBytesRow.holds Try.pinned (OpenSpec.ofChange headBytesSpec)

/-- ITS FALSE NEIGHBOUR: 'it returns false'. Refute it at one input. -/
def headBytesWrong : ChangeSpec := { name := "headBytes", fn := fun _ => fun
  | [d] => { results := [.lit (.bool false)], args := [d] }
  | _ => none }
def HeadBytesWrongFalsely : Prop := headBytesRow.holds Try.pinned (OpenSpec.ofChange headBytesWrong)

/-- 'sticklerlaw13.SettingParses': WHATEVER THE INPUT: true; the input reads as it did. -/
def settingParsesSpec : ChangeSpec := { name := "settingParses", fn := fun _ => fun
  | [d] => { results := [.lit (.bool true)], args := [d] }
  | _ => none }
def settingParsesRow : OpenClaim := { program := "ytfgifdgbhikegaa", sum := "66847cdcdc0d1b52a7f26d138e8938509895a2206e1c1dd83510f23604ea2ed1", func := "stickler/sticklerlaw13.SettingParses", spec := "settingParses", apart := false }
def SettingParsesSaid : Prop := settingParsesRow.holds Try.pinned (OpenSpec.ofChange settingParsesSpec)

/-- ITS FALSE NEIGHBOUR: 'it returns false'. Refute it at one input. -/
def settingParsesWrong : ChangeSpec := { name := "settingParses", fn := fun _ => fun
  | [d] => { results := [.lit (.bool false)], args := [d] }
  | _ => none }
def SettingParsesWrongFalsely : Prop := settingParsesRow.holds Try.pinned (OpenSpec.ofChange settingParsesWrong)

/-- 'sticklerlaw13.SettingPuts': WHATEVER THE INPUT: true; the input reads as it did. -/
def settingPutsSpec : ChangeSpec := { name := "settingPuts", fn := fun _ => fun
  | [d] => { results := [.lit (.bool true)], args := [d] }
  | _ => none }
def settingPutsRow : OpenClaim := { program := "ytfgifdgbhikegaa", sum := "66847cdcdc0d1b52a7f26d138e8938509895a2206e1c1dd83510f23604ea2ed1", func := "stickler/sticklerlaw13.SettingPuts", spec := "settingPuts", apart := false }
def SettingPutsSaid : Prop := settingPutsRow.holds Try.pinned (OpenSpec.ofChange settingPutsSpec)

/-- ITS FALSE NEIGHBOUR: 'it returns false'. Refute it at one input. -/
def settingPutsWrong : ChangeSpec := { name := "settingPuts", fn := fun _ => fun
  | [d] => { results := [.lit (.bool false)], args := [d] }
  | _ => none }
def SettingPutsWrongFalsely : Prop := settingPutsRow.holds Try.pinned (OpenSpec.ofChange settingPutsWrong)

/-- 'sticklerlaw13.SettingChecks': WHATEVER THE INPUT: true; the input reads as it did. -/
def settingChecksSpec : ChangeSpec := { name := "settingChecks", fn := fun _ => fun
  | [d1, d2] => { results := [.lit (.bool true)], args := [d1, d2] }
  | _ => none }
def settingChecksRow : OpenClaim := { program := "ytfgifdgbhikegaa", sum := "66847cdcdc0d1b52a7f26d138e8938509895a2206e1c1dd83510f23604ea2ed1", func := "stickler/sticklerlaw13.SettingChecks", spec := "settingChecks", apart := false }
def SettingChecksSaid : Prop := settingChecksRow.holds Try.pinned (OpenSpec.ofChange settingChecksSpec)

/-- ITS FALSE NEIGHBOUR: 'it returns false'. Refute it at one input. -/
def settingChecksWrong : ChangeSpec := { name := "settingChecks", fn := fun _ => fun
  | [d1, d2] => { results := [.lit (.bool false)], args := [d1, d2] }
  | _ => none }
def SettingChecksWrongFalsely : Prop := settingChecksRow.holds Try.pinned (OpenSpec.ofChange settingChecksWrong)

/-- 'sticklerlaw13.SettingApplies': WHATEVER THE INPUT: true; the input reads as it did. -/
def settingAppliesSpec : ChangeSpec := { name := "settingApplies", fn := fun _ => fun
  | [d1, d2, d3] => { results := [.lit (.bool true)], args := [d1, d2, d3] }
  | _ => none }
def settingAppliesRow : OpenClaim := { program := "ytfgifdgbhikegaa", sum := "66847cdcdc0d1b52a7f26d138e8938509895a2206e1c1dd83510f23604ea2ed1", func := "stickler/sticklerlaw13.SettingApplies", spec := "settingApplies", apart := false }
def SettingAppliesSaid : Prop := settingAppliesRow.holds Try.pinned (OpenSpec.ofChange settingAppliesSpec)

/-- ITS FALSE NEIGHBOUR: 'it returns false'. Refute it at one input. -/
def settingAppliesWrong : ChangeSpec := { name := "settingApplies", fn := fun _ => fun
  | [d1, d2, d3] => { results := [.lit (.bool false)], args := [d1, d2, d3] }
  | _ => none }
def SettingAppliesWrongFalsely : Prop := settingAppliesRow.holds Try.pinned (OpenSpec.ofChange settingAppliesWrong)

/-- 'sticklerlaw11.PrefaceLike': WHATEVER THE INPUT: true; the input reads as it did. -/
def prefaceLikeSpec : ChangeSpec := { name := "prefaceLike", fn := fun _ => fun
  | [d] => { results := [.lit (.bool true)], args := [d] }
  | _ => none }
def prefaceLikeRow : OpenClaim := { program := "ytfgifdgbhikegaa", sum := "66847cdcdc0d1b52a7f26d138e8938509895a2206e1c1dd83510f23604ea2ed1", func := "stickler/sticklerlaw11.PrefaceLike", spec := "prefaceLike", apart := false }
def PrefaceLikeSaid : Prop := prefaceLikeRow.holds Try.pinned (OpenSpec.ofChange prefaceLikeSpec)

/-- ITS FALSE NEIGHBOUR: 'it returns false'. Refute it at one input. -/
def prefaceLikeWrong : ChangeSpec := { name := "prefaceLike", fn := fun _ => fun
  | [d] => { results := [.lit (.bool false)], args := [d] }
  | _ => none }
def PrefaceLikeWrongFalsely : Prop := prefaceLikeRow.holds Try.pinned (OpenSpec.ofChange prefaceLikeWrong)

/-- 'sticklerlaw11.PrefaceOne': WHATEVER THE INPUT: true; the input reads as it did. -/
def prefaceOneSpec : ChangeSpec := { name := "prefaceOne", fn := fun _ => fun
  | [d1, d2] => { results := [.lit (.bool true)], args := [d1, d2] }
  | _ => none }
def prefaceOneRow : OpenClaim := { program := "ytfgifdgbhikegaa", sum := "66847cdcdc0d1b52a7f26d138e8938509895a2206e1c1dd83510f23604ea2ed1", func := "stickler/sticklerlaw11.PrefaceOne", spec := "prefaceOne", apart := false }
def PrefaceOneSaid : Prop := prefaceOneRow.holds Try.pinned (OpenSpec.ofChange prefaceOneSpec)

/-- ITS FALSE NEIGHBOUR: 'it returns false'. Refute it at one input. -/
def prefaceOneWrong : ChangeSpec := { name := "prefaceOne", fn := fun _ => fun
  | [d1, d2] => { results := [.lit (.bool false)], args := [d1, d2] }
  | _ => none }
def PrefaceOneWrongFalsely : Prop := prefaceOneRow.holds Try.pinned (OpenSpec.ofChange prefaceOneWrong)

/-- 'sticklerlaw10.ChunksJoins': WHATEVER THE INPUT: true; the input reads as it did. -/
def chunksJoinsSpec : ChangeSpec := { name := "chunksJoins", fn := fun _ => fun
  | [d] => { results := [.lit (.bool true)], args := [d] }
  | _ => none }
def chunksJoinsRow : OpenClaim := { program := "ytfgifdgbhikegaa", sum := "66847cdcdc0d1b52a7f26d138e8938509895a2206e1c1dd83510f23604ea2ed1", func := "stickler/sticklerlaw10.ChunksJoins", spec := "chunksJoins", unfollowed := true, recurses := true, apart := false }
def ChunksJoinsSaid : Prop := chunksJoinsRow.holds Try.pinned (OpenSpec.ofChange chunksJoinsSpec)

/-- ITS FALSE NEIGHBOUR: 'it returns false'. Refute it at one input. -/
def chunksJoinsWrong : ChangeSpec := { name := "chunksJoins", fn := fun _ => fun
  | [d] => { results := [.lit (.bool false)], args := [d] }
  | _ => none }
def ChunksJoinsWrongFalsely : Prop := chunksJoinsRow.holds Try.pinned (OpenSpec.ofChange chunksJoinsWrong)

/- THE SECOND FORM. 'bulk': how many values and letters a reading holds, each counted each time it is reached (what is shared counts as often as it is met; a slice's spare places count too). A statement '..UptoSaid' is the law's where the arguments, and the package variables that the reading takes, are together of bulk at most 1048576: NARROWER than '..Said'. Prove '..Said' where nothing that the law and all that it calls make is longer than what came in: it says more and counts as full. Else prove '..UptoSaid'. A law counts once. -/
mutual
def uptoBulk {H : Type} : DataW H → Nat
  | .lit (.string bytes) => bytes.length + 1
  | .lit _ => 1
  | .nil => 1
  | .ptr d => uptoBulk d + 1
  | .slice elems spare => uptoBulkAll elems + uptoBulkAll spare + 1
  | .agg parts => uptoBulkAll parts + 1
  | .iface _ d => uptoBulk d + 1
  | .map entries => uptoBulkEntries entries + 1
  | .held _ => 1
def uptoBulkAll {H : Type} : List (DataW H) → Nat
  | [] => 0
  | d :: r => uptoBulk d + uptoBulkAll r
def uptoBulkEntries {H : Type} : List (Lit × DataW H) → Nat
  | [] => 0
  | x :: r => uptoBulkEntry x + uptoBulkEntries r
def uptoBulkEntry {H : Type} : Lit × DataW H → Nat
  | (.string bytes, d) => bytes.length + uptoBulk d + 1
  | (_, d) => uptoBulk d + 1
 end
def uptoSmall : (H : Type) → List (DataW H) → Bool := fun _ ds => decide (uptoBulkAll ds ≤ 1048576)
def OpenSpec.upto (s : _root_.Go.ChangeSpec) : _root_.Go.OpenSpec := { _root_.Go.OpenSpec.ofChange s with cond := some uptoSmall }

/-- 'sticklerlaw06.PairMoves', WHERE WHAT IT READS IS OF BULK AT MOST 1048576: true; the input reads as it did. -/
def pairMovesUptoRow : OpenClaim := { program := "ytfgifdgbhikegaa", sum := "66847cdcdc0d1b52a7f26d138e8938509895a2206e1c1dd83510f23604ea2ed1", func := "stickler/sticklerlaw06.PairMoves", spec := "pairMoves", inPlace := ["math.Float64bits", "math.Float64frombits", "math.archTrunc"], apart := false, narrowed := true }
def PairMovesUptoSaid : Prop := pairMovesUptoRow.holds Try.pinned (OpenSpec.upto pairMovesSpec)

/-- 'sticklerlaw06.PairTotal', WHERE WHAT IT READS IS OF BULK AT MOST 1048576: true; the input reads as it did. -/
def pairTotalUptoRow : OpenClaim := { program := "ytfgifdgbhikegaa", sum := "66847cdcdc0d1b52a7f26d138e8938509895a2206e1c1dd83510f23604ea2ed1", func := "stickler/sticklerlaw06.PairTotal", spec := "pairTotal", inPlace := ["math.Float64bits", "math.Float64frombits", "math.archTrunc"], apart := false, narrowed := true }
def PairTotalUptoSaid : Prop := pairTotalUptoRow.holds Try.pinned (OpenSpec.upto pairTotalSpec)

/-- 'sticklerlaw07.HeadPuts', WHERE WHAT IT READS IS OF BULK AT MOST 1048576: true; the input reads as it did. -/
def headPutsUptoRow : OpenClaim := { program := "ytfgifdgbhikegaa", sum := "66847cdcdc0d1b52a7f26d138e8938509895a2206e1c1dd83510f23604ea2ed1", func := "stickler/sticklerlaw07.HeadPuts", spec := "headPuts", apart := false, narrowed := true }
def HeadPutsUptoSaid : Prop := headPutsUptoRow.holds Try.pinned (OpenSpec.upto headPutsSpec)

/-- 'sticklerlaw07.HeadGets', WHERE WHAT IT READS IS OF BULK AT MOST 1048576: true; the input reads as it did. -/
def headGetsUptoRow : OpenClaim := { program := "ytfgifdgbhikegaa", sum := "66847cdcdc0d1b52a7f26d138e8938509895a2206e1c1dd83510f23604ea2ed1", func := "stickler/sticklerlaw07.HeadGets", spec := "headGets", apart := false, narrowed := true }
def HeadGetsUptoSaid : Prop := headGetsUptoRow.holds Try.pinned (OpenSpec.upto headGetsSpec)

/-- 'sticklerlaw07.HeadBytes', WHERE WHAT IT READS IS OF BULK AT MOST 1048576: true; the input reads as it did. -/
def headBytesUptoRow : OpenClaim := { program := "ytfgifdgbhikegaa", sum := "66847cdcdc0d1b52a7f26d138e8938509895a2206e1c1dd83510f23604ea2ed1", func := "stickler/sticklerlaw07.HeadBytes", spec := "headBytes", apart := false, narrowed := true }
def HeadBytesUptoSaid : Prop := headBytesUptoRow.holds Try.pinned (OpenSpec.upto headBytesSpec)

/-- 'sticklerlaw13.SettingParses', WHERE WHAT IT READS IS OF BULK AT MOST 1048576: true; the input reads as it did. -/
def settingParsesUptoRow : OpenClaim := { program := "ytfgifdgbhikegaa", sum := "66847cdcdc0d1b52a7f26d138e8938509895a2206e1c1dd83510f23604ea2ed1", func := "stickler/sticklerlaw13.SettingParses", spec := "settingParses", apart := false, narrowed := true }
def SettingParsesUptoSaid : Prop := settingParsesUptoRow.holds Try.pinned (OpenSpec.upto settingParsesSpec)

/-- 'sticklerlaw13.SettingPuts', WHERE WHAT IT READS IS OF BULK AT MOST 1048576: true; the input reads as it did. -/
def settingPutsUptoRow : OpenClaim := { program := "ytfgifdgbhikegaa", sum := "66847cdcdc0d1b52a7f26d138e8938509895a2206e1c1dd83510f23604ea2ed1", func := "stickler/sticklerlaw13.SettingPuts", spec := "settingPuts", apart := false, narrowed := true }
def SettingPutsUptoSaid : Prop := settingPutsUptoRow.holds Try.pinned (OpenSpec.upto settingPutsSpec)

/-- 'sticklerlaw13.SettingChecks', WHERE WHAT IT READS IS OF BULK AT MOST 1048576: true; the input reads as it did. -/
def settingChecksUptoRow : OpenClaim := { program := "ytfgifdgbhikegaa", sum := "66847cdcdc0d1b52a7f26d138e8938509895a2206e1c1dd83510f23604ea2ed1", func := "stickler/sticklerlaw13.SettingChecks", spec := "settingChecks", apart := false, narrowed := true }
def SettingChecksUptoSaid : Prop := settingChecksUptoRow.holds Try.pinned (OpenSpec.upto settingChecksSpec)

/-- 'sticklerlaw13.SettingApplies', WHERE WHAT IT READS IS OF BULK AT MOST 1048576: true; the input reads as it did. -/
def settingAppliesUptoRow : OpenClaim := { program := "ytfgifdgbhikegaa", sum := "66847cdcdc0d1b52a7f26d138e8938509895a2206e1c1dd83510f23604ea2ed1", func := "stickler/sticklerlaw13.SettingApplies", spec := "settingApplies", apart := false, narrowed := true }
def SettingAppliesUptoSaid : Prop := settingAppliesUptoRow.holds Try.pinned (OpenSpec.upto settingAppliesSpec)

/-- 'sticklerlaw11.PrefaceLike', WHERE WHAT IT READS IS OF BULK AT MOST 1048576: true; the input reads as it did. -/
def prefaceLikeUptoRow : OpenClaim := { program := "ytfgifdgbhikegaa", sum := "66847cdcdc0d1b52a7f26d138e8938509895a2206e1c1dd83510f23604ea2ed1", func := "stickler/sticklerlaw11.PrefaceLike", spec := "prefaceLike", apart := false, narrowed := true }
def PrefaceLikeUptoSaid : Prop := prefaceLikeUptoRow.holds Try.pinned (OpenSpec.upto prefaceLikeSpec)

/-- 'sticklerlaw11.PrefaceOne', WHERE WHAT IT READS IS OF BULK AT MOST 1048576: true; the input reads as it did. -/
def prefaceOneUptoRow : OpenClaim := { program := "ytfgifdgbhikegaa", sum := "66847cdcdc0d1b52a7f26d138e8938509895a2206e1c1dd83510f23604ea2ed1", func := "stickler/sticklerlaw11.PrefaceOne", spec := "prefaceOne", apart := false, narrowed := true }
def PrefaceOneUptoSaid : Prop := prefaceOneUptoRow.holds Try.pinned (OpenSpec.upto prefaceOneSpec)

/-- 'sticklerlaw10.ChunksJoins', WHERE WHAT IT READS IS OF BULK AT MOST 1048576: true; the input reads as it did. -/
def chunksJoinsUptoRow : OpenClaim := { program := "ytfgifdgbhikegaa", sum := "66847cdcdc0d1b52a7f26d138e8938509895a2206e1c1dd83510f23604ea2ed1", func := "stickler/sticklerlaw10.ChunksJoins", spec := "chunksJoins", unfollowed := true, recurses := true, apart := false, narrowed := true }
def ChunksJoinsUptoSaid : Prop := chunksJoinsUptoRow.holds Try.pinned (OpenSpec.upto chunksJoinsSpec)

end Rows
end Go.Proofs.Ytfgifdgbhikegaa
