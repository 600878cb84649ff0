/-
  No cell of these rows narrows 'for every input' (looked for: loops, veiled, ifaces, maps, wideKeys, modest, calm, conditions, laid).
  DERIVED. THE GIVEN ROWS OF THIS SEAT. 6 by the template 'for every input the law returns true; each argument reads behind the call as it read before'; 0 by the template 'total and deterministic' (their statements: YtgjnmjakpiceiabTotals.lean).
  GIVEN WITH THE SEED: the statements are not yours to turn. If you find one false, say at which input.
  Laid BY PROGRAM, IN A SANDBOX (cutbox-rows.mjs): the forced cells as the released guide's own fill.sh prints them over the translation 1431145111091671… (all of the seat's roots in one cut). By AI agents, Wed Nov 11 2026. No macro, syntax, notation, axiom, sorry.
-/
import Derived.Test.YtgjnmjakpiceiabChecked
import GoSem.Claim
import GoSem.ClaimJoined
import GoSem.ClaimMapViews
import Derived.JoinedTies
import Derived.KernelRfl
namespace Go.Proofs.Ytgjnmjakpiceiab
/- THE CELL 'sum', in the pinned program and in every row, IS THE sha256 OF THE DUMP (.gsa) THAT YtgjnmjakpiceiabProg.lean LOADS. Nothing in Lean hashes anything: it is a label: what it is worth is what the hold of that sum in a sandbox is worth. -/
noncomputable def Try.pinned : Pinned := { name := "ytgjnmjakpiceiab", sum := "1431145111091671e514d22abf3bad634101f29cf94dbb120c2a09c089ae6f83", checked := Try.checked }
namespace Rows
def none {H : Type} : Left H := { results := [], args := [] }

/-- 'sticklerlaw05.BitrowReads': WHATEVER THE INPUT: true; the input reads as it did. -/
def bitrowReadsSpec : ChangeSpec := { name := "bitrowReads", fn := fun _ => fun
  | [d1, d2] => { results := [.lit (.bool true)], args := [d1, d2] }
  | _ => none }
def bitrowReadsRow : OpenClaim := { program := "ytgjnmjakpiceiab", sum := "1431145111091671e514d22abf3bad634101f29cf94dbb120c2a09c089ae6f83", func := "stickler/sticklerlaw05.BitrowReads", spec := "bitrowReads", apart := false }
def BitrowReadsSaid : Prop := bitrowReadsRow.holds Try.pinned (OpenSpec.ofChange bitrowReadsSpec)

/-- ITS FALSE NEIGHBOUR: 'it returns false'. Refute it at one input. -/
def bitrowReadsWrong : ChangeSpec := { name := "bitrowReads", fn := fun _ => fun
  | [d1, d2] => { results := [.lit (.bool false)], args := [d1, d2] }
  | _ => none }
def BitrowReadsWrongFalsely : Prop := bitrowReadsRow.holds Try.pinned (OpenSpec.ofChange bitrowReadsWrong)

/-- 'sticklerlaw05.BitrowWrites': WHATEVER THE INPUT: true; the input reads as it did. -/
def bitrowWritesSpec : ChangeSpec := { name := "bitrowWrites", fn := fun _ => fun
  | [d] => { results := [.lit (.bool true)], args := [d] }
  | _ => none }
def bitrowWritesRow : OpenClaim := { program := "ytgjnmjakpiceiab", sum := "1431145111091671e514d22abf3bad634101f29cf94dbb120c2a09c089ae6f83", func := "stickler/sticklerlaw05.BitrowWrites", spec := "bitrowWrites", apart := false }
def BitrowWritesSaid : Prop := bitrowWritesRow.holds Try.pinned (OpenSpec.ofChange bitrowWritesSpec)

/-- ITS FALSE NEIGHBOUR: 'it returns false'. Refute it at one input. -/
def bitrowWritesWrong : ChangeSpec := { name := "bitrowWrites", fn := fun _ => fun
  | [d] => { results := [.lit (.bool false)], args := [d] }
  | _ => none }
def BitrowWritesWrongFalsely : Prop := bitrowWritesRow.holds Try.pinned (OpenSpec.ofChange bitrowWritesWrong)

/-- 'sticklerlaw05.BitrowBack': WHATEVER THE INPUT: true; the input reads as it did. -/
def bitrowBackSpec : ChangeSpec := { name := "bitrowBack", fn := fun _ => fun
  | [d] => { results := [.lit (.bool true)], args := [d] }
  | _ => none }
def bitrowBackRow : OpenClaim := { program := "ytgjnmjakpiceiab", sum := "1431145111091671e514d22abf3bad634101f29cf94dbb120c2a09c089ae6f83", func := "stickler/sticklerlaw05.BitrowBack", spec := "bitrowBack", apart := false }
def BitrowBackSaid : Prop := bitrowBackRow.holds Try.pinned (OpenSpec.ofChange bitrowBackSpec)

/-- ITS FALSE NEIGHBOUR: 'it returns false'. Refute it at one input. -/
def bitrowBackWrong : ChangeSpec := { name := "bitrowBack", fn := fun _ => fun
  | [d] => { results := [.lit (.bool false)], args := [d] }
  | _ => none }
def BitrowBackWrongFalsely : Prop := bitrowBackRow.holds Try.pinned (OpenSpec.ofChange bitrowBackWrong)

/-- 'sticklerlaw06.PairParts': WHATEVER THE INPUT: true; the input reads as it did. -/
def pairPartsSpec : ChangeSpec := { name := "pairParts", fn := fun _ => fun
  | [d1, d2, d3] => { results := [.lit (.bool true)], args := [d1, d2, d3] }
  | _ => none }
def pairPartsRow : OpenClaim := { program := "ytgjnmjakpiceiab", sum := "1431145111091671e514d22abf3bad634101f29cf94dbb120c2a09c089ae6f83", func := "stickler/sticklerlaw06.PairParts", spec := "pairParts", inPlace := ["math.Float64bits", "math.Float64frombits", "math.archTrunc"], apart := false }
def PairPartsSaid : Prop := pairPartsRow.holds Try.pinned (OpenSpec.ofChange pairPartsSpec)

/-- ITS FALSE NEIGHBOUR: 'it returns false'. Refute it at one input. -/
def pairPartsWrong : ChangeSpec := { name := "pairParts", fn := fun _ => fun
  | [d1, d2, d3] => { results := [.lit (.bool false)], args := [d1, d2, d3] }
  | _ => none }
def PairPartsWrongFalsely : Prop := pairPartsRow.holds Try.pinned (OpenSpec.ofChange pairPartsWrong)

/-- 'sticklerlaw06.PairMoves': WHATEVER THE INPUT: true; the input reads as it did. -/
def pairMovesSpec : ChangeSpec := { name := "pairMoves", fn := fun _ => fun
  | [d] => { results := [.lit (.bool true)], args := [d] }
  | _ => none }
def pairMovesRow : OpenClaim := { program := "ytgjnmjakpiceiab", sum := "1431145111091671e514d22abf3bad634101f29cf94dbb120c2a09c089ae6f83", func := "stickler/sticklerlaw06.PairMoves", spec := "pairMoves", inPlace := ["math.Float64bits", "math.Float64frombits", "math.archTrunc"], apart := false }
def PairMovesSaid : Prop := pairMovesRow.holds Try.pinned (OpenSpec.ofChange pairMovesSpec)

/-- ITS FALSE NEIGHBOUR: 'it returns false'. Refute it at one input. -/
def pairMovesWrong : ChangeSpec := { name := "pairMoves", fn := fun _ => fun
  | [d] => { results := [.lit (.bool false)], args := [d] }
  | _ => none }
def PairMovesWrongFalsely : Prop := pairMovesRow.holds Try.pinned (OpenSpec.ofChange pairMovesWrong)

/-- 'sticklerlaw06.PairTotal': WHATEVER THE INPUT: true; the input reads as it did. -/
def pairTotalSpec : ChangeSpec := { name := "pairTotal", fn := fun _ => fun
  | [d1, d2] => { results := [.lit (.bool true)], args := [d1, d2] }
  | _ => none }
def pairTotalRow : OpenClaim := { program := "ytgjnmjakpiceiab", sum := "1431145111091671e514d22abf3bad634101f29cf94dbb120c2a09c089ae6f83", func := "stickler/sticklerlaw06.PairTotal", spec := "pairTotal", inPlace := ["math.Float64bits", "math.Float64frombits", "math.archTrunc"], apart := false }
def PairTotalSaid : Prop := pairTotalRow.holds Try.pinned (OpenSpec.ofChange pairTotalSpec)

/-- ITS FALSE NEIGHBOUR: 'it returns false'. Refute it at one input. -/
def pairTotalWrong : ChangeSpec := { name := "pairTotal", fn := fun _ => fun
  | [d1, d2] => { results := [.lit (.bool false)], args := [d1, d2] }
  | _ => none }
def PairTotalWrongFalsely : Prop := pairTotalRow.holds Try.pinned (OpenSpec.ofChange pairTotalWrong)

/- THE SECOND FORM. 'bulk': how many values and letters a reading holds, each counted each time it is reached (what is shared counts as often as it is met; a slice's spare places count too). A statement '..UptoSaid' is the law's where the arguments, and the package variables that the reading takes, are together of bulk at most 1048576: NARROWER than '..Said'. Prove '..Said' where nothing that the law and all that it calls make is longer than what came in: it says more and counts as full. Else prove '..UptoSaid'. A law counts once. -/
mutual
def uptoBulk {H : Type} : DataW H → Nat
  | .lit (.string bytes) => bytes.length + 1
  | .lit _ => 1
  | .nil => 1
  | .ptr d => uptoBulk d + 1
  | .slice elems spare => uptoBulkAll elems + uptoBulkAll spare + 1
  | .agg parts => uptoBulkAll parts + 1
  | .iface _ d => uptoBulk d + 1
  | .map entries => uptoBulkEntries entries + 1
  | .held _ => 1
def uptoBulkAll {H : Type} : List (DataW H) → Nat
  | [] => 0
  | d :: r => uptoBulk d + uptoBulkAll r
def uptoBulkEntries {H : Type} : List (Lit × DataW H) → Nat
  | [] => 0
  | x :: r => uptoBulkEntry x + uptoBulkEntries r
def uptoBulkEntry {H : Type} : Lit × DataW H → Nat
  | (.string bytes, d) => bytes.length + uptoBulk d + 1
  | (_, d) => uptoBulk d + 1
 end
def uptoSmall : (H : Type) → List (DataW H) → Bool := fun _ ds => decide (uptoBulkAll ds ≤ 1048576)
def OpenSpec.upto (s : _root_.Go.ChangeSpec) : _root_.Go.OpenSpec := { _root_.Go.OpenSpec.ofChange s with cond := some uptoSmall }

/-- 'sticklerlaw05.BitrowReads', WHERE WHAT IT READS IS OF BULK AT MOST 1048576: true; the input reads as it did. -/
def bitrowReadsUptoRow : OpenClaim := { program := "ytgjnmjakpiceiab", sum := "1431145111091671e514d22abf3bad634101f29cf94dbb120c2a09c089ae6f83", func := "stickler/sticklerlaw05.BitrowReads", spec := "bitrowReads", apart := false, narrowed := true }
def BitrowReadsUptoSaid : Prop := bitrowReadsUptoRow.holds Try.pinned (OpenSpec.upto bitrowReadsSpec)

/-- 'sticklerlaw05.BitrowWrites', WHERE WHAT IT READS IS OF BULK AT MOST 1048576: true; the input reads as it did. -/
def bitrowWritesUptoRow : OpenClaim := { program := "ytgjnmjakpiceiab", sum := "1431145111091671e514d22abf3bad634101f29cf94dbb120c2a09c089ae6f83", func := "stickler/sticklerlaw05.BitrowWrites", spec := "bitrowWrites", apart := false, narrowed := true }
def BitrowWritesUptoSaid : Prop := bitrowWritesUptoRow.holds Try.pinned (OpenSpec.upto bitrowWritesSpec)

/-- 'sticklerlaw05.BitrowBack', WHERE WHAT IT READS IS OF BULK AT MOST 1048576: true; the input reads as it did. -/
def bitrowBackUptoRow : OpenClaim := { program := "ytgjnmjakpiceiab", sum := "1431145111091671e514d22abf3bad634101f29cf94dbb120c2a09c089ae6f83", func := "stickler/sticklerlaw05.BitrowBack", spec := "bitrowBack", apart := false, narrowed := true }
def BitrowBackUptoSaid : Prop := bitrowBackUptoRow.holds Try.pinned (OpenSpec.upto bitrowBackSpec)

/-- 'sticklerlaw06.PairParts', WHERE WHAT IT READS IS OF BULK AT MOST 1048576: true; the input reads as it did. -/
def pairPartsUptoRow : OpenClaim := { program := "ytgjnmjakpiceiab", sum := "1431145111091671e514d22abf3bad634101f29cf94dbb120c2a09c089ae6f83", func := "stickler/sticklerlaw06.PairParts", spec := "pairParts", inPlace := ["math.Float64bits", "math.Float64frombits", "math.archTrunc"], apart := false, narrowed := true }
def PairPartsUptoSaid : Prop := pairPartsUptoRow.holds Try.pinned (OpenSpec.upto pairPartsSpec)

/-- 'sticklerlaw06.PairMoves', WHERE WHAT IT READS IS OF BULK AT MOST 1048576: true; the input reads as it did. -/
def pairMovesUptoRow : OpenClaim := { program := "ytgjnmjakpiceiab", sum := "1431145111091671e514d22abf3bad634101f29cf94dbb120c2a09c089ae6f83", func := "stickler/sticklerlaw06.PairMoves", spec := "pairMoves", inPlace := ["math.Float64bits", "math.Float64frombits", "math.archTrunc"], apart := false, narrowed := true }
def PairMovesUptoSaid : Prop := pairMovesUptoRow.holds Try.pinned (OpenSpec.upto pairMovesSpec)

/-- 'sticklerlaw06.PairTotal', WHERE WHAT IT READS IS OF BULK AT MOST 1048576: true; the input reads as it did. -/
def pairTotalUptoRow : OpenClaim := { program := "ytgjnmjakpiceiab", sum := "1431145111091671e514d22abf3bad634101f29cf94dbb120c2a09c089ae6f83", func := "stickler/sticklerlaw06.PairTotal", spec := "pairTotal", inPlace := ["math.Float64bits", "math.Float64frombits", "math.archTrunc"], apart := false, narrowed := true }
def PairTotalUptoSaid : Prop := pairTotalUptoRow.holds Try.pinned (OpenSpec.upto pairTotalSpec)

end Rows
end Go.Proofs.Ytgjnmjakpiceiab
