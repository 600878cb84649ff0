/-
  No cell of these rows narrows 'for every input' (looked for: loops, veiled, ifaces, maps, wideKeys, modest, calm, conditions, laid).
  DERIVED. THE GIVEN ROWS OF THIS SEAT. 9 by the template 'for every input the law returns true; each argument reads behind the call as it read before'; 0 by the template 'total and deterministic' (their statements: YtelcpfjifhobjaaTotals.lean).
  GIVEN WITH THE SEED: the statements are not yours to turn. If you find one false, say at which input.
  Laid BY PROGRAM, IN A SANDBOX (cutbox-rows.mjs): the forced cells as the released guide's own fill.sh prints them over the translation d9f43a4204c230b5… (all of the seat's roots in one cut). By AI agents, Wed Nov 11 2026. No macro, syntax, notation, axiom, sorry.
-/
import Derived.Test.YtelcpfjifhobjaaChecked
import GoSem.Claim
import GoSem.ClaimJoined
import GoSem.ClaimMapViews
import Derived.JoinedTies
import Derived.KernelRfl
namespace Go.Proofs.Ytelcpfjifhobjaa
/- THE CELL 'sum', in the pinned program and in every row, IS THE sha256 OF THE DUMP (.gsa) THAT YtelcpfjifhobjaaProg.lean LOADS. Nothing in Lean hashes anything: it is a label: what it is worth is what the hold of that sum in a sandbox is worth. -/
noncomputable def Try.pinned : Pinned := { name := "ytelcpfjifhobjaa", sum := "d9f43a4204c230b50b0a65aa0361fd3267ba3731058a205cbfec15e5117bceee", checked := Try.checked }
namespace Rows
def none {H : Type} : Left H := { results := [], args := [] }

/-- 'sticklerlaw14.FrameParses': WHATEVER THE INPUT: true; the input reads as it did. -/
def frameParsesSpec : ChangeSpec := { name := "frameParses", fn := fun _ => fun
  | [d] => { results := [.lit (.bool true)], args := [d] }
  | _ => none }
def frameParsesRow : OpenClaim := { program := "ytelcpfjifhobjaa", sum := "d9f43a4204c230b50b0a65aa0361fd3267ba3731058a205cbfec15e5117bceee", func := "stickler/sticklerlaw14.FrameParses", spec := "frameParses", apart := false }
def FrameParsesSaid : Prop := frameParsesRow.holds Try.pinned (OpenSpec.ofChange frameParsesSpec)

/-- ITS FALSE NEIGHBOUR: 'it returns false'. Refute it at one input. -/
def frameParsesWrong : ChangeSpec := { name := "frameParses", fn := fun _ => fun
  | [d] => { results := [.lit (.bool false)], args := [d] }
  | _ => none }
def FrameParsesWrongFalsely : Prop := frameParsesRow.holds Try.pinned (OpenSpec.ofChange frameParsesWrong)

/-- 'sticklerlaw14.FramePadding': WHATEVER THE INPUT: true; the input reads as it did. -/
def framePaddingSpec : ChangeSpec := { name := "framePadding", fn := fun _ => fun
  | [d1, d2] => { results := [.lit (.bool true)], args := [d1, d2] }
  | _ => none }
def framePaddingRow : OpenClaim := { program := "ytelcpfjifhobjaa", sum := "d9f43a4204c230b50b0a65aa0361fd3267ba3731058a205cbfec15e5117bceee", func := "stickler/sticklerlaw14.FramePadding", spec := "framePadding", apart := false }
def FramePaddingSaid : Prop := framePaddingRow.holds Try.pinned (OpenSpec.ofChange framePaddingSpec)

/-- ITS FALSE NEIGHBOUR: 'it returns false'. Refute it at one input. -/
def framePaddingWrong : ChangeSpec := { name := "framePadding", fn := fun _ => fun
  | [d1, d2] => { results := [.lit (.bool false)], args := [d1, d2] }
  | _ => none }
def FramePaddingWrongFalsely : Prop := framePaddingRow.holds Try.pinned (OpenSpec.ofChange framePaddingWrong)

/-- 'sticklerlaw49.MatchReads': WHATEVER THE INPUT: true; the input reads as it did. -/
def matchReadsSpec : ChangeSpec := { name := "matchReads", fn := fun _ => fun
  | [d1, d2, d3] => { results := [.lit (.bool true)], args := [d1, d2, d3] }
  | _ => none }
def matchReadsRow : OpenClaim := { program := "ytelcpfjifhobjaa", sum := "d9f43a4204c230b50b0a65aa0361fd3267ba3731058a205cbfec15e5117bceee", func := "stickler/sticklerlaw49.MatchReads", spec := "matchReads", apart := false }
def MatchReadsSaid : Prop := matchReadsRow.holds Try.pinned (OpenSpec.ofChange matchReadsSpec)

/-- ITS FALSE NEIGHBOUR: 'it returns false'. Refute it at one input. -/
def matchReadsWrong : ChangeSpec := { name := "matchReads", fn := fun _ => fun
  | [d1, d2, d3] => { results := [.lit (.bool false)], args := [d1, d2, d3] }
  | _ => none }
def MatchReadsWrongFalsely : Prop := matchReadsRow.holds Try.pinned (OpenSpec.ofChange matchReadsWrong)

/-- 'sticklerlaw30.BlockPlays': WHATEVER THE INPUT: true; the input reads as it did. -/
def blockPlaysSpec : ChangeSpec := { name := "blockPlays", fn := fun _ => fun
  | [d1, d2] => { results := [.lit (.bool true)], args := [d1, d2] }
  | _ => none }
def blockPlaysRow : OpenClaim := { program := "ytelcpfjifhobjaa", sum := "d9f43a4204c230b50b0a65aa0361fd3267ba3731058a205cbfec15e5117bceee", func := "stickler/sticklerlaw30.BlockPlays", spec := "blockPlays", apart := false }
def BlockPlaysSaid : Prop := blockPlaysRow.holds Try.pinned (OpenSpec.ofChange blockPlaysSpec)

/-- ITS FALSE NEIGHBOUR: 'it returns false'. Refute it at one input. -/
def blockPlaysWrong : ChangeSpec := { name := "blockPlays", fn := fun _ => fun
  | [d1, d2] => { results := [.lit (.bool false)], args := [d1, d2] }
  | _ => none }
def BlockPlaysWrongFalsely : Prop := blockPlaysRow.holds Try.pinned (OpenSpec.ofChange blockPlaysWrong)

/-- 'sticklerlaw30.BlockParts': WHATEVER THE INPUT: true; the input reads as it did. -/
def blockPartsSpec : ChangeSpec := { name := "blockParts", fn := fun _ => fun
  | [d1, d2, d3] => { results := [.lit (.bool true)], args := [d1, d2, d3] }
  | _ => none }
def blockPartsRow : OpenClaim := { program := "ytelcpfjifhobjaa", sum := "d9f43a4204c230b50b0a65aa0361fd3267ba3731058a205cbfec15e5117bceee", func := "stickler/sticklerlaw30.BlockParts", spec := "blockParts", apart := false }
def BlockPartsSaid : Prop := blockPartsRow.holds Try.pinned (OpenSpec.ofChange blockPartsSpec)

/-- ITS FALSE NEIGHBOUR: 'it returns false'. Refute it at one input. -/
def blockPartsWrong : ChangeSpec := { name := "blockParts", fn := fun _ => fun
  | [d1, d2, d3] => { results := [.lit (.bool false)], args := [d1, d2, d3] }
  | _ => none }
def BlockPartsWrongFalsely : Prop := blockPartsRow.holds Try.pinned (OpenSpec.ofChange blockPartsWrong)

/-- 'sticklerlaw30.BlockNobody': WHATEVER THE INPUT: true; the input reads as it did. -/
def blockNobodySpec : ChangeSpec := { name := "blockNobody", fn := fun _ => fun
  | [d] => { results := [.lit (.bool true)], args := [d] }
  | _ => none }
def blockNobodyRow : OpenClaim := { program := "ytelcpfjifhobjaa", sum := "d9f43a4204c230b50b0a65aa0361fd3267ba3731058a205cbfec15e5117bceee", func := "stickler/sticklerlaw30.BlockNobody", spec := "blockNobody", apart := false }
def BlockNobodySaid : Prop := blockNobodyRow.holds Try.pinned (OpenSpec.ofChange blockNobodySpec)

/-- ITS FALSE NEIGHBOUR: 'it returns false'. Refute it at one input. -/
def blockNobodyWrong : ChangeSpec := { name := "blockNobody", fn := fun _ => fun
  | [d] => { results := [.lit (.bool false)], args := [d] }
  | _ => none }
def BlockNobodyWrongFalsely : Prop := blockNobodyRow.holds Try.pinned (OpenSpec.ofChange blockNobodyWrong)

/-- 'sticklerlaw34.RosterNobody': WHATEVER THE INPUT: true; the input reads as it did. -/
def rosterNobodySpec : ChangeSpec := { name := "rosterNobody", fn := fun _ => fun
  | [d1, d2] => { results := [.lit (.bool true)], args := [d1, d2] }
  | _ => none }
def rosterNobodyRow : OpenClaim := { program := "ytelcpfjifhobjaa", sum := "d9f43a4204c230b50b0a65aa0361fd3267ba3731058a205cbfec15e5117bceee", func := "stickler/sticklerlaw34.RosterNobody", spec := "rosterNobody", apart := false }
def RosterNobodySaid : Prop := rosterNobodyRow.holds Try.pinned (OpenSpec.ofChange rosterNobodySpec)

/-- ITS FALSE NEIGHBOUR: 'it returns false'. Refute it at one input. -/
def rosterNobodyWrong : ChangeSpec := { name := "rosterNobody", fn := fun _ => fun
  | [d1, d2] => { results := [.lit (.bool false)], args := [d1, d2] }
  | _ => none }
def RosterNobodyWrongFalsely : Prop := rosterNobodyRow.holds Try.pinned (OpenSpec.ofChange rosterNobodyWrong)

/-- 'sticklerlaw12.CutterNobody': WHATEVER THE INPUT: true; the input reads as it did. -/
def cutterNobodySpec : ChangeSpec := { name := "cutterNobody", fn := fun _ => fun
  | [d] => { results := [.lit (.bool true)], args := [d] }
  | _ => none }
def cutterNobodyRow : OpenClaim := { program := "ytelcpfjifhobjaa", sum := "d9f43a4204c230b50b0a65aa0361fd3267ba3731058a205cbfec15e5117bceee", func := "stickler/sticklerlaw12.CutterNobody", spec := "cutterNobody", apart := false }
def CutterNobodySaid : Prop := cutterNobodyRow.holds Try.pinned (OpenSpec.ofChange cutterNobodySpec)

/-- ITS FALSE NEIGHBOUR: 'it returns false'. Refute it at one input. -/
def cutterNobodyWrong : ChangeSpec := { name := "cutterNobody", fn := fun _ => fun
  | [d] => { results := [.lit (.bool false)], args := [d] }
  | _ => none }
def CutterNobodyWrongFalsely : Prop := cutterNobodyRow.holds Try.pinned (OpenSpec.ofChange cutterNobodyWrong)

/-- 'sticklerlaw45.SpecSame': WHATEVER THE INPUT: true; the input reads as it did. -/
def specSameSpec : ChangeSpec := { name := "specSame", fn := fun _ => fun
  | [d1, d2] => { results := [.lit (.bool true)], args := [d1, d2] }
  | _ => none }
def specSameRow : OpenClaim := { program := "ytelcpfjifhobjaa", sum := "d9f43a4204c230b50b0a65aa0361fd3267ba3731058a205cbfec15e5117bceee", func := "stickler/sticklerlaw45.SpecSame", spec := "specSame", unfollowed := true, recurses := true, apart := false }
def SpecSameSaid : Prop := specSameRow.holds Try.pinned (OpenSpec.ofChange specSameSpec)

/-- ITS FALSE NEIGHBOUR: 'it returns false'. Refute it at one input. -/
def specSameWrong : ChangeSpec := { name := "specSame", fn := fun _ => fun
  | [d1, d2] => { results := [.lit (.bool false)], args := [d1, d2] }
  | _ => none }
def SpecSameWrongFalsely : Prop := specSameRow.holds Try.pinned (OpenSpec.ofChange specSameWrong)

/- THE SECOND FORM. 'bulk': how many values and letters a reading holds, each counted each time it is reached (what is shared counts as often as it is met; a slice's spare places count too). A statement '..UptoSaid' is the law's where the arguments, and the package variables that the reading takes, are together of bulk at most 1048576: NARROWER than '..Said'. Prove '..Said' where nothing that the law and all that it calls make is longer than what came in: it says more and counts as full. Else prove '..UptoSaid'. A law counts once. -/
mutual
def uptoBulk {H : Type} : DataW H → Nat
  | .lit (.string bytes) => bytes.length + 1
  | .lit _ => 1
  | .nil => 1
  | .ptr d => uptoBulk d + 1
  | .slice elems spare => uptoBulkAll elems + uptoBulkAll spare + 1
  | .agg parts => uptoBulkAll parts + 1
  | .iface _ d => uptoBulk d + 1
  | .map entries => uptoBulkEntries entries + 1
  | .held _ => 1
def uptoBulkAll {H : Type} : List (DataW H) → Nat
  | [] => 0
  | d :: r => uptoBulk d + uptoBulkAll r
def uptoBulkEntries {H : Type} : List (Lit × DataW H) → Nat
  | [] => 0
  | x :: r => uptoBulkEntry x + uptoBulkEntries r
def uptoBulkEntry {H : Type} : Lit × DataW H → Nat
  | (.string bytes, d) => bytes.length + uptoBulk d + 1
  | (_, d) => uptoBulk d + 1
 end
def uptoSmall : (H : Type) → List (DataW H) → Bool := fun _ ds => decide (uptoBulkAll ds ≤ 1048576)
def OpenSpec.upto (s : _root_.Go.ChangeSpec) : _root_.Go.OpenSpec := { _root_.Go.OpenSpec.ofChange s with cond := some uptoSmall }

/-- 'sticklerlaw14.FrameParses', WHERE WHAT IT READS IS OF BULK AT MOST 1048576: true; the input reads as it did. -/
def frameParsesUptoRow : OpenClaim := { program := "ytelcpfjifhobjaa", sum := "d9f43a4204c230b50b0a65aa0361fd3267ba3731058a205cbfec15e5117bceee", func := "stickler/sticklerlaw14.FrameParses", spec := "frameParses", apart := false, narrowed := true }
def FrameParsesUptoSaid : Prop := frameParsesUptoRow.holds Try.pinned (OpenSpec.upto frameParsesSpec)

/-- 'sticklerlaw14.FramePadding', WHERE WHAT IT READS IS OF BULK AT MOST 1048576: true; the input reads as it did. -/
def framePaddingUptoRow : OpenClaim := { program := "ytelcpfjifhobjaa", sum := "d9f43a4204c230b50b0a65aa0361fd3267ba3731058a205cbfec15e5117bceee", func := "stickler/sticklerlaw14.FramePadding", spec := "framePadding", apart := false, narrowed := true }
def FramePaddingUptoSaid : Prop := framePaddingUptoRow.holds Try.pinned (OpenSpec.upto framePaddingSpec)

/-- 'sticklerlaw49.MatchReads', WHERE WHAT IT READS IS OF BULK AT MOST 1048576: true; the input reads as it did. -/
def matchReadsUptoRow : OpenClaim := { program := "ytelcpfjifhobjaa", sum := "d9f43a4204c230b50b0a65aa0361fd3267ba3731058a205cbfec15e5117bceee", func := "stickler/sticklerlaw49.MatchReads", spec := "matchReads", apart := false, narrowed := true }
def MatchReadsUptoSaid : Prop := matchReadsUptoRow.holds Try.pinned (OpenSpec.upto matchReadsSpec)

/-- 'sticklerlaw30.BlockPlays', WHERE WHAT IT READS IS OF BULK AT MOST 1048576: true; the input reads as it did. -/
def blockPlaysUptoRow : OpenClaim := { program := "ytelcpfjifhobjaa", sum := "d9f43a4204c230b50b0a65aa0361fd3267ba3731058a205cbfec15e5117bceee", func := "stickler/sticklerlaw30.BlockPlays", spec := "blockPlays", apart := false, narrowed := true }
def BlockPlaysUptoSaid : Prop := blockPlaysUptoRow.holds Try.pinned (OpenSpec.upto blockPlaysSpec)

/-- 'sticklerlaw30.BlockParts', WHERE WHAT IT READS IS OF BULK AT MOST 1048576: true; the input reads as it did. -/
def blockPartsUptoRow : OpenClaim := { program := "ytelcpfjifhobjaa", sum := "d9f43a4204c230b50b0a65aa0361fd3267ba3731058a205cbfec15e5117bceee", func := "stickler/sticklerlaw30.BlockParts", spec := "blockParts", apart := false, narrowed := true }
def BlockPartsUptoSaid : Prop := blockPartsUptoRow.holds Try.pinned (OpenSpec.upto blockPartsSpec)

/-- 'sticklerlaw30.BlockNobody', WHERE WHAT IT READS IS OF BULK AT MOST 1048576: true; the input reads as it did. -/
def blockNobodyUptoRow : OpenClaim := { program := "ytelcpfjifhobjaa", sum := "d9f43a4204c230b50b0a65aa0361fd3267ba3731058a205cbfec15e5117bceee", func := "stickler/sticklerlaw30.BlockNobody", spec := "blockNobody", apart := false, narrowed := true }
def BlockNobodyUptoSaid : Prop := blockNobodyUptoRow.holds Try.pinned (OpenSpec.upto blockNobodySpec)

/-- 'sticklerlaw34.RosterNobody', WHERE WHAT IT READS IS OF BULK AT MOST 1048576: true; the input reads as it did. -/
def rosterNobodyUptoRow : OpenClaim := { program := "ytelcpfjifhobjaa", sum := "d9f43a4204c230b50b0a65aa0361fd3267ba3731058a205cbfec15e5117bceee", func := "stickler/sticklerlaw34.RosterNobody", spec := "rosterNobody", apart := false, narrowed := true }
def RosterNobodyUptoSaid : Prop := rosterNobodyUptoRow.holds Try.pinned (OpenSpec.upto rosterNobodySpec)

/-- 'sticklerlaw12.CutterNobody', WHERE WHAT IT READS IS OF BULK AT MOST 1048576: true; the input reads as it did. -/
def cutterNobodyUptoRow : OpenClaim := { program := "ytelcpfjifhobjaa", sum := "d9f43a4204c230b50b0a65aa0361fd3267ba3731058a205cbfec15e5117bceee", func := "stickler/sticklerlaw12.CutterNobody", spec := "cutterNobody", apart := false, narrowed := true }
def CutterNobodyUptoSaid : Prop := cutterNobodyUptoRow.holds Try.pinned (OpenSpec.upto cutterNobodySpec)

/-- 'sticklerlaw45.SpecSame', WHERE WHAT IT READS IS OF BULK AT MOST 1048576: true; the input reads as it did. -/
def specSameUptoRow : OpenClaim := { program := "ytelcpfjifhobjaa", sum := "d9f43a4204c230b50b0a65aa0361fd3267ba3731058a205cbfec15e5117bceee", func := "stickler/sticklerlaw45.SpecSame", spec := "specSame", unfollowed := true, recurses := true, apart := false, narrowed := true }
def SpecSameUptoSaid : Prop := specSameUptoRow.holds Try.pinned (OpenSpec.upto specSameSpec)

end Rows
end Go.Proofs.Ytelcpfjifhobjaa
