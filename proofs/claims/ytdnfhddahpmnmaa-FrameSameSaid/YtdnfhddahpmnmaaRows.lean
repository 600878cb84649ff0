/-
  No cell of these rows narrows 'for every input' (looked for: loops, veiled, ifaces, maps, wideKeys, modest, calm, conditions, laid).
  DERIVED. THE GIVEN ROWS OF THIS SEAT. 10 by the template 'for every input the law returns true; each argument reads behind the call as it read before'; 0 by the template 'total and deterministic' (their statements: YtdnfhddahpmnmaaTotals.lean).
  GIVEN WITH THE SEED: the statements are not yours to turn. If you find one false, say at which input.
  Laid BY PROGRAM, IN A SANDBOX (cutbox-rows.mjs): the forced cells as the released guide's own fill.sh prints them over the translation f6c1221a6c3d0bb2… (all of the seat's roots in one cut). By AI agents, Wed Nov 11 2026. No macro, syntax, notation, axiom, sorry.
-/
import Derived.Test.YtdnfhddahpmnmaaChecked
import GoSem.Claim
import GoSem.ClaimJoined
import GoSem.ClaimMapViews
import Derived.JoinedTies
import Derived.KernelRfl
namespace Go.Proofs.Ytdnfhddahpmnmaa
/- THE CELL 'sum', in the pinned program and in every row, IS THE sha256 OF THE DUMP (.gsa) THAT YtdnfhddahpmnmaaProg.lean LOADS. Nothing in Lean hashes anything: it is a label: what it is worth is what the hold of that sum in a sandbox is worth. -/
noncomputable def Try.pinned : Pinned := { name := "ytdnfhddahpmnmaa", sum := "f6c1221a6c3d0bb225eb847dadb546da9c348cad22f0fa7d632dd9dccbcc9092", checked := Try.checked }
namespace Rows
def none {H : Type} : Left H := { results := [], args := [] }

/-- 'sticklerlaw49.MatchJudges': WHATEVER THE INPUT: true; the input reads as it did. -/
def matchJudgesSpec : ChangeSpec := { name := "matchJudges", fn := fun _ => fun
  | [d1, d2, d3] => { results := [.lit (.bool true)], args := [d1, d2, d3] }
  | _ => none }
def matchJudgesRow : OpenClaim := { program := "ytdnfhddahpmnmaa", sum := "f6c1221a6c3d0bb225eb847dadb546da9c348cad22f0fa7d632dd9dccbcc9092", func := "stickler/sticklerlaw49.MatchJudges", spec := "matchJudges", apart := false }
def MatchJudgesSaid : Prop := matchJudgesRow.holds Try.pinned (OpenSpec.ofChange matchJudgesSpec)

/-- ITS FALSE NEIGHBOUR: 'it returns false'. Refute it at one input. -/
def matchJudgesWrong : ChangeSpec := { name := "matchJudges", fn := fun _ => fun
  | [d1, d2, d3] => { results := [.lit (.bool false)], args := [d1, d2, d3] }
  | _ => none }
def MatchJudgesWrongFalsely : Prop := matchJudgesRow.holds Try.pinned (OpenSpec.ofChange matchJudgesWrong)

/-- 'sticklerlaw30.BlockParts': WHATEVER THE INPUT: true; the input reads as it did. -/
def blockPartsSpec : ChangeSpec := { name := "blockParts", fn := fun _ => fun
  | [d1, d2, d3] => { results := [.lit (.bool true)], args := [d1, d2, d3] }
  | _ => none }
def blockPartsRow : OpenClaim := { program := "ytdnfhddahpmnmaa", sum := "f6c1221a6c3d0bb225eb847dadb546da9c348cad22f0fa7d632dd9dccbcc9092", func := "stickler/sticklerlaw30.BlockParts", spec := "blockParts", apart := false }
def BlockPartsSaid : Prop := blockPartsRow.holds Try.pinned (OpenSpec.ofChange blockPartsSpec)

/-- ITS FALSE NEIGHBOUR: 'it returns false'. Refute it at one input. -/
def blockPartsWrong : ChangeSpec := { name := "blockParts", fn := fun _ => fun
  | [d1, d2, d3] => { results := [.lit (.bool false)], args := [d1, d2, d3] }
  | _ => none }
def BlockPartsWrongFalsely : Prop := blockPartsRow.holds Try.pinned (OpenSpec.ofChange blockPartsWrong)

/-- 'sticklerlaw30.BlockNobody': WHATEVER THE INPUT: true; the input reads as it did. -/
def blockNobodySpec : ChangeSpec := { name := "blockNobody", fn := fun _ => fun
  | [d] => { results := [.lit (.bool true)], args := [d] }
  | _ => none }
def blockNobodyRow : OpenClaim := { program := "ytdnfhddahpmnmaa", sum := "f6c1221a6c3d0bb225eb847dadb546da9c348cad22f0fa7d632dd9dccbcc9092", func := "stickler/sticklerlaw30.BlockNobody", spec := "blockNobody", apart := false }
def BlockNobodySaid : Prop := blockNobodyRow.holds Try.pinned (OpenSpec.ofChange blockNobodySpec)

/-- ITS FALSE NEIGHBOUR: 'it returns false'. Refute it at one input. -/
def blockNobodyWrong : ChangeSpec := { name := "blockNobody", fn := fun _ => fun
  | [d] => { results := [.lit (.bool false)], args := [d] }
  | _ => none }
def BlockNobodyWrongFalsely : Prop := blockNobodyRow.holds Try.pinned (OpenSpec.ofChange blockNobodyWrong)

/-- 'sticklerlaw30.BlockPlays': WHATEVER THE INPUT: true; the input reads as it did. -/
def blockPlaysSpec : ChangeSpec := { name := "blockPlays", fn := fun _ => fun
  | [d1, d2] => { results := [.lit (.bool true)], args := [d1, d2] }
  | _ => none }
def blockPlaysRow : OpenClaim := { program := "ytdnfhddahpmnmaa", sum := "f6c1221a6c3d0bb225eb847dadb546da9c348cad22f0fa7d632dd9dccbcc9092", func := "stickler/sticklerlaw30.BlockPlays", spec := "blockPlays", apart := false }
def BlockPlaysSaid : Prop := blockPlaysRow.holds Try.pinned (OpenSpec.ofChange blockPlaysSpec)

/-- ITS FALSE NEIGHBOUR: 'it returns false'. Refute it at one input. -/
def blockPlaysWrong : ChangeSpec := { name := "blockPlays", fn := fun _ => fun
  | [d1, d2] => { results := [.lit (.bool false)], args := [d1, d2] }
  | _ => none }
def BlockPlaysWrongFalsely : Prop := blockPlaysRow.holds Try.pinned (OpenSpec.ofChange blockPlaysWrong)

/-- 'sticklerlaw12.CutterNobody': WHATEVER THE INPUT: true; the input reads as it did. -/
def cutterNobodySpec : ChangeSpec := { name := "cutterNobody", fn := fun _ => fun
  | [d] => { results := [.lit (.bool true)], args := [d] }
  | _ => none }
def cutterNobodyRow : OpenClaim := { program := "ytdnfhddahpmnmaa", sum := "f6c1221a6c3d0bb225eb847dadb546da9c348cad22f0fa7d632dd9dccbcc9092", func := "stickler/sticklerlaw12.CutterNobody", spec := "cutterNobody", apart := false }
def CutterNobodySaid : Prop := cutterNobodyRow.holds Try.pinned (OpenSpec.ofChange cutterNobodySpec)

/-- ITS FALSE NEIGHBOUR: 'it returns false'. Refute it at one input. -/
def cutterNobodyWrong : ChangeSpec := { name := "cutterNobody", fn := fun _ => fun
  | [d] => { results := [.lit (.bool false)], args := [d] }
  | _ => none }
def CutterNobodyWrongFalsely : Prop := cutterNobodyRow.holds Try.pinned (OpenSpec.ofChange cutterNobodyWrong)

/-- 'sticklerlaw14.FrameSame': WHATEVER THE INPUT: true; the input reads as it did. -/
def frameSameSpec : ChangeSpec := { name := "frameSame", fn := fun _ => fun
  | [d1, d2] => { results := [.lit (.bool true)], args := [d1, d2] }
  | _ => none }
def frameSameRow : OpenClaim := { program := "ytdnfhddahpmnmaa", sum := "f6c1221a6c3d0bb225eb847dadb546da9c348cad22f0fa7d632dd9dccbcc9092", func := "stickler/sticklerlaw14.FrameSame", spec := "frameSame", apart := false }
def FrameSameSaid : Prop := frameSameRow.holds Try.pinned (OpenSpec.ofChange frameSameSpec)

/-- ITS FALSE NEIGHBOUR: 'it returns false'. Refute it at one input. -/
def frameSameWrong : ChangeSpec := { name := "frameSame", fn := fun _ => fun
  | [d1, d2] => { results := [.lit (.bool false)], args := [d1, d2] }
  | _ => none }
def FrameSameWrongFalsely : Prop := frameSameRow.holds Try.pinned (OpenSpec.ofChange frameSameWrong)

/-- 'sticklerlaw45.SpecRight': WHATEVER THE INPUT: true; the input reads as it did. -/
def specRightSpec : ChangeSpec := { name := "specRight", fn := fun _ => fun
  | [d1, d2] => { results := [.lit (.bool true)], args := [d1, d2] }
  | _ => none }
def specRightRow : OpenClaim := { program := "ytdnfhddahpmnmaa", sum := "f6c1221a6c3d0bb225eb847dadb546da9c348cad22f0fa7d632dd9dccbcc9092", func := "stickler/sticklerlaw45.SpecRight", spec := "specRight", unfollowed := true, recurses := true, apart := false }
def SpecRightSaid : Prop := specRightRow.holds Try.pinned (OpenSpec.ofChange specRightSpec)

/-- ITS FALSE NEIGHBOUR: 'it returns false'. Refute it at one input. -/
def specRightWrong : ChangeSpec := { name := "specRight", fn := fun _ => fun
  | [d1, d2] => { results := [.lit (.bool false)], args := [d1, d2] }
  | _ => none }
def SpecRightWrongFalsely : Prop := specRightRow.holds Try.pinned (OpenSpec.ofChange specRightWrong)

/-- 'sticklerlaw45.SpecSame': WHATEVER THE INPUT: true; the input reads as it did. -/
def specSameSpec : ChangeSpec := { name := "specSame", fn := fun _ => fun
  | [d1, d2] => { results := [.lit (.bool true)], args := [d1, d2] }
  | _ => none }
def specSameRow : OpenClaim := { program := "ytdnfhddahpmnmaa", sum := "f6c1221a6c3d0bb225eb847dadb546da9c348cad22f0fa7d632dd9dccbcc9092", func := "stickler/sticklerlaw45.SpecSame", spec := "specSame", unfollowed := true, recurses := true, apart := false }
def SpecSameSaid : Prop := specSameRow.holds Try.pinned (OpenSpec.ofChange specSameSpec)

/-- ITS FALSE NEIGHBOUR: 'it returns false'. Refute it at one input. -/
def specSameWrong : ChangeSpec := { name := "specSame", fn := fun _ => fun
  | [d1, d2] => { results := [.lit (.bool false)], args := [d1, d2] }
  | _ => none }
def SpecSameWrongFalsely : Prop := specSameRow.holds Try.pinned (OpenSpec.ofChange specSameWrong)

/-- 'sticklerlaw45.SpecBuilds': WHATEVER THE INPUT: true; the input reads as it did. -/
def specBuildsSpec : ChangeSpec := { name := "specBuilds", fn := fun _ => fun
  | [d] => { results := [.lit (.bool true)], args := [d] }
  | _ => none }
def specBuildsRow : OpenClaim := { program := "ytdnfhddahpmnmaa", sum := "f6c1221a6c3d0bb225eb847dadb546da9c348cad22f0fa7d632dd9dccbcc9092", func := "stickler/sticklerlaw45.SpecBuilds", spec := "specBuilds", unfollowed := true, recurses := true, apart := false }
def SpecBuildsSaid : Prop := specBuildsRow.holds Try.pinned (OpenSpec.ofChange specBuildsSpec)

/-- ITS FALSE NEIGHBOUR: 'it returns false'. Refute it at one input. -/
def specBuildsWrong : ChangeSpec := { name := "specBuilds", fn := fun _ => fun
  | [d] => { results := [.lit (.bool false)], args := [d] }
  | _ => none }
def SpecBuildsWrongFalsely : Prop := specBuildsRow.holds Try.pinned (OpenSpec.ofChange specBuildsWrong)

/-- 'sticklerlaw34.RosterNobody': WHATEVER THE INPUT: true; the input reads as it did. -/
def rosterNobodySpec : ChangeSpec := { name := "rosterNobody", fn := fun _ => fun
  | [d1, d2] => { results := [.lit (.bool true)], args := [d1, d2] }
  | _ => none }
def rosterNobodyRow : OpenClaim := { program := "ytdnfhddahpmnmaa", sum := "f6c1221a6c3d0bb225eb847dadb546da9c348cad22f0fa7d632dd9dccbcc9092", func := "stickler/sticklerlaw34.RosterNobody", spec := "rosterNobody", apart := false }
def RosterNobodySaid : Prop := rosterNobodyRow.holds Try.pinned (OpenSpec.ofChange rosterNobodySpec)

/-- ITS FALSE NEIGHBOUR: 'it returns false'. Refute it at one input. -/
def rosterNobodyWrong : ChangeSpec := { name := "rosterNobody", fn := fun _ => fun
  | [d1, d2] => { results := [.lit (.bool false)], args := [d1, d2] }
  | _ => none }
def RosterNobodyWrongFalsely : Prop := rosterNobodyRow.holds Try.pinned (OpenSpec.ofChange rosterNobodyWrong)

/- THE SECOND FORM. 'bulk': how many values and letters a reading holds, each counted each time it is reached (what is shared counts as often as it is met; a slice's spare places count too). A statement '..UptoSaid' is the law's where the arguments, and the package variables that the reading takes, are together of bulk at most 1048576: NARROWER than '..Said'. Prove '..Said' where nothing that the law and all that it calls make is longer than what came in: it says more and counts as full. Else prove '..UptoSaid'. A law counts once. -/
mutual
def uptoBulk {H : Type} : DataW H → Nat
  | .lit (.string bytes) => bytes.length + 1
  | .lit _ => 1
  | .nil => 1
  | .ptr d => uptoBulk d + 1
  | .slice elems spare => uptoBulkAll elems + uptoBulkAll spare + 1
  | .agg parts => uptoBulkAll parts + 1
  | .iface _ d => uptoBulk d + 1
  | .map entries => uptoBulkEntries entries + 1
  | .held _ => 1
def uptoBulkAll {H : Type} : List (DataW H) → Nat
  | [] => 0
  | d :: r => uptoBulk d + uptoBulkAll r
def uptoBulkEntries {H : Type} : List (Lit × DataW H) → Nat
  | [] => 0
  | x :: r => uptoBulkEntry x + uptoBulkEntries r
def uptoBulkEntry {H : Type} : Lit × DataW H → Nat
  | (.string bytes, d) => bytes.length + uptoBulk d + 1
  | (_, d) => uptoBulk d + 1
 end
def uptoSmall : (H : Type) → List (DataW H) → Bool := fun _ ds => decide (uptoBulkAll ds ≤ 1048576)
def OpenSpec.upto (s : _root_.Go.ChangeSpec) : _root_.Go.OpenSpec := { _root_.Go.OpenSpec.ofChange s with cond := some uptoSmall }

/-- 'sticklerlaw49.MatchJudges', WHERE WHAT IT READS IS OF BULK AT MOST 1048576: true; the input reads as it did. -/
def matchJudgesUptoRow : OpenClaim := { program := "ytdnfhddahpmnmaa", sum := "f6c1221a6c3d0bb225eb847dadb546da9c348cad22f0fa7d632dd9dccbcc9092", func := "stickler/sticklerlaw49.MatchJudges", spec := "matchJudges", apart := false, narrowed := true }
def MatchJudgesUptoSaid : Prop := matchJudgesUptoRow.holds Try.pinned (OpenSpec.upto matchJudgesSpec)

/-- 'sticklerlaw30.BlockParts', WHERE WHAT IT READS IS OF BULK AT MOST 1048576: true; the input reads as it did. -/
def blockPartsUptoRow : OpenClaim := { program := "ytdnfhddahpmnmaa", sum := "f6c1221a6c3d0bb225eb847dadb546da9c348cad22f0fa7d632dd9dccbcc9092", func := "stickler/sticklerlaw30.BlockParts", spec := "blockParts", apart := false, narrowed := true }
def BlockPartsUptoSaid : Prop := blockPartsUptoRow.holds Try.pinned (OpenSpec.upto blockPartsSpec)

/-- 'sticklerlaw30.BlockNobody', WHERE WHAT IT READS IS OF BULK AT MOST 1048576: true; the input reads as it did. -/
def blockNobodyUptoRow : OpenClaim := { program := "ytdnfhddahpmnmaa", sum := "f6c1221a6c3d0bb225eb847dadb546da9c348cad22f0fa7d632dd9dccbcc9092", func := "stickler/sticklerlaw30.BlockNobody", spec := "blockNobody", apart := false, narrowed := true }
def BlockNobodyUptoSaid : Prop := blockNobodyUptoRow.holds Try.pinned (OpenSpec.upto blockNobodySpec)

/-- 'sticklerlaw30.BlockPlays', WHERE WHAT IT READS IS OF BULK AT MOST 1048576: true; the input reads as it did. -/
def blockPlaysUptoRow : OpenClaim := { program := "ytdnfhddahpmnmaa", sum := "f6c1221a6c3d0bb225eb847dadb546da9c348cad22f0fa7d632dd9dccbcc9092", func := "stickler/sticklerlaw30.BlockPlays", spec := "blockPlays", apart := false, narrowed := true }
def BlockPlaysUptoSaid : Prop := blockPlaysUptoRow.holds Try.pinned (OpenSpec.upto blockPlaysSpec)

/-- 'sticklerlaw12.CutterNobody', WHERE WHAT IT READS IS OF BULK AT MOST 1048576: true; the input reads as it did. -/
def cutterNobodyUptoRow : OpenClaim := { program := "ytdnfhddahpmnmaa", sum := "f6c1221a6c3d0bb225eb847dadb546da9c348cad22f0fa7d632dd9dccbcc9092", func := "stickler/sticklerlaw12.CutterNobody", spec := "cutterNobody", apart := false, narrowed := true }
def CutterNobodyUptoSaid : Prop := cutterNobodyUptoRow.holds Try.pinned (OpenSpec.upto cutterNobodySpec)

/-- 'sticklerlaw14.FrameSame', WHERE WHAT IT READS IS OF BULK AT MOST 1048576: true; the input reads as it did. -/
def frameSameUptoRow : OpenClaim := { program := "ytdnfhddahpmnmaa", sum := "f6c1221a6c3d0bb225eb847dadb546da9c348cad22f0fa7d632dd9dccbcc9092", func := "stickler/sticklerlaw14.FrameSame", spec := "frameSame", apart := false, narrowed := true }
def FrameSameUptoSaid : Prop := frameSameUptoRow.holds Try.pinned (OpenSpec.upto frameSameSpec)

/-- 'sticklerlaw45.SpecRight', WHERE WHAT IT READS IS OF BULK AT MOST 1048576: true; the input reads as it did. -/
def specRightUptoRow : OpenClaim := { program := "ytdnfhddahpmnmaa", sum := "f6c1221a6c3d0bb225eb847dadb546da9c348cad22f0fa7d632dd9dccbcc9092", func := "stickler/sticklerlaw45.SpecRight", spec := "specRight", unfollowed := true, recurses := true, apart := false, narrowed := true }
def SpecRightUptoSaid : Prop := specRightUptoRow.holds Try.pinned (OpenSpec.upto specRightSpec)

/-- 'sticklerlaw45.SpecSame', WHERE WHAT IT READS IS OF BULK AT MOST 1048576: true; the input reads as it did. -/
def specSameUptoRow : OpenClaim := { program := "ytdnfhddahpmnmaa", sum := "f6c1221a6c3d0bb225eb847dadb546da9c348cad22f0fa7d632dd9dccbcc9092", func := "stickler/sticklerlaw45.SpecSame", spec := "specSame", unfollowed := true, recurses := true, apart := false, narrowed := true }
def SpecSameUptoSaid : Prop := specSameUptoRow.holds Try.pinned (OpenSpec.upto specSameSpec)

/-- 'sticklerlaw45.SpecBuilds', WHERE WHAT IT READS IS OF BULK AT MOST 1048576: true; the input reads as it did. -/
def specBuildsUptoRow : OpenClaim := { program := "ytdnfhddahpmnmaa", sum := "f6c1221a6c3d0bb225eb847dadb546da9c348cad22f0fa7d632dd9dccbcc9092", func := "stickler/sticklerlaw45.SpecBuilds", spec := "specBuilds", unfollowed := true, recurses := true, apart := false, narrowed := true }
def SpecBuildsUptoSaid : Prop := specBuildsUptoRow.holds Try.pinned (OpenSpec.upto specBuildsSpec)

/-- 'sticklerlaw34.RosterNobody', WHERE WHAT IT READS IS OF BULK AT MOST 1048576: true; the input reads as it did. -/
def rosterNobodyUptoRow : OpenClaim := { program := "ytdnfhddahpmnmaa", sum := "f6c1221a6c3d0bb225eb847dadb546da9c348cad22f0fa7d632dd9dccbcc9092", func := "stickler/sticklerlaw34.RosterNobody", spec := "rosterNobody", apart := false, narrowed := true }
def RosterNobodyUptoSaid : Prop := rosterNobodyUptoRow.holds Try.pinned (OpenSpec.upto rosterNobodySpec)

end Rows
end Go.Proofs.Ytdnfhddahpmnmaa
