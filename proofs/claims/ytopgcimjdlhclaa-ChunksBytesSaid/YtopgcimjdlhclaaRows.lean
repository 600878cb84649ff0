/-
  No cell of these rows narrows 'for every input' (looked for: loops, veiled, ifaces, maps, wideKeys, modest, calm, conditions, laid).
  DERIVED. THE GIVEN ROWS OF THIS SEAT. 12 by the template 'for every input the law returns true; each argument reads behind the call as it read before'; 0 by the template 'total and deterministic' (their statements: YtopgcimjdlhclaaTotals.lean).
  GIVEN WITH THE SEED: the statements are not yours to turn. If you find one false, say at which input.
  Laid BY PROGRAM, IN A SANDBOX (cutbox-rows.mjs): the forced cells as the released guide's own fill.sh prints them over the translation 815c5a9eabd8e6c9… (all of the seat's roots in one cut). By AI agents, Wed Nov 11 2026. No macro, syntax, notation, axiom, sorry.
-/
import Derived.Test.YtopgcimjdlhclaaChecked
import GoSem.Claim
import GoSem.ClaimJoined
import GoSem.ClaimMapViews
import Derived.JoinedTies
import Derived.KernelRfl
namespace Go.Proofs.Ytopgcimjdlhclaa
/- THE CELL 'sum', in the pinned program and in every row, IS THE sha256 OF THE DUMP (.gsa) THAT YtopgcimjdlhclaaProg.lean LOADS. Nothing in Lean hashes anything: it is a label: what it is worth is what the hold of that sum in a sandbox is worth. -/
noncomputable def Try.pinned : Pinned := { name := "ytopgcimjdlhclaa", sum := "815c5a9eabd8e6c970f318376a1bd7b93c9152c1400a4cb1793c1e7ae3133117", checked := Try.checked }
namespace Rows
def none {H : Type} : Left H := { results := [], args := [] }

/-- 'sticklerlaw33.LifeAsks': WHATEVER THE INPUT: true; the input reads as it did. -/
def lifeAsksSpec : ChangeSpec := { name := "lifeAsks", fn := fun _ => fun
  | [d1, d2, d3] => { results := [.lit (.bool true)], args := [d1, d2, d3] }
  | _ => none }
def lifeAsksRow : OpenClaim := { program := "ytopgcimjdlhclaa", sum := "815c5a9eabd8e6c970f318376a1bd7b93c9152c1400a4cb1793c1e7ae3133117", func := "stickler/sticklerlaw33.LifeAsks", spec := "lifeAsks", apart := false }
def LifeAsksSaid : Prop := lifeAsksRow.holds Try.pinned (OpenSpec.ofChange lifeAsksSpec)

/-- ITS FALSE NEIGHBOUR: 'it returns false'. Refute it at one input. -/
def lifeAsksWrong : ChangeSpec := { name := "lifeAsks", fn := fun _ => fun
  | [d1, d2, d3] => { results := [.lit (.bool false)], args := [d1, d2, d3] }
  | _ => none }
def LifeAsksWrongFalsely : Prop := lifeAsksRow.holds Try.pinned (OpenSpec.ofChange lifeAsksWrong)

/-- 'sticklerlaw33.LifeGoes': WHATEVER THE INPUT: true; the input reads as it did. -/
def lifeGoesSpec : ChangeSpec := { name := "lifeGoes", fn := fun _ => fun
  | [d1, d2] => { results := [.lit (.bool true)], args := [d1, d2] }
  | _ => none }
def lifeGoesRow : OpenClaim := { program := "ytopgcimjdlhclaa", sum := "815c5a9eabd8e6c970f318376a1bd7b93c9152c1400a4cb1793c1e7ae3133117", func := "stickler/sticklerlaw33.LifeGoes", spec := "lifeGoes", apart := false }
def LifeGoesSaid : Prop := lifeGoesRow.holds Try.pinned (OpenSpec.ofChange lifeGoesSpec)

/-- ITS FALSE NEIGHBOUR: 'it returns false'. Refute it at one input. -/
def lifeGoesWrong : ChangeSpec := { name := "lifeGoes", fn := fun _ => fun
  | [d1, d2] => { results := [.lit (.bool false)], args := [d1, d2] }
  | _ => none }
def LifeGoesWrongFalsely : Prop := lifeGoesRow.holds Try.pinned (OpenSpec.ofChange lifeGoesWrong)

/-- 'sticklerlaw33.LifeFalls': WHATEVER THE INPUT: true; the input reads as it did. -/
def lifeFallsSpec : ChangeSpec := { name := "lifeFalls", fn := fun _ => fun
  | [d1, d2] => { results := [.lit (.bool true)], args := [d1, d2] }
  | _ => none }
def lifeFallsRow : OpenClaim := { program := "ytopgcimjdlhclaa", sum := "815c5a9eabd8e6c970f318376a1bd7b93c9152c1400a4cb1793c1e7ae3133117", func := "stickler/sticklerlaw33.LifeFalls", spec := "lifeFalls", apart := false }
def LifeFallsSaid : Prop := lifeFallsRow.holds Try.pinned (OpenSpec.ofChange lifeFallsSpec)

/-- ITS FALSE NEIGHBOUR: 'it returns false'. Refute it at one input. -/
def lifeFallsWrong : ChangeSpec := { name := "lifeFalls", fn := fun _ => fun
  | [d1, d2] => { results := [.lit (.bool false)], args := [d1, d2] }
  | _ => none }
def LifeFallsWrongFalsely : Prop := lifeFallsRow.holds Try.pinned (OpenSpec.ofChange lifeFallsWrong)

/-- 'sticklerlaw33.LifeKnows': WHATEVER THE INPUT: true; the input reads as it did. -/
def lifeKnowsSpec : ChangeSpec := { name := "lifeKnows", fn := fun _ => fun
  | [d1, d2, d3] => { results := [.lit (.bool true)], args := [d1, d2, d3] }
  | _ => none }
def lifeKnowsRow : OpenClaim := { program := "ytopgcimjdlhclaa", sum := "815c5a9eabd8e6c970f318376a1bd7b93c9152c1400a4cb1793c1e7ae3133117", func := "stickler/sticklerlaw33.LifeKnows", spec := "lifeKnows", apart := false }
def LifeKnowsSaid : Prop := lifeKnowsRow.holds Try.pinned (OpenSpec.ofChange lifeKnowsSpec)

/-- ITS FALSE NEIGHBOUR: 'it returns false'. Refute it at one input. -/
def lifeKnowsWrong : ChangeSpec := { name := "lifeKnows", fn := fun _ => fun
  | [d1, d2, d3] => { results := [.lit (.bool false)], args := [d1, d2, d3] }
  | _ => none }
def LifeKnowsWrongFalsely : Prop := lifeKnowsRow.holds Try.pinned (OpenSpec.ofChange lifeKnowsWrong)

/-- 'sticklerlaw37.AwayTells': WHATEVER THE INPUT: true; the input reads as it did. -/
def awayTellsSpec : ChangeSpec := { name := "awayTells", fn := fun _ => fun
  | [d1, d2] => { results := [.lit (.bool true)], args := [d1, d2] }
  | _ => none }
def awayTellsRow : OpenClaim := { program := "ytopgcimjdlhclaa", sum := "815c5a9eabd8e6c970f318376a1bd7b93c9152c1400a4cb1793c1e7ae3133117", func := "stickler/sticklerlaw37.AwayTells", spec := "awayTells", apart := false }
def AwayTellsSaid : Prop := awayTellsRow.holds Try.pinned (OpenSpec.ofChange awayTellsSpec)

/-- ITS FALSE NEIGHBOUR: 'it returns false'. Refute it at one input. -/
def awayTellsWrong : ChangeSpec := { name := "awayTells", fn := fun _ => fun
  | [d1, d2] => { results := [.lit (.bool false)], args := [d1, d2] }
  | _ => none }
def AwayTellsWrongFalsely : Prop := awayTellsRow.holds Try.pinned (OpenSpec.ofChange awayTellsWrong)

/-- 'sticklerlaw31.WindowPlays': WHATEVER THE INPUT: true; the input reads as it did. -/
def windowPlaysSpec : ChangeSpec := { name := "windowPlays", fn := fun _ => fun
  | [d] => { results := [.lit (.bool true)], args := [d] }
  | _ => none }
def windowPlaysRow : OpenClaim := { program := "ytopgcimjdlhclaa", sum := "815c5a9eabd8e6c970f318376a1bd7b93c9152c1400a4cb1793c1e7ae3133117", func := "stickler/sticklerlaw31.WindowPlays", spec := "windowPlays", inPlace := ["math.Float64bits", "math.Float64frombits", "math.archTrunc"], apart := false }
def WindowPlaysSaid : Prop := windowPlaysRow.holds Try.pinned (OpenSpec.ofChange windowPlaysSpec)

/-- ITS FALSE NEIGHBOUR: 'it returns false'. Refute it at one input. -/
def windowPlaysWrong : ChangeSpec := { name := "windowPlays", fn := fun _ => fun
  | [d] => { results := [.lit (.bool false)], args := [d] }
  | _ => none }
def WindowPlaysWrongFalsely : Prop := windowPlaysRow.holds Try.pinned (OpenSpec.ofChange windowPlaysWrong)

/-- 'sticklerlaw31.WindowShifts': WHATEVER THE INPUT: true; the input reads as it did. -/
def windowShiftsSpec : ChangeSpec := { name := "windowShifts", fn := fun _ => fun
  | [d1, d2, d3] => { results := [.lit (.bool true)], args := [d1, d2, d3] }
  | _ => none }
def windowShiftsRow : OpenClaim := { program := "ytopgcimjdlhclaa", sum := "815c5a9eabd8e6c970f318376a1bd7b93c9152c1400a4cb1793c1e7ae3133117", func := "stickler/sticklerlaw31.WindowShifts", spec := "windowShifts", inPlace := ["math.Float64bits", "math.Float64frombits", "math.archTrunc"], apart := false }
def WindowShiftsSaid : Prop := windowShiftsRow.holds Try.pinned (OpenSpec.ofChange windowShiftsSpec)

/-- ITS FALSE NEIGHBOUR: 'it returns false'. Refute it at one input. -/
def windowShiftsWrong : ChangeSpec := { name := "windowShifts", fn := fun _ => fun
  | [d1, d2, d3] => { results := [.lit (.bool false)], args := [d1, d2, d3] }
  | _ => none }
def WindowShiftsWrongFalsely : Prop := windowShiftsRow.holds Try.pinned (OpenSpec.ofChange windowShiftsWrong)

/-- 'sticklerlaw31.WindowApart': WHATEVER THE INPUT: true; the input reads as it did. -/
def windowApartSpec : ChangeSpec := { name := "windowApart", fn := fun _ => fun
  | [d] => { results := [.lit (.bool true)], args := [d] }
  | _ => none }
def windowApartRow : OpenClaim := { program := "ytopgcimjdlhclaa", sum := "815c5a9eabd8e6c970f318376a1bd7b93c9152c1400a4cb1793c1e7ae3133117", func := "stickler/sticklerlaw31.WindowApart", spec := "windowApart", inPlace := ["math.Float64bits", "math.Float64frombits", "math.archTrunc"], apart := false }
def WindowApartSaid : Prop := windowApartRow.holds Try.pinned (OpenSpec.ofChange windowApartSpec)

/-- ITS FALSE NEIGHBOUR: 'it returns false'. Refute it at one input. -/
def windowApartWrong : ChangeSpec := { name := "windowApart", fn := fun _ => fun
  | [d] => { results := [.lit (.bool false)], args := [d] }
  | _ => none }
def WindowApartWrongFalsely : Prop := windowApartRow.holds Try.pinned (OpenSpec.ofChange windowApartWrong)

/-- 'sticklerlaw32.PendingNobody': WHATEVER THE INPUT: true; the input reads as it did. -/
def pendingNobodySpec : ChangeSpec := { name := "pendingNobody", fn := fun _ => fun
  | [d] => { results := [.lit (.bool true)], args := [d] }
  | _ => none }
def pendingNobodyRow : OpenClaim := { program := "ytopgcimjdlhclaa", sum := "815c5a9eabd8e6c970f318376a1bd7b93c9152c1400a4cb1793c1e7ae3133117", func := "stickler/sticklerlaw32.PendingNobody", spec := "pendingNobody", apart := false }
def PendingNobodySaid : Prop := pendingNobodyRow.holds Try.pinned (OpenSpec.ofChange pendingNobodySpec)

/-- ITS FALSE NEIGHBOUR: 'it returns false'. Refute it at one input. -/
def pendingNobodyWrong : ChangeSpec := { name := "pendingNobody", fn := fun _ => fun
  | [d] => { results := [.lit (.bool false)], args := [d] }
  | _ => none }
def PendingNobodyWrongFalsely : Prop := pendingNobodyRow.holds Try.pinned (OpenSpec.ofChange pendingNobodyWrong)

/-- 'sticklerlaw32.PendingBounds': WHATEVER THE INPUT: true; the input reads as it did. -/
def pendingBoundsSpec : ChangeSpec := { name := "pendingBounds", fn := fun _ => fun
  | [d] => { results := [.lit (.bool true)], args := [d] }
  | _ => none }
def pendingBoundsRow : OpenClaim := { program := "ytopgcimjdlhclaa", sum := "815c5a9eabd8e6c970f318376a1bd7b93c9152c1400a4cb1793c1e7ae3133117", func := "stickler/sticklerlaw32.PendingBounds", spec := "pendingBounds", apart := false }
def PendingBoundsSaid : Prop := pendingBoundsRow.holds Try.pinned (OpenSpec.ofChange pendingBoundsSpec)

/-- ITS FALSE NEIGHBOUR: 'it returns false'. Refute it at one input. -/
def pendingBoundsWrong : ChangeSpec := { name := "pendingBounds", fn := fun _ => fun
  | [d] => { results := [.lit (.bool false)], args := [d] }
  | _ => none }
def PendingBoundsWrongFalsely : Prop := pendingBoundsRow.holds Try.pinned (OpenSpec.ofChange pendingBoundsWrong)

/-- 'sticklerlaw32.PendingPlays': WHATEVER THE INPUT: true; the input reads as it did. -/
def pendingPlaysSpec : ChangeSpec := { name := "pendingPlays", fn := fun _ => fun
  | [d] => { results := [.lit (.bool true)], args := [d] }
  | _ => none }
def pendingPlaysRow : OpenClaim := { program := "ytopgcimjdlhclaa", sum := "815c5a9eabd8e6c970f318376a1bd7b93c9152c1400a4cb1793c1e7ae3133117", func := "stickler/sticklerlaw32.PendingPlays", spec := "pendingPlays", apart := false }
def PendingPlaysSaid : Prop := pendingPlaysRow.holds Try.pinned (OpenSpec.ofChange pendingPlaysSpec)

/-- ITS FALSE NEIGHBOUR: 'it returns false'. Refute it at one input. -/
def pendingPlaysWrong : ChangeSpec := { name := "pendingPlays", fn := fun _ => fun
  | [d] => { results := [.lit (.bool false)], args := [d] }
  | _ => none }
def PendingPlaysWrongFalsely : Prop := pendingPlaysRow.holds Try.pinned (OpenSpec.ofChange pendingPlaysWrong)

/-- 'sticklerlaw10.ChunksBytes': WHATEVER THE INPUT: true; the input reads as it did. -/
def chunksBytesSpec : ChangeSpec := { name := "chunksBytes", fn := fun _ => fun
  | [d1, d2] => { results := [.lit (.bool true)], args := [d1, d2] }
  | _ => none }
def chunksBytesRow : OpenClaim := { program := "ytopgcimjdlhclaa", sum := "815c5a9eabd8e6c970f318376a1bd7b93c9152c1400a4cb1793c1e7ae3133117", func := "stickler/sticklerlaw10.ChunksBytes", spec := "chunksBytes", unfollowed := true, recurses := true, apart := false }
def ChunksBytesSaid : Prop := chunksBytesRow.holds Try.pinned (OpenSpec.ofChange chunksBytesSpec)

/-- ITS FALSE NEIGHBOUR: 'it returns false'. Refute it at one input. -/
def chunksBytesWrong : ChangeSpec := { name := "chunksBytes", fn := fun _ => fun
  | [d1, d2] => { results := [.lit (.bool false)], args := [d1, d2] }
  | _ => none }
def ChunksBytesWrongFalsely : Prop := chunksBytesRow.holds Try.pinned (OpenSpec.ofChange chunksBytesWrong)

/- THE SECOND FORM. 'bulk': how many values and letters a reading holds, each counted each time it is reached (what is shared counts as often as it is met; a slice's spare places count too). A statement '..UptoSaid' is the law's where the arguments, and the package variables that the reading takes, are together of bulk at most 1048576: NARROWER than '..Said'. Prove '..Said' where nothing that the law and all that it calls make is longer than what came in: it says more and counts as full. Else prove '..UptoSaid'. A law counts once. -/
mutual
def uptoBulk {H : Type} : DataW H → Nat
  | .lit (.string bytes) => bytes.length + 1
  | .lit _ => 1
  | .nil => 1
  | .ptr d => uptoBulk d + 1
  | .slice elems spare => uptoBulkAll elems + uptoBulkAll spare + 1
  | .agg parts => uptoBulkAll parts + 1
  | .iface _ d => uptoBulk d + 1
  | .map entries => uptoBulkEntries entries + 1
  | .held _ => 1
def uptoBulkAll {H : Type} : List (DataW H) → Nat
  | [] => 0
  | d :: r => uptoBulk d + uptoBulkAll r
def uptoBulkEntries {H : Type} : List (Lit × DataW H) → Nat
  | [] => 0
  | x :: r => uptoBulkEntry x + uptoBulkEntries r
def uptoBulkEntry {H : Type} : Lit × DataW H → Nat
  | (.string bytes, d) => bytes.length + uptoBulk d + 1
  | (_, d) => uptoBulk d + 1
 end
def uptoSmall : (H : Type) → List (DataW H) → Bool := fun _ ds => decide (uptoBulkAll ds ≤ 1048576)
def OpenSpec.upto (s : _root_.Go.ChangeSpec) : _root_.Go.OpenSpec := { _root_.Go.OpenSpec.ofChange s with cond := some uptoSmall }

/-- 'sticklerlaw33.LifeAsks', WHERE WHAT IT READS IS OF BULK AT MOST 1048576: true; the input reads as it did. -/
def lifeAsksUptoRow : OpenClaim := { program := "ytopgcimjdlhclaa", sum := "815c5a9eabd8e6c970f318376a1bd7b93c9152c1400a4cb1793c1e7ae3133117", func := "stickler/sticklerlaw33.LifeAsks", spec := "lifeAsks", apart := false, narrowed := true }
def LifeAsksUptoSaid : Prop := lifeAsksUptoRow.holds Try.pinned (OpenSpec.upto lifeAsksSpec)

/-- 'sticklerlaw33.LifeGoes', WHERE WHAT IT READS IS OF BULK AT MOST 1048576: true; the input reads as it did. -/
def lifeGoesUptoRow : OpenClaim := { program := "ytopgcimjdlhclaa", sum := "815c5a9eabd8e6c970f318376a1bd7b93c9152c1400a4cb1793c1e7ae3133117", func := "stickler/sticklerlaw33.LifeGoes", spec := "lifeGoes", apart := false, narrowed := true }
def LifeGoesUptoSaid : Prop := lifeGoesUptoRow.holds Try.pinned (OpenSpec.upto lifeGoesSpec)

/-- 'sticklerlaw33.LifeFalls', WHERE WHAT IT READS IS OF BULK AT MOST 1048576: true; the input reads as it did. -/
def lifeFallsUptoRow : OpenClaim := { program := "ytopgcimjdlhclaa", sum := "815c5a9eabd8e6c970f318376a1bd7b93c9152c1400a4cb1793c1e7ae3133117", func := "stickler/sticklerlaw33.LifeFalls", spec := "lifeFalls", apart := false, narrowed := true }
def LifeFallsUptoSaid : Prop := lifeFallsUptoRow.holds Try.pinned (OpenSpec.upto lifeFallsSpec)

/-- 'sticklerlaw33.LifeKnows', WHERE WHAT IT READS IS OF BULK AT MOST 1048576: true; the input reads as it did. -/
def lifeKnowsUptoRow : OpenClaim := { program := "ytopgcimjdlhclaa", sum := "815c5a9eabd8e6c970f318376a1bd7b93c9152c1400a4cb1793c1e7ae3133117", func := "stickler/sticklerlaw33.LifeKnows", spec := "lifeKnows", apart := false, narrowed := true }
def LifeKnowsUptoSaid : Prop := lifeKnowsUptoRow.holds Try.pinned (OpenSpec.upto lifeKnowsSpec)

/-- 'sticklerlaw37.AwayTells', WHERE WHAT IT READS IS OF BULK AT MOST 1048576: true; the input reads as it did. -/
def awayTellsUptoRow : OpenClaim := { program := "ytopgcimjdlhclaa", sum := "815c5a9eabd8e6c970f318376a1bd7b93c9152c1400a4cb1793c1e7ae3133117", func := "stickler/sticklerlaw37.AwayTells", spec := "awayTells", apart := false, narrowed := true }
def AwayTellsUptoSaid : Prop := awayTellsUptoRow.holds Try.pinned (OpenSpec.upto awayTellsSpec)

/-- 'sticklerlaw31.WindowPlays', WHERE WHAT IT READS IS OF BULK AT MOST 1048576: true; the input reads as it did. -/
def windowPlaysUptoRow : OpenClaim := { program := "ytopgcimjdlhclaa", sum := "815c5a9eabd8e6c970f318376a1bd7b93c9152c1400a4cb1793c1e7ae3133117", func := "stickler/sticklerlaw31.WindowPlays", spec := "windowPlays", inPlace := ["math.Float64bits", "math.Float64frombits", "math.archTrunc"], apart := false, narrowed := true }
def WindowPlaysUptoSaid : Prop := windowPlaysUptoRow.holds Try.pinned (OpenSpec.upto windowPlaysSpec)

/-- 'sticklerlaw31.WindowShifts', WHERE WHAT IT READS IS OF BULK AT MOST 1048576: true; the input reads as it did. -/
def windowShiftsUptoRow : OpenClaim := { program := "ytopgcimjdlhclaa", sum := "815c5a9eabd8e6c970f318376a1bd7b93c9152c1400a4cb1793c1e7ae3133117", func := "stickler/sticklerlaw31.WindowShifts", spec := "windowShifts", inPlace := ["math.Float64bits", "math.Float64frombits", "math.archTrunc"], apart := false, narrowed := true }
def WindowShiftsUptoSaid : Prop := windowShiftsUptoRow.holds Try.pinned (OpenSpec.upto windowShiftsSpec)

/-- 'sticklerlaw31.WindowApart', WHERE WHAT IT READS IS OF BULK AT MOST 1048576: true; the input reads as it did. -/
def windowApartUptoRow : OpenClaim := { program := "ytopgcimjdlhclaa", sum := "815c5a9eabd8e6c970f318376a1bd7b93c9152c1400a4cb1793c1e7ae3133117", func := "stickler/sticklerlaw31.WindowApart", spec := "windowApart", inPlace := ["math.Float64bits", "math.Float64frombits", "math.archTrunc"], apart := false, narrowed := true }
def WindowApartUptoSaid : Prop := windowApartUptoRow.holds Try.pinned (OpenSpec.upto windowApartSpec)

/-- 'sticklerlaw32.PendingNobody', WHERE WHAT IT READS IS OF BULK AT MOST 1048576: true; the input reads as it did. -/
def pendingNobodyUptoRow : OpenClaim := { program := "ytopgcimjdlhclaa", sum := "815c5a9eabd8e6c970f318376a1bd7b93c9152c1400a4cb1793c1e7ae3133117", func := "stickler/sticklerlaw32.PendingNobody", spec := "pendingNobody", apart := false, narrowed := true }
def PendingNobodyUptoSaid : Prop := pendingNobodyUptoRow.holds Try.pinned (OpenSpec.upto pendingNobodySpec)

/-- 'sticklerlaw32.PendingBounds', WHERE WHAT IT READS IS OF BULK AT MOST 1048576: true; the input reads as it did. -/
def pendingBoundsUptoRow : OpenClaim := { program := "ytopgcimjdlhclaa", sum := "815c5a9eabd8e6c970f318376a1bd7b93c9152c1400a4cb1793c1e7ae3133117", func := "stickler/sticklerlaw32.PendingBounds", spec := "pendingBounds", apart := false, narrowed := true }
def PendingBoundsUptoSaid : Prop := pendingBoundsUptoRow.holds Try.pinned (OpenSpec.upto pendingBoundsSpec)

/-- 'sticklerlaw32.PendingPlays', WHERE WHAT IT READS IS OF BULK AT MOST 1048576: true; the input reads as it did. -/
def pendingPlaysUptoRow : OpenClaim := { program := "ytopgcimjdlhclaa", sum := "815c5a9eabd8e6c970f318376a1bd7b93c9152c1400a4cb1793c1e7ae3133117", func := "stickler/sticklerlaw32.PendingPlays", spec := "pendingPlays", apart := false, narrowed := true }
def PendingPlaysUptoSaid : Prop := pendingPlaysUptoRow.holds Try.pinned (OpenSpec.upto pendingPlaysSpec)

/-- 'sticklerlaw10.ChunksBytes', WHERE WHAT IT READS IS OF BULK AT MOST 1048576: true; the input reads as it did. -/
def chunksBytesUptoRow : OpenClaim := { program := "ytopgcimjdlhclaa", sum := "815c5a9eabd8e6c970f318376a1bd7b93c9152c1400a4cb1793c1e7ae3133117", func := "stickler/sticklerlaw10.ChunksBytes", spec := "chunksBytes", unfollowed := true, recurses := true, apart := false, narrowed := true }
def ChunksBytesUptoSaid : Prop := chunksBytesUptoRow.holds Try.pinned (OpenSpec.upto chunksBytesSpec)

end Rows
end Go.Proofs.Ytopgcimjdlhclaa
