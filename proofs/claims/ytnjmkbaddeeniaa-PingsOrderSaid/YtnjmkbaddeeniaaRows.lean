/-
  No cell of these rows narrows 'for every input' (looked for: loops, veiled, ifaces, maps, wideKeys, modest, calm, conditions, laid).
  DERIVED. THE GIVEN ROWS OF THIS SEAT. 12 by the template 'for every input the law returns true; each argument reads behind the call as it read before'; 0 by the template 'total and deterministic' (their statements: YtnjmkbaddeeniaaTotals.lean).
  GIVEN WITH THE SEED: the statements are not yours to turn. If you find one false, say at which input.
  Laid BY PROGRAM, IN A SANDBOX (cutbox-rows.mjs): the forced cells as the released guide's own fill.sh prints them over the translation 5f20670a8758d925… (all of the seat's roots in one cut). By AI agents, Wed Nov 11 2026. No macro, syntax, notation, axiom, sorry.
-/
import Derived.Test.YtnjmkbaddeeniaaChecked
import GoSem.Claim
import GoSem.ClaimJoined
import GoSem.ClaimMapViews
import Derived.JoinedTies
import Derived.KernelRfl
namespace Go.Proofs.Ytnjmkbaddeeniaa
/- THE CELL 'sum', in the pinned program and in every row, IS THE sha256 OF THE DUMP (.gsa) THAT YtnjmkbaddeeniaaProg.lean LOADS. Nothing in Lean hashes anything: it is a label: what it is worth is what the hold of that sum in a sandbox is worth. -/
noncomputable def Try.pinned : Pinned := { name := "ytnjmkbaddeeniaa", sum := "5f20670a8758d925b00464daea328e30212bdd0baa349991c6d3e9ad4b51422b", checked := Try.checked }
namespace Rows
def none {H : Type} : Left H := { results := [], args := [] }

/-- 'sticklerlaw10.ChunksJoins': WHATEVER THE INPUT: true; the input reads as it did. -/
def chunksJoinsSpec : ChangeSpec := { name := "chunksJoins", fn := fun _ => fun
  | [d] => { results := [.lit (.bool true)], args := [d] }
  | _ => none }
def chunksJoinsRow : OpenClaim := { program := "ytnjmkbaddeeniaa", sum := "5f20670a8758d925b00464daea328e30212bdd0baa349991c6d3e9ad4b51422b", func := "stickler/sticklerlaw10.ChunksJoins", spec := "chunksJoins", unfollowed := true, recurses := true, plainKeys := false, apart := false }
def ChunksJoinsSaid : Prop := chunksJoinsRow.holds Try.pinned (OpenSpec.ofChange chunksJoinsSpec)

/-- ITS FALSE NEIGHBOUR: 'it returns false'. Refute it at one input. -/
def chunksJoinsWrong : ChangeSpec := { name := "chunksJoins", fn := fun _ => fun
  | [d] => { results := [.lit (.bool false)], args := [d] }
  | _ => none }
def ChunksJoinsWrongFalsely : Prop := chunksJoinsRow.holds Try.pinned (OpenSpec.ofChange chunksJoinsWrong)

/-- 'sticklerlaw10.ChunksCuts': WHATEVER THE INPUT: true; the input reads as it did. -/
def chunksCutsSpec : ChangeSpec := { name := "chunksCuts", fn := fun _ => fun
  | [d1, d2] => { results := [.lit (.bool true)], args := [d1, d2] }
  | _ => none }
def chunksCutsRow : OpenClaim := { program := "ytnjmkbaddeeniaa", sum := "5f20670a8758d925b00464daea328e30212bdd0baa349991c6d3e9ad4b51422b", func := "stickler/sticklerlaw10.ChunksCuts", spec := "chunksCuts", unfollowed := true, recurses := true, plainKeys := false, apart := false }
def ChunksCutsSaid : Prop := chunksCutsRow.holds Try.pinned (OpenSpec.ofChange chunksCutsSpec)

/-- ITS FALSE NEIGHBOUR: 'it returns false'. Refute it at one input. -/
def chunksCutsWrong : ChangeSpec := { name := "chunksCuts", fn := fun _ => fun
  | [d1, d2] => { results := [.lit (.bool false)], args := [d1, d2] }
  | _ => none }
def ChunksCutsWrongFalsely : Prop := chunksCutsRow.holds Try.pinned (OpenSpec.ofChange chunksCutsWrong)

/-- 'sticklerlaw35.GraceFew': WHATEVER THE INPUT: true; the input reads as it did. -/
def graceFewSpec : ChangeSpec := { name := "graceFew", fn := fun _ => fun
  | [d1, d2] => { results := [.lit (.bool true)], args := [d1, d2] }
  | _ => none }
def graceFewRow : OpenClaim := { program := "ytnjmkbaddeeniaa", sum := "5f20670a8758d925b00464daea328e30212bdd0baa349991c6d3e9ad4b51422b", func := "stickler/sticklerlaw35.GraceFew", spec := "graceFew", plainKeys := false, apart := false }
def GraceFewSaid : Prop := graceFewRow.holds Try.pinned (OpenSpec.ofChange graceFewSpec)

/-- ITS FALSE NEIGHBOUR: 'it returns false'. Refute it at one input. -/
def graceFewWrong : ChangeSpec := { name := "graceFew", fn := fun _ => fun
  | [d1, d2] => { results := [.lit (.bool false)], args := [d1, d2] }
  | _ => none }
def GraceFewWrongFalsely : Prop := graceFewRow.holds Try.pinned (OpenSpec.ofChange graceFewWrong)

/-- 'sticklerlaw35.GraceMore': WHATEVER THE INPUT: true; the input reads as it did. -/
def graceMoreSpec : ChangeSpec := { name := "graceMore", fn := fun _ => fun
  | [d1, d2, d3] => { results := [.lit (.bool true)], args := [d1, d2, d3] }
  | _ => none }
def graceMoreRow : OpenClaim := { program := "ytnjmkbaddeeniaa", sum := "5f20670a8758d925b00464daea328e30212bdd0baa349991c6d3e9ad4b51422b", func := "stickler/sticklerlaw35.GraceMore", spec := "graceMore", plainKeys := false, apart := false }
def GraceMoreSaid : Prop := graceMoreRow.holds Try.pinned (OpenSpec.ofChange graceMoreSpec)

/-- ITS FALSE NEIGHBOUR: 'it returns false'. Refute it at one input. -/
def graceMoreWrong : ChangeSpec := { name := "graceMore", fn := fun _ => fun
  | [d1, d2, d3] => { results := [.lit (.bool false)], args := [d1, d2, d3] }
  | _ => none }
def GraceMoreWrongFalsely : Prop := graceMoreRow.holds Try.pinned (OpenSpec.ofChange graceMoreWrong)

/-- 'sticklerlaw27.PseudoOne': WHATEVER THE INPUT: true; the input reads as it did. -/
def pseudoOneSpec : ChangeSpec := { name := "pseudoOne", fn := fun _ => fun
  | [d1, d2] => { results := [.lit (.bool true)], args := [d1, d2] }
  | _ => none }
def pseudoOneRow : OpenClaim := { program := "ytnjmkbaddeeniaa", sum := "5f20670a8758d925b00464daea328e30212bdd0baa349991c6d3e9ad4b51422b", func := "stickler/sticklerlaw27.PseudoOne", spec := "pseudoOne", plainKeys := false, apart := false }
def PseudoOneSaid : Prop := pseudoOneRow.holds Try.pinned (OpenSpec.ofChange pseudoOneSpec)

/-- ITS FALSE NEIGHBOUR: 'it returns false'. Refute it at one input. -/
def pseudoOneWrong : ChangeSpec := { name := "pseudoOne", fn := fun _ => fun
  | [d1, d2] => { results := [.lit (.bool false)], args := [d1, d2] }
  | _ => none }
def PseudoOneWrongFalsely : Prop := pseudoOneRow.holds Try.pinned (OpenSpec.ofChange pseudoOneWrong)

/-- 'sticklerlaw27.PseudoRequests': WHATEVER THE INPUT: true; the input reads as it did. -/
def pseudoRequestsSpec : ChangeSpec := { name := "pseudoRequests", fn := fun _ => fun
  | [d] => { results := [.lit (.bool true)], args := [d] }
  | _ => none }
def pseudoRequestsRow : OpenClaim := { program := "ytnjmkbaddeeniaa", sum := "5f20670a8758d925b00464daea328e30212bdd0baa349991c6d3e9ad4b51422b", func := "stickler/sticklerlaw27.PseudoRequests", spec := "pseudoRequests", plainKeys := false, apart := false }
def PseudoRequestsSaid : Prop := pseudoRequestsRow.holds Try.pinned (OpenSpec.ofChange pseudoRequestsSpec)

/-- ITS FALSE NEIGHBOUR: 'it returns false'. Refute it at one input. -/
def pseudoRequestsWrong : ChangeSpec := { name := "pseudoRequests", fn := fun _ => fun
  | [d] => { results := [.lit (.bool false)], args := [d] }
  | _ => none }
def PseudoRequestsWrongFalsely : Prop := pseudoRequestsRow.holds Try.pinned (OpenSpec.ofChange pseudoRequestsWrong)

/-- 'sticklerlaw27.PseudoResponses': WHATEVER THE INPUT: true; the input reads as it did. -/
def pseudoResponsesSpec : ChangeSpec := { name := "pseudoResponses", fn := fun _ => fun
  | [d] => { results := [.lit (.bool true)], args := [d] }
  | _ => none }
def pseudoResponsesRow : OpenClaim := { program := "ytnjmkbaddeeniaa", sum := "5f20670a8758d925b00464daea328e30212bdd0baa349991c6d3e9ad4b51422b", func := "stickler/sticklerlaw27.PseudoResponses", spec := "pseudoResponses", plainKeys := false, apart := false }
def PseudoResponsesSaid : Prop := pseudoResponsesRow.holds Try.pinned (OpenSpec.ofChange pseudoResponsesSpec)

/-- ITS FALSE NEIGHBOUR: 'it returns false'. Refute it at one input. -/
def pseudoResponsesWrong : ChangeSpec := { name := "pseudoResponses", fn := fun _ => fun
  | [d] => { results := [.lit (.bool false)], args := [d] }
  | _ => none }
def PseudoResponsesWrongFalsely : Prop := pseudoResponsesRow.holds Try.pinned (OpenSpec.ofChange pseudoResponsesWrong)

/-- 'sticklerlaw32.PendingBounds': WHATEVER THE INPUT: true; the input reads as it did. -/
def pendingBoundsSpec : ChangeSpec := { name := "pendingBounds", fn := fun _ => fun
  | [d] => { results := [.lit (.bool true)], args := [d] }
  | _ => none }
def pendingBoundsRow : OpenClaim := { program := "ytnjmkbaddeeniaa", sum := "5f20670a8758d925b00464daea328e30212bdd0baa349991c6d3e9ad4b51422b", func := "stickler/sticklerlaw32.PendingBounds", spec := "pendingBounds", plainKeys := false, apart := false }
def PendingBoundsSaid : Prop := pendingBoundsRow.holds Try.pinned (OpenSpec.ofChange pendingBoundsSpec)

/-- ITS FALSE NEIGHBOUR: 'it returns false'. Refute it at one input. -/
def pendingBoundsWrong : ChangeSpec := { name := "pendingBounds", fn := fun _ => fun
  | [d] => { results := [.lit (.bool false)], args := [d] }
  | _ => none }
def PendingBoundsWrongFalsely : Prop := pendingBoundsRow.holds Try.pinned (OpenSpec.ofChange pendingBoundsWrong)

/-- 'sticklerlaw32.PendingNobody': WHATEVER THE INPUT: true; the input reads as it did. -/
def pendingNobodySpec : ChangeSpec := { name := "pendingNobody", fn := fun _ => fun
  | [d] => { results := [.lit (.bool true)], args := [d] }
  | _ => none }
def pendingNobodyRow : OpenClaim := { program := "ytnjmkbaddeeniaa", sum := "5f20670a8758d925b00464daea328e30212bdd0baa349991c6d3e9ad4b51422b", func := "stickler/sticklerlaw32.PendingNobody", spec := "pendingNobody", plainKeys := false, apart := false }
def PendingNobodySaid : Prop := pendingNobodyRow.holds Try.pinned (OpenSpec.ofChange pendingNobodySpec)

/-- ITS FALSE NEIGHBOUR: 'it returns false'. Refute it at one input. -/
def pendingNobodyWrong : ChangeSpec := { name := "pendingNobody", fn := fun _ => fun
  | [d] => { results := [.lit (.bool false)], args := [d] }
  | _ => none }
def PendingNobodyWrongFalsely : Prop := pendingNobodyRow.holds Try.pinned (OpenSpec.ofChange pendingNobodyWrong)

/-- 'sticklerlaw34.RosterNobody': WHATEVER THE INPUT: true; the input reads as it did. -/
def rosterNobodySpec : ChangeSpec := { name := "rosterNobody", fn := fun _ => fun
  | [d1, d2] => { results := [.lit (.bool true)], args := [d1, d2] }
  | _ => none }
def rosterNobodyRow : OpenClaim := { program := "ytnjmkbaddeeniaa", sum := "5f20670a8758d925b00464daea328e30212bdd0baa349991c6d3e9ad4b51422b", func := "stickler/sticklerlaw34.RosterNobody", spec := "rosterNobody", plainKeys := false, apart := false }
def RosterNobodySaid : Prop := rosterNobodyRow.holds Try.pinned (OpenSpec.ofChange rosterNobodySpec)

/-- ITS FALSE NEIGHBOUR: 'it returns false'. Refute it at one input. -/
def rosterNobodyWrong : ChangeSpec := { name := "rosterNobody", fn := fun _ => fun
  | [d1, d2] => { results := [.lit (.bool false)], args := [d1, d2] }
  | _ => none }
def RosterNobodyWrongFalsely : Prop := rosterNobodyRow.holds Try.pinned (OpenSpec.ofChange rosterNobodyWrong)

/-- 'sticklerlaw30.BlockNobody': WHATEVER THE INPUT: true; the input reads as it did. -/
def blockNobodySpec : ChangeSpec := { name := "blockNobody", fn := fun _ => fun
  | [d] => { results := [.lit (.bool true)], args := [d] }
  | _ => none }
def blockNobodyRow : OpenClaim := { program := "ytnjmkbaddeeniaa", sum := "5f20670a8758d925b00464daea328e30212bdd0baa349991c6d3e9ad4b51422b", func := "stickler/sticklerlaw30.BlockNobody", spec := "blockNobody", plainKeys := false, apart := false }
def BlockNobodySaid : Prop := blockNobodyRow.holds Try.pinned (OpenSpec.ofChange blockNobodySpec)

/-- ITS FALSE NEIGHBOUR: 'it returns false'. Refute it at one input. -/
def blockNobodyWrong : ChangeSpec := { name := "blockNobody", fn := fun _ => fun
  | [d] => { results := [.lit (.bool false)], args := [d] }
  | _ => none }
def BlockNobodyWrongFalsely : Prop := blockNobodyRow.holds Try.pinned (OpenSpec.ofChange blockNobodyWrong)

/-- 'sticklerlaw36.PingsOrder': WHATEVER THE INPUT: true; the input reads as it did. -/
def pingsOrderSpec : ChangeSpec := { name := "pingsOrder", fn := fun _ => fun
  | [d1, d2] => { results := [.lit (.bool true)], args := [d1, d2] }
  | _ => none }
def pingsOrderRow : OpenClaim := { program := "ytnjmkbaddeeniaa", sum := "5f20670a8758d925b00464daea328e30212bdd0baa349991c6d3e9ad4b51422b", func := "stickler/sticklerlaw36.PingsOrder", spec := "pingsOrder", plainKeys := false, apart := false }
def PingsOrderSaid : Prop := pingsOrderRow.holds Try.pinned (OpenSpec.ofChange pingsOrderSpec)

/-- ITS FALSE NEIGHBOUR: 'it returns false'. Refute it at one input. -/
def pingsOrderWrong : ChangeSpec := { name := "pingsOrder", fn := fun _ => fun
  | [d1, d2] => { results := [.lit (.bool false)], args := [d1, d2] }
  | _ => none }
def PingsOrderWrongFalsely : Prop := pingsOrderRow.holds Try.pinned (OpenSpec.ofChange pingsOrderWrong)

/- THE SECOND FORM. 'bulk': how many values and letters a reading holds, each counted each time it is reached (what is shared counts as often as it is met; a slice's spare places count too). A statement '..UptoSaid' is the law's where the arguments, and the package variables that the reading takes, are together of bulk at most 1048576: NARROWER than '..Said'. Prove '..Said' where nothing that the law and all that it calls make is longer than what came in: it says more and counts as full. Else prove '..UptoSaid'. A law counts once. -/
mutual
def uptoBulk {H : Type} : DataW H → Nat
  | .lit (.string bytes) => bytes.length + 1
  | .lit _ => 1
  | .nil => 1
  | .ptr d => uptoBulk d + 1
  | .slice elems spare => uptoBulkAll elems + uptoBulkAll spare + 1
  | .agg parts => uptoBulkAll parts + 1
  | .iface _ d => uptoBulk d + 1
  | .map entries => uptoBulkEntries entries + 1
  | .held _ => 1
def uptoBulkAll {H : Type} : List (DataW H) → Nat
  | [] => 0
  | d :: r => uptoBulk d + uptoBulkAll r
def uptoBulkEntries {H : Type} : List (Lit × DataW H) → Nat
  | [] => 0
  | x :: r => uptoBulkEntry x + uptoBulkEntries r
def uptoBulkEntry {H : Type} : Lit × DataW H → Nat
  | (.string bytes, d) => bytes.length + uptoBulk d + 1
  | (_, d) => uptoBulk d + 1
 end
def uptoSmall : (H : Type) → List (DataW H) → Bool := fun _ ds => decide (uptoBulkAll ds ≤ 1048576)
def OpenSpec.upto (s : _root_.Go.ChangeSpec) : _root_.Go.OpenSpec := { _root_.Go.OpenSpec.ofChange s with cond := some uptoSmall }

/-- 'sticklerlaw10.ChunksJoins', WHERE WHAT IT READS IS OF BULK AT MOST 1048576: true; the input reads as it did. -/
def chunksJoinsUptoRow : OpenClaim := { program := "ytnjmkbaddeeniaa", sum := "5f20670a8758d925b00464daea328e30212bdd0baa349991c6d3e9ad4b51422b", func := "stickler/sticklerlaw10.ChunksJoins", spec := "chunksJoins", unfollowed := true, recurses := true, plainKeys := false, apart := false, narrowed := true }
def ChunksJoinsUptoSaid : Prop := chunksJoinsUptoRow.holds Try.pinned (OpenSpec.upto chunksJoinsSpec)

/-- 'sticklerlaw10.ChunksCuts', WHERE WHAT IT READS IS OF BULK AT MOST 1048576: true; the input reads as it did. -/
def chunksCutsUptoRow : OpenClaim := { program := "ytnjmkbaddeeniaa", sum := "5f20670a8758d925b00464daea328e30212bdd0baa349991c6d3e9ad4b51422b", func := "stickler/sticklerlaw10.ChunksCuts", spec := "chunksCuts", unfollowed := true, recurses := true, plainKeys := false, apart := false, narrowed := true }
def ChunksCutsUptoSaid : Prop := chunksCutsUptoRow.holds Try.pinned (OpenSpec.upto chunksCutsSpec)

/-- 'sticklerlaw35.GraceFew', WHERE WHAT IT READS IS OF BULK AT MOST 1048576: true; the input reads as it did. -/
def graceFewUptoRow : OpenClaim := { program := "ytnjmkbaddeeniaa", sum := "5f20670a8758d925b00464daea328e30212bdd0baa349991c6d3e9ad4b51422b", func := "stickler/sticklerlaw35.GraceFew", spec := "graceFew", plainKeys := false, apart := false, narrowed := true }
def GraceFewUptoSaid : Prop := graceFewUptoRow.holds Try.pinned (OpenSpec.upto graceFewSpec)

/-- 'sticklerlaw35.GraceMore', WHERE WHAT IT READS IS OF BULK AT MOST 1048576: true; the input reads as it did. -/
def graceMoreUptoRow : OpenClaim := { program := "ytnjmkbaddeeniaa", sum := "5f20670a8758d925b00464daea328e30212bdd0baa349991c6d3e9ad4b51422b", func := "stickler/sticklerlaw35.GraceMore", spec := "graceMore", plainKeys := false, apart := false, narrowed := true }
def GraceMoreUptoSaid : Prop := graceMoreUptoRow.holds Try.pinned (OpenSpec.upto graceMoreSpec)

/-- 'sticklerlaw27.PseudoOne', WHERE WHAT IT READS IS OF BULK AT MOST 1048576: true; the input reads as it did. -/
def pseudoOneUptoRow : OpenClaim := { program := "ytnjmkbaddeeniaa", sum := "5f20670a8758d925b00464daea328e30212bdd0baa349991c6d3e9ad4b51422b", func := "stickler/sticklerlaw27.PseudoOne", spec := "pseudoOne", plainKeys := false, apart := false, narrowed := true }
def PseudoOneUptoSaid : Prop := pseudoOneUptoRow.holds Try.pinned (OpenSpec.upto pseudoOneSpec)

/-- 'sticklerlaw27.PseudoRequests', WHERE WHAT IT READS IS OF BULK AT MOST 1048576: true; the input reads as it did. -/
def pseudoRequestsUptoRow : OpenClaim := { program := "ytnjmkbaddeeniaa", sum := "5f20670a8758d925b00464daea328e30212bdd0baa349991c6d3e9ad4b51422b", func := "stickler/sticklerlaw27.PseudoRequests", spec := "pseudoRequests", plainKeys := false, apart := false, narrowed := true }
def PseudoRequestsUptoSaid : Prop := pseudoRequestsUptoRow.holds Try.pinned (OpenSpec.upto pseudoRequestsSpec)

/-- 'sticklerlaw27.PseudoResponses', WHERE WHAT IT READS IS OF BULK AT MOST 1048576: true; the input reads as it did. -/
def pseudoResponsesUptoRow : OpenClaim := { program := "ytnjmkbaddeeniaa", sum := "5f20670a8758d925b00464daea328e30212bdd0baa349991c6d3e9ad4b51422b", func := "stickler/sticklerlaw27.PseudoResponses", spec := "pseudoResponses", plainKeys := false, apart := false, narrowed := true }
def PseudoResponsesUptoSaid : Prop := pseudoResponsesUptoRow.holds Try.pinned (OpenSpec.upto pseudoResponsesSpec)

/-- 'sticklerlaw32.PendingBounds', WHERE WHAT IT READS IS OF BULK AT MOST 1048576: true; the input reads as it did. -/
def pendingBoundsUptoRow : OpenClaim := { program := "ytnjmkbaddeeniaa", sum := "5f20670a8758d925b00464daea328e30212bdd0baa349991c6d3e9ad4b51422b", func := "stickler/sticklerlaw32.PendingBounds", spec := "pendingBounds", plainKeys := false, apart := false, narrowed := true }
def PendingBoundsUptoSaid : Prop := pendingBoundsUptoRow.holds Try.pinned (OpenSpec.upto pendingBoundsSpec)

/-- 'sticklerlaw32.PendingNobody', WHERE WHAT IT READS IS OF BULK AT MOST 1048576: true; the input reads as it did. -/
def pendingNobodyUptoRow : OpenClaim := { program := "ytnjmkbaddeeniaa", sum := "5f20670a8758d925b00464daea328e30212bdd0baa349991c6d3e9ad4b51422b", func := "stickler/sticklerlaw32.PendingNobody", spec := "pendingNobody", plainKeys := false, apart := false, narrowed := true }
def PendingNobodyUptoSaid : Prop := pendingNobodyUptoRow.holds Try.pinned (OpenSpec.upto pendingNobodySpec)

/-- 'sticklerlaw34.RosterNobody', WHERE WHAT IT READS IS OF BULK AT MOST 1048576: true; the input reads as it did. -/
def rosterNobodyUptoRow : OpenClaim := { program := "ytnjmkbaddeeniaa", sum := "5f20670a8758d925b00464daea328e30212bdd0baa349991c6d3e9ad4b51422b", func := "stickler/sticklerlaw34.RosterNobody", spec := "rosterNobody", plainKeys := false, apart := false, narrowed := true }
def RosterNobodyUptoSaid : Prop := rosterNobodyUptoRow.holds Try.pinned (OpenSpec.upto rosterNobodySpec)

/-- 'sticklerlaw30.BlockNobody', WHERE WHAT IT READS IS OF BULK AT MOST 1048576: true; the input reads as it did. -/
def blockNobodyUptoRow : OpenClaim := { program := "ytnjmkbaddeeniaa", sum := "5f20670a8758d925b00464daea328e30212bdd0baa349991c6d3e9ad4b51422b", func := "stickler/sticklerlaw30.BlockNobody", spec := "blockNobody", plainKeys := false, apart := false, narrowed := true }
def BlockNobodyUptoSaid : Prop := blockNobodyUptoRow.holds Try.pinned (OpenSpec.upto blockNobodySpec)

/-- 'sticklerlaw36.PingsOrder', WHERE WHAT IT READS IS OF BULK AT MOST 1048576: true; the input reads as it did. -/
def pingsOrderUptoRow : OpenClaim := { program := "ytnjmkbaddeeniaa", sum := "5f20670a8758d925b00464daea328e30212bdd0baa349991c6d3e9ad4b51422b", func := "stickler/sticklerlaw36.PingsOrder", spec := "pingsOrder", plainKeys := false, apart := false, narrowed := true }
def PingsOrderUptoSaid : Prop := pingsOrderUptoRow.holds Try.pinned (OpenSpec.upto pingsOrderSpec)

end Rows
end Go.Proofs.Ytnjmkbaddeeniaa
