/-
  No cell of these rows narrows 'for every input' (looked for: loops, veiled, ifaces, maps, wideKeys, modest, calm, conditions, laid).
  DERIVED. THE GIVEN ROWS OF THIS SEAT. 12 by the template 'for every input the law returns true; each argument reads behind the call as it read before'; 0 by the template 'total and deterministic' (their statements: YtkdldcmeiihbcaaTotals.lean).
  GIVEN WITH THE SEED: the statements are not yours to turn. If you find one false, say at which input.
  Laid BY PROGRAM, IN A SANDBOX (cutbox-rows.mjs): the forced cells as the released guide's own fill.sh prints them over the translation 2dc2212974c51070… (all of the seat's roots in one cut). By AI agents, Wed Nov 11 2026. No macro, syntax, notation, axiom, sorry.
-/
import Derived.Test.YtkdldcmeiihbcaaChecked
import GoSem.Claim
import GoSem.ClaimJoined
import GoSem.ClaimMapViews
import Derived.JoinedTies
import Derived.KernelRfl
namespace Go.Proofs.Ytkdldcmeiihbcaa
/- THE CELL 'sum', in the pinned program and in every row, IS THE sha256 OF THE DUMP (.gsa) THAT YtkdldcmeiihbcaaProg.lean LOADS. Nothing in Lean hashes anything: it is a label: what it is worth is what the hold of that sum in a sandbox is worth. -/
noncomputable def Try.pinned : Pinned := { name := "ytkdldcmeiihbcaa", sum := "2dc2212974c51070442cf198f0ac440f8a86a3f133128c1e27f667a0ef273e84", checked := Try.checked }
namespace Rows
def none {H : Type} : Left H := { results := [], args := [] }

/-- 'sticklerlaw10.ChunksBytes': WHATEVER THE INPUT: true; the input reads as it did. -/
def chunksBytesSpec : ChangeSpec := { name := "chunksBytes", fn := fun _ => fun
  | [d1, d2] => { results := [.lit (.bool true)], args := [d1, d2] }
  | _ => none }
def chunksBytesRow : OpenClaim := { program := "ytkdldcmeiihbcaa", sum := "2dc2212974c51070442cf198f0ac440f8a86a3f133128c1e27f667a0ef273e84", func := "stickler/sticklerlaw10.ChunksBytes", spec := "chunksBytes", unfollowed := true, recurses := true, apart := false }
def ChunksBytesSaid : Prop := chunksBytesRow.holds Try.pinned (OpenSpec.ofChange chunksBytesSpec)

/-- ITS FALSE NEIGHBOUR: 'it returns false'. Refute it at one input. -/
def chunksBytesWrong : ChangeSpec := { name := "chunksBytes", fn := fun _ => fun
  | [d1, d2] => { results := [.lit (.bool false)], args := [d1, d2] }
  | _ => none }
def ChunksBytesWrongFalsely : Prop := chunksBytesRow.holds Try.pinned (OpenSpec.ofChange chunksBytesWrong)

/-- 'sticklerlaw10.ChunksJoins': WHATEVER THE INPUT: true; the input reads as it did. -/
def chunksJoinsSpec : ChangeSpec := { name := "chunksJoins", fn := fun _ => fun
  | [d] => { results := [.lit (.bool true)], args := [d] }
  | _ => none }
def chunksJoinsRow : OpenClaim := { program := "ytkdldcmeiihbcaa", sum := "2dc2212974c51070442cf198f0ac440f8a86a3f133128c1e27f667a0ef273e84", func := "stickler/sticklerlaw10.ChunksJoins", spec := "chunksJoins", unfollowed := true, recurses := true, apart := false }
def ChunksJoinsSaid : Prop := chunksJoinsRow.holds Try.pinned (OpenSpec.ofChange chunksJoinsSpec)

/-- ITS FALSE NEIGHBOUR: 'it returns false'. Refute it at one input. -/
def chunksJoinsWrong : ChangeSpec := { name := "chunksJoins", fn := fun _ => fun
  | [d] => { results := [.lit (.bool false)], args := [d] }
  | _ => none }
def ChunksJoinsWrongFalsely : Prop := chunksJoinsRow.holds Try.pinned (OpenSpec.ofChange chunksJoinsWrong)

/-- 'sticklerlaw25.TokenNames': WHATEVER THE INPUT: true; the input reads as it did. -/
def tokenNamesSpec : ChangeSpec := { name := "tokenNames", fn := fun _ => fun
  | [d] => { results := [.lit (.bool true)], args := [d] }
  | _ => none }
def tokenNamesRow : OpenClaim := { program := "ytkdldcmeiihbcaa", sum := "2dc2212974c51070442cf198f0ac440f8a86a3f133128c1e27f667a0ef273e84", func := "stickler/sticklerlaw25.TokenNames", spec := "tokenNames", apart := false }
def TokenNamesSaid : Prop := tokenNamesRow.holds Try.pinned (OpenSpec.ofChange tokenNamesSpec)

/-- ITS FALSE NEIGHBOUR: 'it returns false'. Refute it at one input. -/
def tokenNamesWrong : ChangeSpec := { name := "tokenNames", fn := fun _ => fun
  | [d] => { results := [.lit (.bool false)], args := [d] }
  | _ => none }
def TokenNamesWrongFalsely : Prop := tokenNamesRow.holds Try.pinned (OpenSpec.ofChange tokenNamesWrong)

/-- 'sticklerlaw25.TokenValues': WHATEVER THE INPUT: true; the input reads as it did. -/
def tokenValuesSpec : ChangeSpec := { name := "tokenValues", fn := fun _ => fun
  | [d] => { results := [.lit (.bool true)], args := [d] }
  | _ => none }
def tokenValuesRow : OpenClaim := { program := "ytkdldcmeiihbcaa", sum := "2dc2212974c51070442cf198f0ac440f8a86a3f133128c1e27f667a0ef273e84", func := "stickler/sticklerlaw25.TokenValues", spec := "tokenValues", apart := false }
def TokenValuesSaid : Prop := tokenValuesRow.holds Try.pinned (OpenSpec.ofChange tokenValuesSpec)

/-- ITS FALSE NEIGHBOUR: 'it returns false'. Refute it at one input. -/
def tokenValuesWrong : ChangeSpec := { name := "tokenValues", fn := fun _ => fun
  | [d] => { results := [.lit (.bool false)], args := [d] }
  | _ => none }
def TokenValuesWrongFalsely : Prop := tokenValuesRow.holds Try.pinned (OpenSpec.ofChange tokenValuesWrong)

/-- 'sticklerlaw26.LengthTold': WHATEVER THE INPUT: true; the input reads as it did. -/
def lengthToldSpec : ChangeSpec := { name := "lengthTold", fn := fun _ => fun
  | [d] => { results := [.lit (.bool true)], args := [d] }
  | _ => none }
def lengthToldRow : OpenClaim := { program := "ytkdldcmeiihbcaa", sum := "2dc2212974c51070442cf198f0ac440f8a86a3f133128c1e27f667a0ef273e84", func := "stickler/sticklerlaw26.LengthTold", spec := "lengthTold", apart := false }
def LengthToldSaid : Prop := lengthToldRow.holds Try.pinned (OpenSpec.ofChange lengthToldSpec)

/-- ITS FALSE NEIGHBOUR: 'it returns false'. Refute it at one input. -/
def lengthToldWrong : ChangeSpec := { name := "lengthTold", fn := fun _ => fun
  | [d] => { results := [.lit (.bool false)], args := [d] }
  | _ => none }
def LengthToldWrongFalsely : Prop := lengthToldRow.holds Try.pinned (OpenSpec.ofChange lengthToldWrong)

/-- 'sticklerlaw26.LengthOthers': WHATEVER THE INPUT: true; the input reads as it did. -/
def lengthOthersSpec : ChangeSpec := { name := "lengthOthers", fn := fun _ => fun
  | [d1, d2, d3] => { results := [.lit (.bool true)], args := [d1, d2, d3] }
  | _ => none }
def lengthOthersRow : OpenClaim := { program := "ytkdldcmeiihbcaa", sum := "2dc2212974c51070442cf198f0ac440f8a86a3f133128c1e27f667a0ef273e84", func := "stickler/sticklerlaw26.LengthOthers", spec := "lengthOthers", apart := false }
def LengthOthersSaid : Prop := lengthOthersRow.holds Try.pinned (OpenSpec.ofChange lengthOthersSpec)

/-- ITS FALSE NEIGHBOUR: 'it returns false'. Refute it at one input. -/
def lengthOthersWrong : ChangeSpec := { name := "lengthOthers", fn := fun _ => fun
  | [d1, d2, d3] => { results := [.lit (.bool false)], args := [d1, d2, d3] }
  | _ => none }
def LengthOthersWrongFalsely : Prop := lengthOthersRow.holds Try.pinned (OpenSpec.ofChange lengthOthersWrong)

/-- 'sticklerlaw17.HuffEncodes': WHATEVER THE INPUT: true; the input reads as it did. -/
def huffEncodesSpec : ChangeSpec := { name := "huffEncodes", fn := fun _ => fun
  | [d] => { results := [.lit (.bool true)], args := [d] }
  | _ => none }
def huffEncodesRow : OpenClaim := { program := "ytkdldcmeiihbcaa", sum := "2dc2212974c51070442cf198f0ac440f8a86a3f133128c1e27f667a0ef273e84", func := "stickler/sticklerlaw17.HuffEncodes", spec := "huffEncodes", apart := false }
def HuffEncodesSaid : Prop := huffEncodesRow.holds Try.pinned (OpenSpec.ofChange huffEncodesSpec)

/-- ITS FALSE NEIGHBOUR: 'it returns false'. Refute it at one input. -/
def huffEncodesWrong : ChangeSpec := { name := "huffEncodes", fn := fun _ => fun
  | [d] => { results := [.lit (.bool false)], args := [d] }
  | _ => none }
def HuffEncodesWrongFalsely : Prop := huffEncodesRow.holds Try.pinned (OpenSpec.ofChange huffEncodesWrong)

/-- 'sticklerlaw17.HuffDecodes': WHATEVER THE INPUT: true; the input reads as it did. -/
def huffDecodesSpec : ChangeSpec := { name := "huffDecodes", fn := fun _ => fun
  | [d] => { results := [.lit (.bool true)], args := [d] }
  | _ => none }
def huffDecodesRow : OpenClaim := { program := "ytkdldcmeiihbcaa", sum := "2dc2212974c51070442cf198f0ac440f8a86a3f133128c1e27f667a0ef273e84", func := "stickler/sticklerlaw17.HuffDecodes", spec := "huffDecodes", apart := false }
def HuffDecodesSaid : Prop := huffDecodesRow.holds Try.pinned (OpenSpec.ofChange huffDecodesSpec)

/-- ITS FALSE NEIGHBOUR: 'it returns false'. Refute it at one input. -/
def huffDecodesWrong : ChangeSpec := { name := "huffDecodes", fn := fun _ => fun
  | [d] => { results := [.lit (.bool false)], args := [d] }
  | _ => none }
def HuffDecodesWrongFalsely : Prop := huffDecodesRow.holds Try.pinned (OpenSpec.ofChange huffDecodesWrong)

/-- 'sticklerlaw17.HuffBack': WHATEVER THE INPUT: true; the input reads as it did. -/
def huffBackSpec : ChangeSpec := { name := "huffBack", fn := fun _ => fun
  | [d1, d2] => { results := [.lit (.bool true)], args := [d1, d2] }
  | _ => none }
def huffBackRow : OpenClaim := { program := "ytkdldcmeiihbcaa", sum := "2dc2212974c51070442cf198f0ac440f8a86a3f133128c1e27f667a0ef273e84", func := "stickler/sticklerlaw17.HuffBack", spec := "huffBack", apart := false }
def HuffBackSaid : Prop := huffBackRow.holds Try.pinned (OpenSpec.ofChange huffBackSpec)

/-- ITS FALSE NEIGHBOUR: 'it returns false'. Refute it at one input. -/
def huffBackWrong : ChangeSpec := { name := "huffBack", fn := fun _ => fun
  | [d1, d2] => { results := [.lit (.bool false)], args := [d1, d2] }
  | _ => none }
def HuffBackWrongFalsely : Prop := huffBackRow.holds Try.pinned (OpenSpec.ofChange huffBackWrong)

/-- 'sticklerlaw21.DyntabPlays': WHATEVER THE INPUT: true; the input reads as it did. -/
def dyntabPlaysSpec : ChangeSpec := { name := "dyntabPlays", fn := fun _ => fun
  | [d1, d2] => { results := [.lit (.bool true)], args := [d1, d2] }
  | _ => none }
def dyntabPlaysRow : OpenClaim := { program := "ytkdldcmeiihbcaa", sum := "2dc2212974c51070442cf198f0ac440f8a86a3f133128c1e27f667a0ef273e84", func := "stickler/sticklerlaw21.DyntabPlays", spec := "dyntabPlays", apart := false }
def DyntabPlaysSaid : Prop := dyntabPlaysRow.holds Try.pinned (OpenSpec.ofChange dyntabPlaysSpec)

/-- ITS FALSE NEIGHBOUR: 'it returns false'. Refute it at one input. -/
def dyntabPlaysWrong : ChangeSpec := { name := "dyntabPlays", fn := fun _ => fun
  | [d1, d2] => { results := [.lit (.bool false)], args := [d1, d2] }
  | _ => none }
def DyntabPlaysWrongFalsely : Prop := dyntabPlaysRow.holds Try.pinned (OpenSpec.ofChange dyntabPlaysWrong)

/-- 'sticklerlaw21.DyntabBounds': WHATEVER THE INPUT: true; the input reads as it did. -/
def dyntabBoundsSpec : ChangeSpec := { name := "dyntabBounds", fn := fun _ => fun
  | [d1, d2] => { results := [.lit (.bool true)], args := [d1, d2] }
  | _ => none }
def dyntabBoundsRow : OpenClaim := { program := "ytkdldcmeiihbcaa", sum := "2dc2212974c51070442cf198f0ac440f8a86a3f133128c1e27f667a0ef273e84", func := "stickler/sticklerlaw21.DyntabBounds", spec := "dyntabBounds", apart := false }
def DyntabBoundsSaid : Prop := dyntabBoundsRow.holds Try.pinned (OpenSpec.ofChange dyntabBoundsSpec)

/-- ITS FALSE NEIGHBOUR: 'it returns false'. Refute it at one input. -/
def dyntabBoundsWrong : ChangeSpec := { name := "dyntabBounds", fn := fun _ => fun
  | [d1, d2] => { results := [.lit (.bool false)], args := [d1, d2] }
  | _ => none }
def DyntabBoundsWrongFalsely : Prop := dyntabBoundsRow.holds Try.pinned (OpenSpec.ofChange dyntabBoundsWrong)

/-- 'sticklerlaw21.DyntabCopies': WHATEVER THE INPUT: true; the input reads as it did. -/
def dyntabCopiesSpec : ChangeSpec := { name := "dyntabCopies", fn := fun _ => fun
  | [d1, d2] => { results := [.lit (.bool true)], args := [d1, d2] }
  | _ => none }
def dyntabCopiesRow : OpenClaim := { program := "ytkdldcmeiihbcaa", sum := "2dc2212974c51070442cf198f0ac440f8a86a3f133128c1e27f667a0ef273e84", func := "stickler/sticklerlaw21.DyntabCopies", spec := "dyntabCopies", apart := false }
def DyntabCopiesSaid : Prop := dyntabCopiesRow.holds Try.pinned (OpenSpec.ofChange dyntabCopiesSpec)

/-- ITS FALSE NEIGHBOUR: 'it returns false'. Refute it at one input. -/
def dyntabCopiesWrong : ChangeSpec := { name := "dyntabCopies", fn := fun _ => fun
  | [d1, d2] => { results := [.lit (.bool false)], args := [d1, d2] }
  | _ => none }
def DyntabCopiesWrongFalsely : Prop := dyntabCopiesRow.holds Try.pinned (OpenSpec.ofChange dyntabCopiesWrong)

/- THE SECOND FORM. 'bulk': how many values and letters a reading holds, each counted each time it is reached (what is shared counts as often as it is met; a slice's spare places count too). A statement '..UptoSaid' is the law's where the arguments, and the package variables that the reading takes, are together of bulk at most 1048576: NARROWER than '..Said'. Prove '..Said' where nothing that the law and all that it calls make is longer than what came in: it says more and counts as full. Else prove '..UptoSaid'. A law counts once. -/
mutual
def uptoBulk {H : Type} : DataW H → Nat
  | .lit (.string bytes) => bytes.length + 1
  | .lit _ => 1
  | .nil => 1
  | .ptr d => uptoBulk d + 1
  | .slice elems spare => uptoBulkAll elems + uptoBulkAll spare + 1
  | .agg parts => uptoBulkAll parts + 1
  | .iface _ d => uptoBulk d + 1
  | .map entries => uptoBulkEntries entries + 1
  | .held _ => 1
def uptoBulkAll {H : Type} : List (DataW H) → Nat
  | [] => 0
  | d :: r => uptoBulk d + uptoBulkAll r
def uptoBulkEntries {H : Type} : List (Lit × DataW H) → Nat
  | [] => 0
  | x :: r => uptoBulkEntry x + uptoBulkEntries r
def uptoBulkEntry {H : Type} : Lit × DataW H → Nat
  | (.string bytes, d) => bytes.length + uptoBulk d + 1
  | (_, d) => uptoBulk d + 1
 end
def uptoSmall : (H : Type) → List (DataW H) → Bool := fun _ ds => decide (uptoBulkAll ds ≤ 1048576)
def OpenSpec.upto (s : _root_.Go.ChangeSpec) : _root_.Go.OpenSpec := { _root_.Go.OpenSpec.ofChange s with cond := some uptoSmall }

/-- 'sticklerlaw10.ChunksBytes', WHERE WHAT IT READS IS OF BULK AT MOST 1048576: true; the input reads as it did. -/
def chunksBytesUptoRow : OpenClaim := { program := "ytkdldcmeiihbcaa", sum := "2dc2212974c51070442cf198f0ac440f8a86a3f133128c1e27f667a0ef273e84", func := "stickler/sticklerlaw10.ChunksBytes", spec := "chunksBytes", unfollowed := true, recurses := true, apart := false, narrowed := true }
def ChunksBytesUptoSaid : Prop := chunksBytesUptoRow.holds Try.pinned (OpenSpec.upto chunksBytesSpec)

/-- 'sticklerlaw10.ChunksJoins', WHERE WHAT IT READS IS OF BULK AT MOST 1048576: true; the input reads as it did. -/
def chunksJoinsUptoRow : OpenClaim := { program := "ytkdldcmeiihbcaa", sum := "2dc2212974c51070442cf198f0ac440f8a86a3f133128c1e27f667a0ef273e84", func := "stickler/sticklerlaw10.ChunksJoins", spec := "chunksJoins", unfollowed := true, recurses := true, apart := false, narrowed := true }
def ChunksJoinsUptoSaid : Prop := chunksJoinsUptoRow.holds Try.pinned (OpenSpec.upto chunksJoinsSpec)

/-- 'sticklerlaw25.TokenNames', WHERE WHAT IT READS IS OF BULK AT MOST 1048576: true; the input reads as it did. -/
def tokenNamesUptoRow : OpenClaim := { program := "ytkdldcmeiihbcaa", sum := "2dc2212974c51070442cf198f0ac440f8a86a3f133128c1e27f667a0ef273e84", func := "stickler/sticklerlaw25.TokenNames", spec := "tokenNames", apart := false, narrowed := true }
def TokenNamesUptoSaid : Prop := tokenNamesUptoRow.holds Try.pinned (OpenSpec.upto tokenNamesSpec)

/-- 'sticklerlaw25.TokenValues', WHERE WHAT IT READS IS OF BULK AT MOST 1048576: true; the input reads as it did. -/
def tokenValuesUptoRow : OpenClaim := { program := "ytkdldcmeiihbcaa", sum := "2dc2212974c51070442cf198f0ac440f8a86a3f133128c1e27f667a0ef273e84", func := "stickler/sticklerlaw25.TokenValues", spec := "tokenValues", apart := false, narrowed := true }
def TokenValuesUptoSaid : Prop := tokenValuesUptoRow.holds Try.pinned (OpenSpec.upto tokenValuesSpec)

/-- 'sticklerlaw26.LengthTold', WHERE WHAT IT READS IS OF BULK AT MOST 1048576: true; the input reads as it did. -/
def lengthToldUptoRow : OpenClaim := { program := "ytkdldcmeiihbcaa", sum := "2dc2212974c51070442cf198f0ac440f8a86a3f133128c1e27f667a0ef273e84", func := "stickler/sticklerlaw26.LengthTold", spec := "lengthTold", apart := false, narrowed := true }
def LengthToldUptoSaid : Prop := lengthToldUptoRow.holds Try.pinned (OpenSpec.upto lengthToldSpec)

/-- 'sticklerlaw26.LengthOthers', WHERE WHAT IT READS IS OF BULK AT MOST 1048576: true; the input reads as it did. -/
def lengthOthersUptoRow : OpenClaim := { program := "ytkdldcmeiihbcaa", sum := "2dc2212974c51070442cf198f0ac440f8a86a3f133128c1e27f667a0ef273e84", func := "stickler/sticklerlaw26.LengthOthers", spec := "lengthOthers", apart := false, narrowed := true }
def LengthOthersUptoSaid : Prop := lengthOthersUptoRow.holds Try.pinned (OpenSpec.upto lengthOthersSpec)

/-- 'sticklerlaw17.HuffEncodes', WHERE WHAT IT READS IS OF BULK AT MOST 1048576: true; the input reads as it did. -/
def huffEncodesUptoRow : OpenClaim := { program := "ytkdldcmeiihbcaa", sum := "2dc2212974c51070442cf198f0ac440f8a86a3f133128c1e27f667a0ef273e84", func := "stickler/sticklerlaw17.HuffEncodes", spec := "huffEncodes", apart := false, narrowed := true }
def HuffEncodesUptoSaid : Prop := huffEncodesUptoRow.holds Try.pinned (OpenSpec.upto huffEncodesSpec)

/-- 'sticklerlaw17.HuffDecodes', WHERE WHAT IT READS IS OF BULK AT MOST 1048576: true; the input reads as it did. -/
def huffDecodesUptoRow : OpenClaim := { program := "ytkdldcmeiihbcaa", sum := "2dc2212974c51070442cf198f0ac440f8a86a3f133128c1e27f667a0ef273e84", func := "stickler/sticklerlaw17.HuffDecodes", spec := "huffDecodes", apart := false, narrowed := true }
def HuffDecodesUptoSaid : Prop := huffDecodesUptoRow.holds Try.pinned (OpenSpec.upto huffDecodesSpec)

/-- 'sticklerlaw17.HuffBack', WHERE WHAT IT READS IS OF BULK AT MOST 1048576: true; the input reads as it did. -/
def huffBackUptoRow : OpenClaim := { program := "ytkdldcmeiihbcaa", sum := "2dc2212974c51070442cf198f0ac440f8a86a3f133128c1e27f667a0ef273e84", func := "stickler/sticklerlaw17.HuffBack", spec := "huffBack", apart := false, narrowed := true }
def HuffBackUptoSaid : Prop := huffBackUptoRow.holds Try.pinned (OpenSpec.upto huffBackSpec)

/-- 'sticklerlaw21.DyntabPlays', WHERE WHAT IT READS IS OF BULK AT MOST 1048576: true; the input reads as it did. -/
def dyntabPlaysUptoRow : OpenClaim := { program := "ytkdldcmeiihbcaa", sum := "2dc2212974c51070442cf198f0ac440f8a86a3f133128c1e27f667a0ef273e84", func := "stickler/sticklerlaw21.DyntabPlays", spec := "dyntabPlays", apart := false, narrowed := true }
def DyntabPlaysUptoSaid : Prop := dyntabPlaysUptoRow.holds Try.pinned (OpenSpec.upto dyntabPlaysSpec)

/-- 'sticklerlaw21.DyntabBounds', WHERE WHAT IT READS IS OF BULK AT MOST 1048576: true; the input reads as it did. -/
def dyntabBoundsUptoRow : OpenClaim := { program := "ytkdldcmeiihbcaa", sum := "2dc2212974c51070442cf198f0ac440f8a86a3f133128c1e27f667a0ef273e84", func := "stickler/sticklerlaw21.DyntabBounds", spec := "dyntabBounds", apart := false, narrowed := true }
def DyntabBoundsUptoSaid : Prop := dyntabBoundsUptoRow.holds Try.pinned (OpenSpec.upto dyntabBoundsSpec)

/-- 'sticklerlaw21.DyntabCopies', WHERE WHAT IT READS IS OF BULK AT MOST 1048576: true; the input reads as it did. -/
def dyntabCopiesUptoRow : OpenClaim := { program := "ytkdldcmeiihbcaa", sum := "2dc2212974c51070442cf198f0ac440f8a86a3f133128c1e27f667a0ef273e84", func := "stickler/sticklerlaw21.DyntabCopies", spec := "dyntabCopies", apart := false, narrowed := true }
def DyntabCopiesUptoSaid : Prop := dyntabCopiesUptoRow.holds Try.pinned (OpenSpec.upto dyntabCopiesSpec)

end Rows
end Go.Proofs.Ytkdldcmeiihbcaa
