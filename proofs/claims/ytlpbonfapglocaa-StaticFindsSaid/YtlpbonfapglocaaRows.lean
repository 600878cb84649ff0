/-
  No cell of these rows narrows 'for every input' (looked for: loops, veiled, ifaces, maps, wideKeys, modest, calm, conditions, laid).
  DERIVED. THE GIVEN ROWS OF THIS SEAT. 12 by the template 'for every input the law returns true; each argument reads behind the call as it read before'; 0 by the template 'total and deterministic' (their statements: YtlpbonfapglocaaTotals.lean).
  GIVEN WITH THE SEED: the statements are not yours to turn. If you find one false, say at which input.
  Laid BY PROGRAM, IN A SANDBOX (cutbox-rows.mjs): the forced cells as the released guide's own fill.sh prints them over the translation 343f152086ef65bf… (all of the seat's roots in one cut). By AI agents, Wed Nov 11 2026. No macro, syntax, notation, axiom, sorry.
-/
import Derived.Test.YtlpbonfapglocaaChecked
import GoSem.Claim
import GoSem.ClaimJoined
import GoSem.ClaimMapViews
import Derived.JoinedTies
import Derived.KernelRfl
namespace Go.Proofs.Ytlpbonfapglocaa
/- THE CELL 'sum', in the pinned program and in every row, IS THE sha256 OF THE DUMP (.gsa) THAT YtlpbonfapglocaaProg.lean LOADS. Nothing in Lean hashes anything: it is a label: what it is worth is what the hold of that sum in a sandbox is worth. -/
noncomputable def Try.pinned : Pinned := { name := "ytlpbonfapglocaa", sum := "343f152086ef65bfd14ee38a4c2bf90d6c4d2a7b71f751650cb18d9dd793eeba", checked := Try.checked }
namespace Rows
def none {H : Type} : Left H := { results := [], args := [] }

/-- 'sticklerlaw13.SettingApplies': WHATEVER THE INPUT: true; the input reads as it did. -/
def settingAppliesSpec : ChangeSpec := { name := "settingApplies", fn := fun _ => fun
  | [d1, d2, d3] => { results := [.lit (.bool true)], args := [d1, d2, d3] }
  | _ => none }
def settingAppliesRow : OpenClaim := { program := "ytlpbonfapglocaa", sum := "343f152086ef65bfd14ee38a4c2bf90d6c4d2a7b71f751650cb18d9dd793eeba", func := "stickler/sticklerlaw13.SettingApplies", spec := "settingApplies", apart := false }
def SettingAppliesSaid : Prop := settingAppliesRow.holds Try.pinned (OpenSpec.ofChange settingAppliesSpec)

/-- ITS FALSE NEIGHBOUR: 'it returns false'. Refute it at one input. -/
def settingAppliesWrong : ChangeSpec := { name := "settingApplies", fn := fun _ => fun
  | [d1, d2, d3] => { results := [.lit (.bool false)], args := [d1, d2, d3] }
  | _ => none }
def SettingAppliesWrongFalsely : Prop := settingAppliesRow.holds Try.pinned (OpenSpec.ofChange settingAppliesWrong)

/-- 'sticklerlaw18.PrefixPuts': WHATEVER THE INPUT: true; the input reads as it did. -/
def prefixPutsSpec : ChangeSpec := { name := "prefixPuts", fn := fun _ => fun
  | [d1, d2, d3] => { results := [.lit (.bool true)], args := [d1, d2, d3] }
  | _ => none }
def prefixPutsRow : OpenClaim := { program := "ytlpbonfapglocaa", sum := "343f152086ef65bfd14ee38a4c2bf90d6c4d2a7b71f751650cb18d9dd793eeba", func := "stickler/sticklerlaw18.PrefixPuts", spec := "prefixPuts", recurses := true, apart := false }
def PrefixPutsSaid : Prop := prefixPutsRow.holds Try.pinned (OpenSpec.ofChange prefixPutsSpec)

/-- ITS FALSE NEIGHBOUR: 'it returns false'. Refute it at one input. -/
def prefixPutsWrong : ChangeSpec := { name := "prefixPuts", fn := fun _ => fun
  | [d1, d2, d3] => { results := [.lit (.bool false)], args := [d1, d2, d3] }
  | _ => none }
def PrefixPutsWrongFalsely : Prop := prefixPutsRow.holds Try.pinned (OpenSpec.ofChange prefixPutsWrong)

/-- 'sticklerlaw18.PrefixGets': WHATEVER THE INPUT: true; the input reads as it did. -/
def prefixGetsSpec : ChangeSpec := { name := "prefixGets", fn := fun _ => fun
  | [d1, d2] => { results := [.lit (.bool true)], args := [d1, d2] }
  | _ => none }
def prefixGetsRow : OpenClaim := { program := "ytlpbonfapglocaa", sum := "343f152086ef65bfd14ee38a4c2bf90d6c4d2a7b71f751650cb18d9dd793eeba", func := "stickler/sticklerlaw18.PrefixGets", spec := "prefixGets", apart := false }
def PrefixGetsSaid : Prop := prefixGetsRow.holds Try.pinned (OpenSpec.ofChange prefixGetsSpec)

/-- ITS FALSE NEIGHBOUR: 'it returns false'. Refute it at one input. -/
def prefixGetsWrong : ChangeSpec := { name := "prefixGets", fn := fun _ => fun
  | [d1, d2] => { results := [.lit (.bool false)], args := [d1, d2] }
  | _ => none }
def PrefixGetsWrongFalsely : Prop := prefixGetsRow.holds Try.pinned (OpenSpec.ofChange prefixGetsWrong)

/-- 'sticklerlaw18.PrefixBack': WHATEVER THE INPUT: true; the input reads as it did. -/
def prefixBackSpec : ChangeSpec := { name := "prefixBack", fn := fun _ => fun
  | [d1, d2] => { results := [.lit (.bool true)], args := [d1, d2] }
  | _ => none }
def prefixBackRow : OpenClaim := { program := "ytlpbonfapglocaa", sum := "343f152086ef65bfd14ee38a4c2bf90d6c4d2a7b71f751650cb18d9dd793eeba", func := "stickler/sticklerlaw18.PrefixBack", spec := "prefixBack", apart := false }
def PrefixBackSaid : Prop := prefixBackRow.holds Try.pinned (OpenSpec.ofChange prefixBackSpec)

/-- ITS FALSE NEIGHBOUR: 'it returns false'. Refute it at one input. -/
def prefixBackWrong : ChangeSpec := { name := "prefixBack", fn := fun _ => fun
  | [d1, d2] => { results := [.lit (.bool false)], args := [d1, d2] }
  | _ => none }
def PrefixBackWrongFalsely : Prop := prefixBackRow.holds Try.pinned (OpenSpec.ofChange prefixBackWrong)

/-- 'sticklerlaw16.CodebookNobody': WHATEVER THE INPUT: true; the input reads as it did. -/
def codebookNobodySpec : ChangeSpec := { name := "codebookNobody", fn := fun _ => fun
  | [d1, d2] => { results := [.lit (.bool true)], args := [d1, d2] }
  | _ => none }
def codebookNobodyRow : OpenClaim := { program := "ytlpbonfapglocaa", sum := "343f152086ef65bfd14ee38a4c2bf90d6c4d2a7b71f751650cb18d9dd793eeba", func := "stickler/sticklerlaw16.CodebookNobody", spec := "codebookNobody", apart := false }
def CodebookNobodySaid : Prop := codebookNobodyRow.holds Try.pinned (OpenSpec.ofChange codebookNobodySpec)

/-- ITS FALSE NEIGHBOUR: 'it returns false'. Refute it at one input. -/
def codebookNobodyWrong : ChangeSpec := { name := "codebookNobody", fn := fun _ => fun
  | [d1, d2] => { results := [.lit (.bool false)], args := [d1, d2] }
  | _ => none }
def CodebookNobodyWrongFalsely : Prop := codebookNobodyRow.holds Try.pinned (OpenSpec.ofChange codebookNobodyWrong)

/-- 'sticklerlaw16.CodebookFinds': WHATEVER THE INPUT: true; the input reads as it did. -/
def codebookFindsSpec : ChangeSpec := { name := "codebookFinds", fn := fun _ => fun
  | [d1, d2] => { results := [.lit (.bool true)], args := [d1, d2] }
  | _ => none }
def codebookFindsRow : OpenClaim := { program := "ytlpbonfapglocaa", sum := "343f152086ef65bfd14ee38a4c2bf90d6c4d2a7b71f751650cb18d9dd793eeba", func := "stickler/sticklerlaw16.CodebookFinds", spec := "codebookFinds", apart := false }
def CodebookFindsSaid : Prop := codebookFindsRow.holds Try.pinned (OpenSpec.ofChange codebookFindsSpec)

/-- ITS FALSE NEIGHBOUR: 'it returns false'. Refute it at one input. -/
def codebookFindsWrong : ChangeSpec := { name := "codebookFinds", fn := fun _ => fun
  | [d1, d2] => { results := [.lit (.bool false)], args := [d1, d2] }
  | _ => none }
def CodebookFindsWrongFalsely : Prop := codebookFindsRow.holds Try.pinned (OpenSpec.ofChange codebookFindsWrong)

/-- 'sticklerlaw16.CodebookOne': WHATEVER THE INPUT: true; the input reads as it did. -/
def codebookOneSpec : ChangeSpec := { name := "codebookOne", fn := fun _ => fun
  | [d] => { results := [.lit (.bool true)], args := [d] }
  | _ => none }
def codebookOneRow : OpenClaim := { program := "ytlpbonfapglocaa", sum := "343f152086ef65bfd14ee38a4c2bf90d6c4d2a7b71f751650cb18d9dd793eeba", func := "stickler/sticklerlaw16.CodebookOne", spec := "codebookOne", apart := false }
def CodebookOneSaid : Prop := codebookOneRow.holds Try.pinned (OpenSpec.ofChange codebookOneSpec)

/-- ITS FALSE NEIGHBOUR: 'it returns false'. Refute it at one input. -/
def codebookOneWrong : ChangeSpec := { name := "codebookOne", fn := fun _ => fun
  | [d] => { results := [.lit (.bool false)], args := [d] }
  | _ => none }
def CodebookOneWrongFalsely : Prop := codebookOneRow.holds Try.pinned (OpenSpec.ofChange codebookOneWrong)

/-- 'sticklerlaw16.CodebookCodes': WHATEVER THE INPUT: true; the input reads as it did. -/
def codebookCodesSpec : ChangeSpec := { name := "codebookCodes", fn := fun _ => fun
  | [d] => { results := [.lit (.bool true)], args := [d] }
  | _ => none }
def codebookCodesRow : OpenClaim := { program := "ytlpbonfapglocaa", sum := "343f152086ef65bfd14ee38a4c2bf90d6c4d2a7b71f751650cb18d9dd793eeba", func := "stickler/sticklerlaw16.CodebookCodes", spec := "codebookCodes", apart := false }
def CodebookCodesSaid : Prop := codebookCodesRow.holds Try.pinned (OpenSpec.ofChange codebookCodesSpec)

/-- ITS FALSE NEIGHBOUR: 'it returns false'. Refute it at one input. -/
def codebookCodesWrong : ChangeSpec := { name := "codebookCodes", fn := fun _ => fun
  | [d] => { results := [.lit (.bool false)], args := [d] }
  | _ => none }
def CodebookCodesWrongFalsely : Prop := codebookCodesRow.holds Try.pinned (OpenSpec.ofChange codebookCodesWrong)

/-- 'sticklerlaw20.StaticAt': WHATEVER THE INPUT: true; the input reads as it did. -/
def staticAtSpec : ChangeSpec := { name := "staticAt", fn := fun _ => fun
  | [d] => { results := [.lit (.bool true)], args := [d] }
  | _ => none }
def staticAtRow : OpenClaim := { program := "ytlpbonfapglocaa", sum := "343f152086ef65bfd14ee38a4c2bf90d6c4d2a7b71f751650cb18d9dd793eeba", func := "stickler/sticklerlaw20.StaticAt", spec := "staticAt", apart := false }
def StaticAtSaid : Prop := staticAtRow.holds Try.pinned (OpenSpec.ofChange staticAtSpec)

/-- ITS FALSE NEIGHBOUR: 'it returns false'. Refute it at one input. -/
def staticAtWrong : ChangeSpec := { name := "staticAt", fn := fun _ => fun
  | [d] => { results := [.lit (.bool false)], args := [d] }
  | _ => none }
def StaticAtWrongFalsely : Prop := staticAtRow.holds Try.pinned (OpenSpec.ofChange staticAtWrong)

/-- 'sticklerlaw20.StaticFinds': WHATEVER THE INPUT: true; the input reads as it did. -/
def staticFindsSpec : ChangeSpec := { name := "staticFinds", fn := fun _ => fun
  | [d1, d2] => { results := [.lit (.bool true)], args := [d1, d2] }
  | _ => none }
def staticFindsRow : OpenClaim := { program := "ytlpbonfapglocaa", sum := "343f152086ef65bfd14ee38a4c2bf90d6c4d2a7b71f751650cb18d9dd793eeba", func := "stickler/sticklerlaw20.StaticFinds", spec := "staticFinds", apart := false }
def StaticFindsSaid : Prop := staticFindsRow.holds Try.pinned (OpenSpec.ofChange staticFindsSpec)

/-- ITS FALSE NEIGHBOUR: 'it returns false'. Refute it at one input. -/
def staticFindsWrong : ChangeSpec := { name := "staticFinds", fn := fun _ => fun
  | [d1, d2] => { results := [.lit (.bool false)], args := [d1, d2] }
  | _ => none }
def StaticFindsWrongFalsely : Prop := staticFindsRow.holds Try.pinned (OpenSpec.ofChange staticFindsWrong)

/-- 'sticklerlaw10.ChunksBytes': WHATEVER THE INPUT: true; the input reads as it did. -/
def chunksBytesSpec : ChangeSpec := { name := "chunksBytes", fn := fun _ => fun
  | [d1, d2] => { results := [.lit (.bool true)], args := [d1, d2] }
  | _ => none }
def chunksBytesRow : OpenClaim := { program := "ytlpbonfapglocaa", sum := "343f152086ef65bfd14ee38a4c2bf90d6c4d2a7b71f751650cb18d9dd793eeba", func := "stickler/sticklerlaw10.ChunksBytes", spec := "chunksBytes", unfollowed := true, recurses := true, apart := false }
def ChunksBytesSaid : Prop := chunksBytesRow.holds Try.pinned (OpenSpec.ofChange chunksBytesSpec)

/-- ITS FALSE NEIGHBOUR: 'it returns false'. Refute it at one input. -/
def chunksBytesWrong : ChangeSpec := { name := "chunksBytes", fn := fun _ => fun
  | [d1, d2] => { results := [.lit (.bool false)], args := [d1, d2] }
  | _ => none }
def ChunksBytesWrongFalsely : Prop := chunksBytesRow.holds Try.pinned (OpenSpec.ofChange chunksBytesWrong)

/-- 'sticklerlaw10.ChunksJoins': WHATEVER THE INPUT: true; the input reads as it did. -/
def chunksJoinsSpec : ChangeSpec := { name := "chunksJoins", fn := fun _ => fun
  | [d] => { results := [.lit (.bool true)], args := [d] }
  | _ => none }
def chunksJoinsRow : OpenClaim := { program := "ytlpbonfapglocaa", sum := "343f152086ef65bfd14ee38a4c2bf90d6c4d2a7b71f751650cb18d9dd793eeba", func := "stickler/sticklerlaw10.ChunksJoins", spec := "chunksJoins", unfollowed := true, recurses := true, apart := false }
def ChunksJoinsSaid : Prop := chunksJoinsRow.holds Try.pinned (OpenSpec.ofChange chunksJoinsSpec)

/-- ITS FALSE NEIGHBOUR: 'it returns false'. Refute it at one input. -/
def chunksJoinsWrong : ChangeSpec := { name := "chunksJoins", fn := fun _ => fun
  | [d] => { results := [.lit (.bool false)], args := [d] }
  | _ => none }
def ChunksJoinsWrongFalsely : Prop := chunksJoinsRow.holds Try.pinned (OpenSpec.ofChange chunksJoinsWrong)

/- THE SECOND FORM. 'bulk': how many values and letters a reading holds, each counted each time it is reached (what is shared counts as often as it is met; a slice's spare places count too). A statement '..UptoSaid' is the law's where the arguments, and the package variables that the reading takes, are together of bulk at most 1048576: NARROWER than '..Said'. Prove '..Said' where nothing that the law and all that it calls make is longer than what came in: it says more and counts as full. Else prove '..UptoSaid'. A law counts once. -/
mutual
def uptoBulk {H : Type} : DataW H → Nat
  | .lit (.string bytes) => bytes.length + 1
  | .lit _ => 1
  | .nil => 1
  | .ptr d => uptoBulk d + 1
  | .slice elems spare => uptoBulkAll elems + uptoBulkAll spare + 1
  | .agg parts => uptoBulkAll parts + 1
  | .iface _ d => uptoBulk d + 1
  | .map entries => uptoBulkEntries entries + 1
  | .held _ => 1
def uptoBulkAll {H : Type} : List (DataW H) → Nat
  | [] => 0
  | d :: r => uptoBulk d + uptoBulkAll r
def uptoBulkEntries {H : Type} : List (Lit × DataW H) → Nat
  | [] => 0
  | x :: r => uptoBulkEntry x + uptoBulkEntries r
def uptoBulkEntry {H : Type} : Lit × DataW H → Nat
  | (.string bytes, d) => bytes.length + uptoBulk d + 1
  | (_, d) => uptoBulk d + 1
 end
def uptoSmall : (H : Type) → List (DataW H) → Bool := fun _ ds => decide (uptoBulkAll ds ≤ 1048576)
def OpenSpec.upto (s : _root_.Go.ChangeSpec) : _root_.Go.OpenSpec := { _root_.Go.OpenSpec.ofChange s with cond := some uptoSmall }

/-- 'sticklerlaw13.SettingApplies', WHERE WHAT IT READS IS OF BULK AT MOST 1048576: true; the input reads as it did. -/
def settingAppliesUptoRow : OpenClaim := { program := "ytlpbonfapglocaa", sum := "343f152086ef65bfd14ee38a4c2bf90d6c4d2a7b71f751650cb18d9dd793eeba", func := "stickler/sticklerlaw13.SettingApplies", spec := "settingApplies", apart := false, narrowed := true }
def SettingAppliesUptoSaid : Prop := settingAppliesUptoRow.holds Try.pinned (OpenSpec.upto settingAppliesSpec)

/-- 'sticklerlaw18.PrefixPuts', WHERE WHAT IT READS IS OF BULK AT MOST 1048576: true; the input reads as it did. -/
def prefixPutsUptoRow : OpenClaim := { program := "ytlpbonfapglocaa", sum := "343f152086ef65bfd14ee38a4c2bf90d6c4d2a7b71f751650cb18d9dd793eeba", func := "stickler/sticklerlaw18.PrefixPuts", spec := "prefixPuts", recurses := true, apart := false, narrowed := true }
def PrefixPutsUptoSaid : Prop := prefixPutsUptoRow.holds Try.pinned (OpenSpec.upto prefixPutsSpec)

/-- 'sticklerlaw18.PrefixGets', WHERE WHAT IT READS IS OF BULK AT MOST 1048576: true; the input reads as it did. -/
def prefixGetsUptoRow : OpenClaim := { program := "ytlpbonfapglocaa", sum := "343f152086ef65bfd14ee38a4c2bf90d6c4d2a7b71f751650cb18d9dd793eeba", func := "stickler/sticklerlaw18.PrefixGets", spec := "prefixGets", apart := false, narrowed := true }
def PrefixGetsUptoSaid : Prop := prefixGetsUptoRow.holds Try.pinned (OpenSpec.upto prefixGetsSpec)

/-- 'sticklerlaw18.PrefixBack', WHERE WHAT IT READS IS OF BULK AT MOST 1048576: true; the input reads as it did. -/
def prefixBackUptoRow : OpenClaim := { program := "ytlpbonfapglocaa", sum := "343f152086ef65bfd14ee38a4c2bf90d6c4d2a7b71f751650cb18d9dd793eeba", func := "stickler/sticklerlaw18.PrefixBack", spec := "prefixBack", apart := false, narrowed := true }
def PrefixBackUptoSaid : Prop := prefixBackUptoRow.holds Try.pinned (OpenSpec.upto prefixBackSpec)

/-- 'sticklerlaw16.CodebookNobody', WHERE WHAT IT READS IS OF BULK AT MOST 1048576: true; the input reads as it did. -/
def codebookNobodyUptoRow : OpenClaim := { program := "ytlpbonfapglocaa", sum := "343f152086ef65bfd14ee38a4c2bf90d6c4d2a7b71f751650cb18d9dd793eeba", func := "stickler/sticklerlaw16.CodebookNobody", spec := "codebookNobody", apart := false, narrowed := true }
def CodebookNobodyUptoSaid : Prop := codebookNobodyUptoRow.holds Try.pinned (OpenSpec.upto codebookNobodySpec)

/-- 'sticklerlaw16.CodebookFinds', WHERE WHAT IT READS IS OF BULK AT MOST 1048576: true; the input reads as it did. -/
def codebookFindsUptoRow : OpenClaim := { program := "ytlpbonfapglocaa", sum := "343f152086ef65bfd14ee38a4c2bf90d6c4d2a7b71f751650cb18d9dd793eeba", func := "stickler/sticklerlaw16.CodebookFinds", spec := "codebookFinds", apart := false, narrowed := true }
def CodebookFindsUptoSaid : Prop := codebookFindsUptoRow.holds Try.pinned (OpenSpec.upto codebookFindsSpec)

/-- 'sticklerlaw16.CodebookOne', WHERE WHAT IT READS IS OF BULK AT MOST 1048576: true; the input reads as it did. -/
def codebookOneUptoRow : OpenClaim := { program := "ytlpbonfapglocaa", sum := "343f152086ef65bfd14ee38a4c2bf90d6c4d2a7b71f751650cb18d9dd793eeba", func := "stickler/sticklerlaw16.CodebookOne", spec := "codebookOne", apart := false, narrowed := true }
def CodebookOneUptoSaid : Prop := codebookOneUptoRow.holds Try.pinned (OpenSpec.upto codebookOneSpec)

/-- 'sticklerlaw16.CodebookCodes', WHERE WHAT IT READS IS OF BULK AT MOST 1048576: true; the input reads as it did. -/
def codebookCodesUptoRow : OpenClaim := { program := "ytlpbonfapglocaa", sum := "343f152086ef65bfd14ee38a4c2bf90d6c4d2a7b71f751650cb18d9dd793eeba", func := "stickler/sticklerlaw16.CodebookCodes", spec := "codebookCodes", apart := false, narrowed := true }
def CodebookCodesUptoSaid : Prop := codebookCodesUptoRow.holds Try.pinned (OpenSpec.upto codebookCodesSpec)

/-- 'sticklerlaw20.StaticAt', WHERE WHAT IT READS IS OF BULK AT MOST 1048576: true; the input reads as it did. -/
def staticAtUptoRow : OpenClaim := { program := "ytlpbonfapglocaa", sum := "343f152086ef65bfd14ee38a4c2bf90d6c4d2a7b71f751650cb18d9dd793eeba", func := "stickler/sticklerlaw20.StaticAt", spec := "staticAt", apart := false, narrowed := true }
def StaticAtUptoSaid : Prop := staticAtUptoRow.holds Try.pinned (OpenSpec.upto staticAtSpec)

/-- 'sticklerlaw20.StaticFinds', WHERE WHAT IT READS IS OF BULK AT MOST 1048576: true; the input reads as it did. -/
def staticFindsUptoRow : OpenClaim := { program := "ytlpbonfapglocaa", sum := "343f152086ef65bfd14ee38a4c2bf90d6c4d2a7b71f751650cb18d9dd793eeba", func := "stickler/sticklerlaw20.StaticFinds", spec := "staticFinds", apart := false, narrowed := true }
def StaticFindsUptoSaid : Prop := staticFindsUptoRow.holds Try.pinned (OpenSpec.upto staticFindsSpec)

/-- 'sticklerlaw10.ChunksBytes', WHERE WHAT IT READS IS OF BULK AT MOST 1048576: true; the input reads as it did. -/
def chunksBytesUptoRow : OpenClaim := { program := "ytlpbonfapglocaa", sum := "343f152086ef65bfd14ee38a4c2bf90d6c4d2a7b71f751650cb18d9dd793eeba", func := "stickler/sticklerlaw10.ChunksBytes", spec := "chunksBytes", unfollowed := true, recurses := true, apart := false, narrowed := true }
def ChunksBytesUptoSaid : Prop := chunksBytesUptoRow.holds Try.pinned (OpenSpec.upto chunksBytesSpec)

/-- 'sticklerlaw10.ChunksJoins', WHERE WHAT IT READS IS OF BULK AT MOST 1048576: true; the input reads as it did. -/
def chunksJoinsUptoRow : OpenClaim := { program := "ytlpbonfapglocaa", sum := "343f152086ef65bfd14ee38a4c2bf90d6c4d2a7b71f751650cb18d9dd793eeba", func := "stickler/sticklerlaw10.ChunksJoins", spec := "chunksJoins", unfollowed := true, recurses := true, apart := false, narrowed := true }
def ChunksJoinsUptoSaid : Prop := chunksJoinsUptoRow.holds Try.pinned (OpenSpec.upto chunksJoinsSpec)

end Rows
end Go.Proofs.Ytlpbonfapglocaa
