/-
  No cell of these rows narrows 'for every input' (looked for: loops, veiled, ifaces, maps, wideKeys, modest, calm, conditions, laid).
  DERIVED. THE GIVEN ROWS OF THIS SEAT. 10 by the template 'for every input the law returns true; each argument reads behind the call as it read before'; 0 by the template 'total and deterministic' (their statements: YtpnjamomkpkkeaaTotals.lean).
  GIVEN WITH THE SEED: the statements are not yours to turn. If you find one false, say at which input.
  Laid BY PROGRAM, IN A SANDBOX (cutbox-rows.mjs): the forced cells as the released guide's own fill.sh prints them over the translation 20b6a4d86ad18cab… (all of the seat's roots in one cut). By AI agents, Wed Nov 11 2026. No macro, syntax, notation, axiom, sorry.
-/
import Derived.Test.YtpnjamomkpkkeaaChecked
import GoSem.Claim
import GoSem.ClaimJoined
import GoSem.ClaimMapViews
import Derived.JoinedTies
import Derived.KernelRfl
namespace Go.Proofs.Ytpnjamomkpkkeaa
/- THE CELL 'sum', in the pinned program and in every row, IS THE sha256 OF THE DUMP (.gsa) THAT YtpnjamomkpkkeaaProg.lean LOADS. Nothing in Lean hashes anything: it is a label: what it is worth is what the hold of that sum in a sandbox is worth. -/
noncomputable def Try.pinned : Pinned := { name := "ytpnjamomkpkkeaa", sum := "20b6a4d86ad18cab4d07ecf8aeb3e7515a386d22d7ec9de302616763055cd6f9", checked := Try.checked }
namespace Rows
def none {H : Type} : Left H := { results := [], args := [] }

/-- 'sticklerlaw15.EmitRaws': WHATEVER THE INPUT: true; the input reads as it did. -/
def emitRawsSpec : ChangeSpec := { name := "emitRaws", fn := fun _ => fun
  | [d1, d2] => { results := [.lit (.bool true)], args := [d1, d2] }
  | _ => none }
def emitRawsRow : OpenClaim := { program := "ytpnjamomkpkkeaa", sum := "20b6a4d86ad18cab4d07ecf8aeb3e7515a386d22d7ec9de302616763055cd6f9", func := "stickler/sticklerlaw15.EmitRaws", spec := "emitRaws", apart := false }
def EmitRawsSaid : Prop := emitRawsRow.holds Try.pinned (OpenSpec.ofChange emitRawsSpec)

/-- ITS FALSE NEIGHBOUR: 'it returns false'. Refute it at one input. -/
def emitRawsWrong : ChangeSpec := { name := "emitRaws", fn := fun _ => fun
  | [d1, d2] => { results := [.lit (.bool false)], args := [d1, d2] }
  | _ => none }
def EmitRawsWrongFalsely : Prop := emitRawsRow.holds Try.pinned (OpenSpec.ofChange emitRawsWrong)

/-- 'sticklerlaw15.EmitBack': WHATEVER THE INPUT: true; the input reads as it did. -/
def emitBackSpec : ChangeSpec := { name := "emitBack", fn := fun _ => fun
  | [d1, d2] => { results := [.lit (.bool true)], args := [d1, d2] }
  | _ => none }
def emitBackRow : OpenClaim := { program := "ytpnjamomkpkkeaa", sum := "20b6a4d86ad18cab4d07ecf8aeb3e7515a386d22d7ec9de302616763055cd6f9", func := "stickler/sticklerlaw15.EmitBack", spec := "emitBack", apart := false }
def EmitBackSaid : Prop := emitBackRow.holds Try.pinned (OpenSpec.ofChange emitBackSpec)

/-- ITS FALSE NEIGHBOUR: 'it returns false'. Refute it at one input. -/
def emitBackWrong : ChangeSpec := { name := "emitBack", fn := fun _ => fun
  | [d1, d2] => { results := [.lit (.bool false)], args := [d1, d2] }
  | _ => none }
def EmitBackWrongFalsely : Prop := emitBackRow.holds Try.pinned (OpenSpec.ofChange emitBackWrong)

/-- 'sticklerlaw15.EmitAll': WHATEVER THE INPUT: true; the input reads as it did. -/
def emitAllSpec : ChangeSpec := { name := "emitAll", fn := fun _ => fun
  | [d] => { results := [.lit (.bool true)], args := [d] }
  | _ => none }
def emitAllRow : OpenClaim := { program := "ytpnjamomkpkkeaa", sum := "20b6a4d86ad18cab4d07ecf8aeb3e7515a386d22d7ec9de302616763055cd6f9", func := "stickler/sticklerlaw15.EmitAll", spec := "emitAll", apart := false }
def EmitAllSaid : Prop := emitAllRow.holds Try.pinned (OpenSpec.ofChange emitAllSpec)

/-- ITS FALSE NEIGHBOUR: 'it returns false'. Refute it at one input. -/
def emitAllWrong : ChangeSpec := { name := "emitAll", fn := fun _ => fun
  | [d] => { results := [.lit (.bool false)], args := [d] }
  | _ => none }
def EmitAllWrongFalsely : Prop := emitAllRow.holds Try.pinned (OpenSpec.ofChange emitAllWrong)

/-- 'sticklerlaw12.CutterNobody': WHATEVER THE INPUT: true; the input reads as it did. -/
def cutterNobodySpec : ChangeSpec := { name := "cutterNobody", fn := fun _ => fun
  | [d] => { results := [.lit (.bool true)], args := [d] }
  | _ => none }
def cutterNobodyRow : OpenClaim := { program := "ytpnjamomkpkkeaa", sum := "20b6a4d86ad18cab4d07ecf8aeb3e7515a386d22d7ec9de302616763055cd6f9", func := "stickler/sticklerlaw12.CutterNobody", spec := "cutterNobody", apart := false }
def CutterNobodySaid : Prop := cutterNobodyRow.holds Try.pinned (OpenSpec.ofChange cutterNobodySpec)

/-- ITS FALSE NEIGHBOUR: 'it returns false'. Refute it at one input. -/
def cutterNobodyWrong : ChangeSpec := { name := "cutterNobody", fn := fun _ => fun
  | [d] => { results := [.lit (.bool false)], args := [d] }
  | _ => none }
def CutterNobodyWrongFalsely : Prop := cutterNobodyRow.holds Try.pinned (OpenSpec.ofChange cutterNobodyWrong)

/-- 'sticklerlaw12.CutterBack': WHATEVER THE INPUT: true; the input reads as it did. -/
def cutterBackSpec : ChangeSpec := { name := "cutterBack", fn := fun _ => fun
  | [d1, d2] => { results := [.lit (.bool true)], args := [d1, d2] }
  | _ => none }
def cutterBackRow : OpenClaim := { program := "ytpnjamomkpkkeaa", sum := "20b6a4d86ad18cab4d07ecf8aeb3e7515a386d22d7ec9de302616763055cd6f9", func := "stickler/sticklerlaw12.CutterBack", spec := "cutterBack", apart := false }
def CutterBackSaid : Prop := cutterBackRow.holds Try.pinned (OpenSpec.ofChange cutterBackSpec)

/-- ITS FALSE NEIGHBOUR: 'it returns false'. Refute it at one input. -/
def cutterBackWrong : ChangeSpec := { name := "cutterBack", fn := fun _ => fun
  | [d1, d2] => { results := [.lit (.bool false)], args := [d1, d2] }
  | _ => none }
def CutterBackWrongFalsely : Prop := cutterBackRow.holds Try.pinned (OpenSpec.ofChange cutterBackWrong)

/-- 'sticklerlaw12.CutterCuts': WHATEVER THE INPUT: true; the input reads as it did. -/
def cutterCutsSpec : ChangeSpec := { name := "cutterCuts", fn := fun _ => fun
  | [d] => { results := [.lit (.bool true)], args := [d] }
  | _ => none }
def cutterCutsRow : OpenClaim := { program := "ytpnjamomkpkkeaa", sum := "20b6a4d86ad18cab4d07ecf8aeb3e7515a386d22d7ec9de302616763055cd6f9", func := "stickler/sticklerlaw12.CutterCuts", spec := "cutterCuts", apart := false }
def CutterCutsSaid : Prop := cutterCutsRow.holds Try.pinned (OpenSpec.ofChange cutterCutsSpec)

/-- ITS FALSE NEIGHBOUR: 'it returns false'. Refute it at one input. -/
def cutterCutsWrong : ChangeSpec := { name := "cutterCuts", fn := fun _ => fun
  | [d] => { results := [.lit (.bool false)], args := [d] }
  | _ => none }
def CutterCutsWrongFalsely : Prop := cutterCutsRow.holds Try.pinned (OpenSpec.ofChange cutterCutsWrong)

/-- 'sticklerlaw12.CutterRecut': WHATEVER THE INPUT: true; the input reads as it did. -/
def cutterRecutSpec : ChangeSpec := { name := "cutterRecut", fn := fun _ => fun
  | [d1, d2, d3] => { results := [.lit (.bool true)], args := [d1, d2, d3] }
  | _ => none }
def cutterRecutRow : OpenClaim := { program := "ytpnjamomkpkkeaa", sum := "20b6a4d86ad18cab4d07ecf8aeb3e7515a386d22d7ec9de302616763055cd6f9", func := "stickler/sticklerlaw12.CutterRecut", spec := "cutterRecut", apart := false }
def CutterRecutSaid : Prop := cutterRecutRow.holds Try.pinned (OpenSpec.ofChange cutterRecutSpec)

/-- ITS FALSE NEIGHBOUR: 'it returns false'. Refute it at one input. -/
def cutterRecutWrong : ChangeSpec := { name := "cutterRecut", fn := fun _ => fun
  | [d1, d2, d3] => { results := [.lit (.bool false)], args := [d1, d2, d3] }
  | _ => none }
def CutterRecutWrongFalsely : Prop := cutterRecutRow.holds Try.pinned (OpenSpec.ofChange cutterRecutWrong)

/-- 'sticklerlaw30.BlockPlays': WHATEVER THE INPUT: true; the input reads as it did. -/
def blockPlaysSpec : ChangeSpec := { name := "blockPlays", fn := fun _ => fun
  | [d1, d2] => { results := [.lit (.bool true)], args := [d1, d2] }
  | _ => none }
def blockPlaysRow : OpenClaim := { program := "ytpnjamomkpkkeaa", sum := "20b6a4d86ad18cab4d07ecf8aeb3e7515a386d22d7ec9de302616763055cd6f9", func := "stickler/sticklerlaw30.BlockPlays", spec := "blockPlays", apart := false }
def BlockPlaysSaid : Prop := blockPlaysRow.holds Try.pinned (OpenSpec.ofChange blockPlaysSpec)

/-- ITS FALSE NEIGHBOUR: 'it returns false'. Refute it at one input. -/
def blockPlaysWrong : ChangeSpec := { name := "blockPlays", fn := fun _ => fun
  | [d1, d2] => { results := [.lit (.bool false)], args := [d1, d2] }
  | _ => none }
def BlockPlaysWrongFalsely : Prop := blockPlaysRow.holds Try.pinned (OpenSpec.ofChange blockPlaysWrong)

/-- 'sticklerlaw34.RosterNobody': WHATEVER THE INPUT: true; the input reads as it did. -/
def rosterNobodySpec : ChangeSpec := { name := "rosterNobody", fn := fun _ => fun
  | [d1, d2] => { results := [.lit (.bool true)], args := [d1, d2] }
  | _ => none }
def rosterNobodyRow : OpenClaim := { program := "ytpnjamomkpkkeaa", sum := "20b6a4d86ad18cab4d07ecf8aeb3e7515a386d22d7ec9de302616763055cd6f9", func := "stickler/sticklerlaw34.RosterNobody", spec := "rosterNobody", apart := false }
def RosterNobodySaid : Prop := rosterNobodyRow.holds Try.pinned (OpenSpec.ofChange rosterNobodySpec)

/-- ITS FALSE NEIGHBOUR: 'it returns false'. Refute it at one input. -/
def rosterNobodyWrong : ChangeSpec := { name := "rosterNobody", fn := fun _ => fun
  | [d1, d2] => { results := [.lit (.bool false)], args := [d1, d2] }
  | _ => none }
def RosterNobodyWrongFalsely : Prop := rosterNobodyRow.holds Try.pinned (OpenSpec.ofChange rosterNobodyWrong)

/-- 'sticklerlaw45.SpecSame': WHATEVER THE INPUT: true; the input reads as it did. -/
def specSameSpec : ChangeSpec := { name := "specSame", fn := fun _ => fun
  | [d1, d2] => { results := [.lit (.bool true)], args := [d1, d2] }
  | _ => none }
def specSameRow : OpenClaim := { program := "ytpnjamomkpkkeaa", sum := "20b6a4d86ad18cab4d07ecf8aeb3e7515a386d22d7ec9de302616763055cd6f9", func := "stickler/sticklerlaw45.SpecSame", spec := "specSame", unfollowed := true, recurses := true, apart := false }
def SpecSameSaid : Prop := specSameRow.holds Try.pinned (OpenSpec.ofChange specSameSpec)

/-- ITS FALSE NEIGHBOUR: 'it returns false'. Refute it at one input. -/
def specSameWrong : ChangeSpec := { name := "specSame", fn := fun _ => fun
  | [d1, d2] => { results := [.lit (.bool false)], args := [d1, d2] }
  | _ => none }
def SpecSameWrongFalsely : Prop := specSameRow.holds Try.pinned (OpenSpec.ofChange specSameWrong)

/- THE SECOND FORM. 'bulk': how many values and letters a reading holds, each counted each time it is reached (what is shared counts as often as it is met; a slice's spare places count too). A statement '..UptoSaid' is the law's where the arguments, and the package variables that the reading takes, are together of bulk at most 1048576: NARROWER than '..Said'. Prove '..Said' where nothing that the law and all that it calls make is longer than what came in: it says more and counts as full. Else prove '..UptoSaid'. A law counts once. -/
mutual
def uptoBulk {H : Type} : DataW H → Nat
  | .lit (.string bytes) => bytes.length + 1
  | .lit _ => 1
  | .nil => 1
  | .ptr d => uptoBulk d + 1
  | .slice elems spare => uptoBulkAll elems + uptoBulkAll spare + 1
  | .agg parts => uptoBulkAll parts + 1
  | .iface _ d => uptoBulk d + 1
  | .map entries => uptoBulkEntries entries + 1
  | .held _ => 1
def uptoBulkAll {H : Type} : List (DataW H) → Nat
  | [] => 0
  | d :: r => uptoBulk d + uptoBulkAll r
def uptoBulkEntries {H : Type} : List (Lit × DataW H) → Nat
  | [] => 0
  | x :: r => uptoBulkEntry x + uptoBulkEntries r
def uptoBulkEntry {H : Type} : Lit × DataW H → Nat
  | (.string bytes, d) => bytes.length + uptoBulk d + 1
  | (_, d) => uptoBulk d + 1
 end
def uptoSmall : (H : Type) → List (DataW H) → Bool := fun _ ds => decide (uptoBulkAll ds ≤ 1048576)
def OpenSpec.upto (s : _root_.Go.ChangeSpec) : _root_.Go.OpenSpec := { _root_.Go.OpenSpec.ofChange s with cond := some uptoSmall }

/-- 'sticklerlaw15.EmitRaws', WHERE WHAT IT READS IS OF BULK AT MOST 1048576: true; the input reads as it did. -/
def emitRawsUptoRow : OpenClaim := { program := "ytpnjamomkpkkeaa", sum := "20b6a4d86ad18cab4d07ecf8aeb3e7515a386d22d7ec9de302616763055cd6f9", func := "stickler/sticklerlaw15.EmitRaws", spec := "emitRaws", apart := false, narrowed := true }
def EmitRawsUptoSaid : Prop := emitRawsUptoRow.holds Try.pinned (OpenSpec.upto emitRawsSpec)

/-- 'sticklerlaw15.EmitBack', WHERE WHAT IT READS IS OF BULK AT MOST 1048576: true; the input reads as it did. -/
def emitBackUptoRow : OpenClaim := { program := "ytpnjamomkpkkeaa", sum := "20b6a4d86ad18cab4d07ecf8aeb3e7515a386d22d7ec9de302616763055cd6f9", func := "stickler/sticklerlaw15.EmitBack", spec := "emitBack", apart := false, narrowed := true }
def EmitBackUptoSaid : Prop := emitBackUptoRow.holds Try.pinned (OpenSpec.upto emitBackSpec)

/-- 'sticklerlaw15.EmitAll', WHERE WHAT IT READS IS OF BULK AT MOST 1048576: true; the input reads as it did. -/
def emitAllUptoRow : OpenClaim := { program := "ytpnjamomkpkkeaa", sum := "20b6a4d86ad18cab4d07ecf8aeb3e7515a386d22d7ec9de302616763055cd6f9", func := "stickler/sticklerlaw15.EmitAll", spec := "emitAll", apart := false, narrowed := true }
def EmitAllUptoSaid : Prop := emitAllUptoRow.holds Try.pinned (OpenSpec.upto emitAllSpec)

/-- 'sticklerlaw12.CutterNobody', WHERE WHAT IT READS IS OF BULK AT MOST 1048576: true; the input reads as it did. -/
def cutterNobodyUptoRow : OpenClaim := { program := "ytpnjamomkpkkeaa", sum := "20b6a4d86ad18cab4d07ecf8aeb3e7515a386d22d7ec9de302616763055cd6f9", func := "stickler/sticklerlaw12.CutterNobody", spec := "cutterNobody", apart := false, narrowed := true }
def CutterNobodyUptoSaid : Prop := cutterNobodyUptoRow.holds Try.pinned (OpenSpec.upto cutterNobodySpec)

/-- 'sticklerlaw12.CutterBack', WHERE WHAT IT READS IS OF BULK AT MOST 1048576: true; the input reads as it did. -/
def cutterBackUptoRow : OpenClaim := { program := "ytpnjamomkpkkeaa", sum := "20b6a4d86ad18cab4d07ecf8aeb3e7515a386d22d7ec9de302616763055cd6f9", func := "stickler/sticklerlaw12.CutterBack", spec := "cutterBack", apart := false, narrowed := true }
def CutterBackUptoSaid : Prop := cutterBackUptoRow.holds Try.pinned (OpenSpec.upto cutterBackSpec)

/-- 'sticklerlaw12.CutterCuts', WHERE WHAT IT READS IS OF BULK AT MOST 1048576: true; the input reads as it did. -/
def cutterCutsUptoRow : OpenClaim := { program := "ytpnjamomkpkkeaa", sum := "20b6a4d86ad18cab4d07ecf8aeb3e7515a386d22d7ec9de302616763055cd6f9", func := "stickler/sticklerlaw12.CutterCuts", spec := "cutterCuts", apart := false, narrowed := true }
def CutterCutsUptoSaid : Prop := cutterCutsUptoRow.holds Try.pinned (OpenSpec.upto cutterCutsSpec)

/-- 'sticklerlaw12.CutterRecut', WHERE WHAT IT READS IS OF BULK AT MOST 1048576: true; the input reads as it did. -/
def cutterRecutUptoRow : OpenClaim := { program := "ytpnjamomkpkkeaa", sum := "20b6a4d86ad18cab4d07ecf8aeb3e7515a386d22d7ec9de302616763055cd6f9", func := "stickler/sticklerlaw12.CutterRecut", spec := "cutterRecut", apart := false, narrowed := true }
def CutterRecutUptoSaid : Prop := cutterRecutUptoRow.holds Try.pinned (OpenSpec.upto cutterRecutSpec)

/-- 'sticklerlaw30.BlockPlays', WHERE WHAT IT READS IS OF BULK AT MOST 1048576: true; the input reads as it did. -/
def blockPlaysUptoRow : OpenClaim := { program := "ytpnjamomkpkkeaa", sum := "20b6a4d86ad18cab4d07ecf8aeb3e7515a386d22d7ec9de302616763055cd6f9", func := "stickler/sticklerlaw30.BlockPlays", spec := "blockPlays", apart := false, narrowed := true }
def BlockPlaysUptoSaid : Prop := blockPlaysUptoRow.holds Try.pinned (OpenSpec.upto blockPlaysSpec)

/-- 'sticklerlaw34.RosterNobody', WHERE WHAT IT READS IS OF BULK AT MOST 1048576: true; the input reads as it did. -/
def rosterNobodyUptoRow : OpenClaim := { program := "ytpnjamomkpkkeaa", sum := "20b6a4d86ad18cab4d07ecf8aeb3e7515a386d22d7ec9de302616763055cd6f9", func := "stickler/sticklerlaw34.RosterNobody", spec := "rosterNobody", apart := false, narrowed := true }
def RosterNobodyUptoSaid : Prop := rosterNobodyUptoRow.holds Try.pinned (OpenSpec.upto rosterNobodySpec)

/-- 'sticklerlaw45.SpecSame', WHERE WHAT IT READS IS OF BULK AT MOST 1048576: true; the input reads as it did. -/
def specSameUptoRow : OpenClaim := { program := "ytpnjamomkpkkeaa", sum := "20b6a4d86ad18cab4d07ecf8aeb3e7515a386d22d7ec9de302616763055cd6f9", func := "stickler/sticklerlaw45.SpecSame", spec := "specSame", unfollowed := true, recurses := true, apart := false, narrowed := true }
def SpecSameUptoSaid : Prop := specSameUptoRow.holds Try.pinned (OpenSpec.upto specSameSpec)

end Rows
end Go.Proofs.Ytpnjamomkpkkeaa
