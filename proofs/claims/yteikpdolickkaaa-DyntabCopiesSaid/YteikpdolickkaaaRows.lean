/-
  No cell of these rows narrows 'for every input' (looked for: loops, veiled, ifaces, maps, wideKeys, modest, calm, conditions, laid).
  DERIVED. THE GIVEN ROWS OF THIS SEAT. 12 by the template 'for every input the law returns true; each argument reads behind the call as it read before'; 0 by the template 'total and deterministic' (their statements: YteikpdolickkaaaTotals.lean).
  GIVEN WITH THE SEED: the statements are not yours to turn. If you find one false, say at which input.
  Laid BY PROGRAM, IN A SANDBOX (cutbox-rows.mjs): the forced cells as the released guide's own fill.sh prints them over the translation 08396f301c5270a1… (all of the seat's roots in one cut). By AI agents, Wed Nov 11 2026. No macro, syntax, notation, axiom, sorry.
-/
import Derived.Test.YteikpdolickkaaaChecked
import GoSem.Claim
import GoSem.ClaimJoined
import GoSem.ClaimMapViews
import Derived.JoinedTies
import Derived.KernelRfl
namespace Go.Proofs.Yteikpdolickkaaa
/- THE CELL 'sum', in the pinned program and in every row, IS THE sha256 OF THE DUMP (.gsa) THAT YteikpdolickkaaaProg.lean LOADS. Nothing in Lean hashes anything: it is a label: what it is worth is what the hold of that sum in a sandbox is worth. -/
noncomputable def Try.pinned : Pinned := { name := "yteikpdolickkaaa", sum := "08396f301c5270a189f12db1d83f275760d0cc827790ca927d4c261fae3b7840", checked := Try.checked }
namespace Rows
def none {H : Type} : Left H := { results := [], args := [] }

/-- 'sticklerlaw12.CutterNobody': WHATEVER THE INPUT: true; the input reads as it did. -/
def cutterNobodySpec : ChangeSpec := { name := "cutterNobody", fn := fun _ => fun
  | [d] => { results := [.lit (.bool true)], args := [d] }
  | _ => none }
def cutterNobodyRow : OpenClaim := { program := "yteikpdolickkaaa", sum := "08396f301c5270a189f12db1d83f275760d0cc827790ca927d4c261fae3b7840", func := "stickler/sticklerlaw12.CutterNobody", spec := "cutterNobody", plainKeys := false, apart := false }
def CutterNobodySaid : Prop := cutterNobodyRow.holds Try.pinned (OpenSpec.ofChange cutterNobodySpec)

/-- ITS FALSE NEIGHBOUR: 'it returns false'. Refute it at one input. -/
def cutterNobodyWrong : ChangeSpec := { name := "cutterNobody", fn := fun _ => fun
  | [d] => { results := [.lit (.bool false)], args := [d] }
  | _ => none }
def CutterNobodyWrongFalsely : Prop := cutterNobodyRow.holds Try.pinned (OpenSpec.ofChange cutterNobodyWrong)

/-- 'sticklerlaw21.DyntabPlays': WHATEVER THE INPUT: true; the input reads as it did. -/
def dyntabPlaysSpec : ChangeSpec := { name := "dyntabPlays", fn := fun _ => fun
  | [d1, d2] => { results := [.lit (.bool true)], args := [d1, d2] }
  | _ => none }
def dyntabPlaysRow : OpenClaim := { program := "yteikpdolickkaaa", sum := "08396f301c5270a189f12db1d83f275760d0cc827790ca927d4c261fae3b7840", func := "stickler/sticklerlaw21.DyntabPlays", spec := "dyntabPlays", plainKeys := false, apart := false }
def DyntabPlaysSaid : Prop := dyntabPlaysRow.holds Try.pinned (OpenSpec.ofChange dyntabPlaysSpec)

/-- ITS FALSE NEIGHBOUR: 'it returns false'. Refute it at one input. -/
def dyntabPlaysWrong : ChangeSpec := { name := "dyntabPlays", fn := fun _ => fun
  | [d1, d2] => { results := [.lit (.bool false)], args := [d1, d2] }
  | _ => none }
def DyntabPlaysWrongFalsely : Prop := dyntabPlaysRow.holds Try.pinned (OpenSpec.ofChange dyntabPlaysWrong)

/-- 'sticklerlaw21.DyntabBounds': WHATEVER THE INPUT: true; the input reads as it did. -/
def dyntabBoundsSpec : ChangeSpec := { name := "dyntabBounds", fn := fun _ => fun
  | [d1, d2] => { results := [.lit (.bool true)], args := [d1, d2] }
  | _ => none }
def dyntabBoundsRow : OpenClaim := { program := "yteikpdolickkaaa", sum := "08396f301c5270a189f12db1d83f275760d0cc827790ca927d4c261fae3b7840", func := "stickler/sticklerlaw21.DyntabBounds", spec := "dyntabBounds", plainKeys := false, apart := false }
def DyntabBoundsSaid : Prop := dyntabBoundsRow.holds Try.pinned (OpenSpec.ofChange dyntabBoundsSpec)

/-- ITS FALSE NEIGHBOUR: 'it returns false'. Refute it at one input. -/
def dyntabBoundsWrong : ChangeSpec := { name := "dyntabBounds", fn := fun _ => fun
  | [d1, d2] => { results := [.lit (.bool false)], args := [d1, d2] }
  | _ => none }
def DyntabBoundsWrongFalsely : Prop := dyntabBoundsRow.holds Try.pinned (OpenSpec.ofChange dyntabBoundsWrong)

/-- 'sticklerlaw21.DyntabCopies': WHATEVER THE INPUT: true; the input reads as it did. -/
def dyntabCopiesSpec : ChangeSpec := { name := "dyntabCopies", fn := fun _ => fun
  | [d1, d2] => { results := [.lit (.bool true)], args := [d1, d2] }
  | _ => none }
def dyntabCopiesRow : OpenClaim := { program := "yteikpdolickkaaa", sum := "08396f301c5270a189f12db1d83f275760d0cc827790ca927d4c261fae3b7840", func := "stickler/sticklerlaw21.DyntabCopies", spec := "dyntabCopies", plainKeys := false, apart := false }
def DyntabCopiesSaid : Prop := dyntabCopiesRow.holds Try.pinned (OpenSpec.ofChange dyntabCopiesSpec)

/-- ITS FALSE NEIGHBOUR: 'it returns false'. Refute it at one input. -/
def dyntabCopiesWrong : ChangeSpec := { name := "dyntabCopies", fn := fun _ => fun
  | [d1, d2] => { results := [.lit (.bool false)], args := [d1, d2] }
  | _ => none }
def DyntabCopiesWrongFalsely : Prop := dyntabCopiesRow.holds Try.pinned (OpenSpec.ofChange dyntabCopiesWrong)

/-- 'sticklerlaw30.BlockParts': WHATEVER THE INPUT: true; the input reads as it did. -/
def blockPartsSpec : ChangeSpec := { name := "blockParts", fn := fun _ => fun
  | [d1, d2, d3] => { results := [.lit (.bool true)], args := [d1, d2, d3] }
  | _ => none }
def blockPartsRow : OpenClaim := { program := "yteikpdolickkaaa", sum := "08396f301c5270a189f12db1d83f275760d0cc827790ca927d4c261fae3b7840", func := "stickler/sticklerlaw30.BlockParts", spec := "blockParts", plainKeys := false, apart := false }
def BlockPartsSaid : Prop := blockPartsRow.holds Try.pinned (OpenSpec.ofChange blockPartsSpec)

/-- ITS FALSE NEIGHBOUR: 'it returns false'. Refute it at one input. -/
def blockPartsWrong : ChangeSpec := { name := "blockParts", fn := fun _ => fun
  | [d1, d2, d3] => { results := [.lit (.bool false)], args := [d1, d2, d3] }
  | _ => none }
def BlockPartsWrongFalsely : Prop := blockPartsRow.holds Try.pinned (OpenSpec.ofChange blockPartsWrong)

/-- 'sticklerlaw30.BlockNobody': WHATEVER THE INPUT: true; the input reads as it did. -/
def blockNobodySpec : ChangeSpec := { name := "blockNobody", fn := fun _ => fun
  | [d] => { results := [.lit (.bool true)], args := [d] }
  | _ => none }
def blockNobodyRow : OpenClaim := { program := "yteikpdolickkaaa", sum := "08396f301c5270a189f12db1d83f275760d0cc827790ca927d4c261fae3b7840", func := "stickler/sticklerlaw30.BlockNobody", spec := "blockNobody", plainKeys := false, apart := false }
def BlockNobodySaid : Prop := blockNobodyRow.holds Try.pinned (OpenSpec.ofChange blockNobodySpec)

/-- ITS FALSE NEIGHBOUR: 'it returns false'. Refute it at one input. -/
def blockNobodyWrong : ChangeSpec := { name := "blockNobody", fn := fun _ => fun
  | [d] => { results := [.lit (.bool false)], args := [d] }
  | _ => none }
def BlockNobodyWrongFalsely : Prop := blockNobodyRow.holds Try.pinned (OpenSpec.ofChange blockNobodyWrong)

/-- 'sticklerlaw32.PendingPlays': WHATEVER THE INPUT: true; the input reads as it did. -/
def pendingPlaysSpec : ChangeSpec := { name := "pendingPlays", fn := fun _ => fun
  | [d] => { results := [.lit (.bool true)], args := [d] }
  | _ => none }
def pendingPlaysRow : OpenClaim := { program := "yteikpdolickkaaa", sum := "08396f301c5270a189f12db1d83f275760d0cc827790ca927d4c261fae3b7840", func := "stickler/sticklerlaw32.PendingPlays", spec := "pendingPlays", plainKeys := false, apart := false }
def PendingPlaysSaid : Prop := pendingPlaysRow.holds Try.pinned (OpenSpec.ofChange pendingPlaysSpec)

/-- ITS FALSE NEIGHBOUR: 'it returns false'. Refute it at one input. -/
def pendingPlaysWrong : ChangeSpec := { name := "pendingPlays", fn := fun _ => fun
  | [d] => { results := [.lit (.bool false)], args := [d] }
  | _ => none }
def PendingPlaysWrongFalsely : Prop := pendingPlaysRow.holds Try.pinned (OpenSpec.ofChange pendingPlaysWrong)

/-- 'sticklerlaw32.PendingBounds': WHATEVER THE INPUT: true; the input reads as it did. -/
def pendingBoundsSpec : ChangeSpec := { name := "pendingBounds", fn := fun _ => fun
  | [d] => { results := [.lit (.bool true)], args := [d] }
  | _ => none }
def pendingBoundsRow : OpenClaim := { program := "yteikpdolickkaaa", sum := "08396f301c5270a189f12db1d83f275760d0cc827790ca927d4c261fae3b7840", func := "stickler/sticklerlaw32.PendingBounds", spec := "pendingBounds", plainKeys := false, apart := false }
def PendingBoundsSaid : Prop := pendingBoundsRow.holds Try.pinned (OpenSpec.ofChange pendingBoundsSpec)

/-- ITS FALSE NEIGHBOUR: 'it returns false'. Refute it at one input. -/
def pendingBoundsWrong : ChangeSpec := { name := "pendingBounds", fn := fun _ => fun
  | [d] => { results := [.lit (.bool false)], args := [d] }
  | _ => none }
def PendingBoundsWrongFalsely : Prop := pendingBoundsRow.holds Try.pinned (OpenSpec.ofChange pendingBoundsWrong)

/-- 'sticklerlaw32.PendingNobody': WHATEVER THE INPUT: true; the input reads as it did. -/
def pendingNobodySpec : ChangeSpec := { name := "pendingNobody", fn := fun _ => fun
  | [d] => { results := [.lit (.bool true)], args := [d] }
  | _ => none }
def pendingNobodyRow : OpenClaim := { program := "yteikpdolickkaaa", sum := "08396f301c5270a189f12db1d83f275760d0cc827790ca927d4c261fae3b7840", func := "stickler/sticklerlaw32.PendingNobody", spec := "pendingNobody", plainKeys := false, apart := false }
def PendingNobodySaid : Prop := pendingNobodyRow.holds Try.pinned (OpenSpec.ofChange pendingNobodySpec)

/-- ITS FALSE NEIGHBOUR: 'it returns false'. Refute it at one input. -/
def pendingNobodyWrong : ChangeSpec := { name := "pendingNobody", fn := fun _ => fun
  | [d] => { results := [.lit (.bool false)], args := [d] }
  | _ => none }
def PendingNobodyWrongFalsely : Prop := pendingNobodyRow.holds Try.pinned (OpenSpec.ofChange pendingNobodyWrong)

/-- 'sticklerlaw34.RosterNobody': WHATEVER THE INPUT: true; the input reads as it did. -/
def rosterNobodySpec : ChangeSpec := { name := "rosterNobody", fn := fun _ => fun
  | [d1, d2] => { results := [.lit (.bool true)], args := [d1, d2] }
  | _ => none }
def rosterNobodyRow : OpenClaim := { program := "yteikpdolickkaaa", sum := "08396f301c5270a189f12db1d83f275760d0cc827790ca927d4c261fae3b7840", func := "stickler/sticklerlaw34.RosterNobody", spec := "rosterNobody", plainKeys := false, apart := false }
def RosterNobodySaid : Prop := rosterNobodyRow.holds Try.pinned (OpenSpec.ofChange rosterNobodySpec)

/-- ITS FALSE NEIGHBOUR: 'it returns false'. Refute it at one input. -/
def rosterNobodyWrong : ChangeSpec := { name := "rosterNobody", fn := fun _ => fun
  | [d1, d2] => { results := [.lit (.bool false)], args := [d1, d2] }
  | _ => none }
def RosterNobodyWrongFalsely : Prop := rosterNobodyRow.holds Try.pinned (OpenSpec.ofChange rosterNobodyWrong)

/-- 'sticklerlaw35.GracePlays': WHATEVER THE INPUT: true; the input reads as it did. -/
def gracePlaysSpec : ChangeSpec := { name := "gracePlays", fn := fun _ => fun
  | [d1, d2] => { results := [.lit (.bool true)], args := [d1, d2] }
  | _ => none }
def gracePlaysRow : OpenClaim := { program := "yteikpdolickkaaa", sum := "08396f301c5270a189f12db1d83f275760d0cc827790ca927d4c261fae3b7840", func := "stickler/sticklerlaw35.GracePlays", spec := "gracePlays", plainKeys := false, apart := false }
def GracePlaysSaid : Prop := gracePlaysRow.holds Try.pinned (OpenSpec.ofChange gracePlaysSpec)

/-- ITS FALSE NEIGHBOUR: 'it returns false'. Refute it at one input. -/
def gracePlaysWrong : ChangeSpec := { name := "gracePlays", fn := fun _ => fun
  | [d1, d2] => { results := [.lit (.bool false)], args := [d1, d2] }
  | _ => none }
def GracePlaysWrongFalsely : Prop := gracePlaysRow.holds Try.pinned (OpenSpec.ofChange gracePlaysWrong)

/-- 'sticklerlaw36.PingsPlays': WHATEVER THE INPUT: true; the input reads as it did. -/
def pingsPlaysSpec : ChangeSpec := { name := "pingsPlays", fn := fun _ => fun
  | [d1, d2] => { results := [.lit (.bool true)], args := [d1, d2] }
  | _ => none }
def pingsPlaysRow : OpenClaim := { program := "yteikpdolickkaaa", sum := "08396f301c5270a189f12db1d83f275760d0cc827790ca927d4c261fae3b7840", func := "stickler/sticklerlaw36.PingsPlays", spec := "pingsPlays", plainKeys := false, apart := false }
def PingsPlaysSaid : Prop := pingsPlaysRow.holds Try.pinned (OpenSpec.ofChange pingsPlaysSpec)

/-- ITS FALSE NEIGHBOUR: 'it returns false'. Refute it at one input. -/
def pingsPlaysWrong : ChangeSpec := { name := "pingsPlays", fn := fun _ => fun
  | [d1, d2] => { results := [.lit (.bool false)], args := [d1, d2] }
  | _ => none }
def PingsPlaysWrongFalsely : Prop := pingsPlaysRow.holds Try.pinned (OpenSpec.ofChange pingsPlaysWrong)

/- THE SECOND FORM. 'bulk': how many values and letters a reading holds, each counted each time it is reached (what is shared counts as often as it is met; a slice's spare places count too). A statement '..UptoSaid' is the law's where the arguments, and the package variables that the reading takes, are together of bulk at most 1048576: NARROWER than '..Said'. Prove '..Said' where nothing that the law and all that it calls make is longer than what came in: it says more and counts as full. Else prove '..UptoSaid'. A law counts once. -/
mutual
def uptoBulk {H : Type} : DataW H → Nat
  | .lit (.string bytes) => bytes.length + 1
  | .lit _ => 1
  | .nil => 1
  | .ptr d => uptoBulk d + 1
  | .slice elems spare => uptoBulkAll elems + uptoBulkAll spare + 1
  | .agg parts => uptoBulkAll parts + 1
  | .iface _ d => uptoBulk d + 1
  | .map entries => uptoBulkEntries entries + 1
  | .held _ => 1
def uptoBulkAll {H : Type} : List (DataW H) → Nat
  | [] => 0
  | d :: r => uptoBulk d + uptoBulkAll r
def uptoBulkEntries {H : Type} : List (Lit × DataW H) → Nat
  | [] => 0
  | x :: r => uptoBulkEntry x + uptoBulkEntries r
def uptoBulkEntry {H : Type} : Lit × DataW H → Nat
  | (.string bytes, d) => bytes.length + uptoBulk d + 1
  | (_, d) => uptoBulk d + 1
 end
def uptoSmall : (H : Type) → List (DataW H) → Bool := fun _ ds => decide (uptoBulkAll ds ≤ 1048576)
def OpenSpec.upto (s : _root_.Go.ChangeSpec) : _root_.Go.OpenSpec := { _root_.Go.OpenSpec.ofChange s with cond := some uptoSmall }

/-- 'sticklerlaw12.CutterNobody', WHERE WHAT IT READS IS OF BULK AT MOST 1048576: true; the input reads as it did. -/
def cutterNobodyUptoRow : OpenClaim := { program := "yteikpdolickkaaa", sum := "08396f301c5270a189f12db1d83f275760d0cc827790ca927d4c261fae3b7840", func := "stickler/sticklerlaw12.CutterNobody", spec := "cutterNobody", plainKeys := false, apart := false, narrowed := true }
def CutterNobodyUptoSaid : Prop := cutterNobodyUptoRow.holds Try.pinned (OpenSpec.upto cutterNobodySpec)

/-- 'sticklerlaw21.DyntabPlays', WHERE WHAT IT READS IS OF BULK AT MOST 1048576: true; the input reads as it did. -/
def dyntabPlaysUptoRow : OpenClaim := { program := "yteikpdolickkaaa", sum := "08396f301c5270a189f12db1d83f275760d0cc827790ca927d4c261fae3b7840", func := "stickler/sticklerlaw21.DyntabPlays", spec := "dyntabPlays", plainKeys := false, apart := false, narrowed := true }
def DyntabPlaysUptoSaid : Prop := dyntabPlaysUptoRow.holds Try.pinned (OpenSpec.upto dyntabPlaysSpec)

/-- 'sticklerlaw21.DyntabBounds', WHERE WHAT IT READS IS OF BULK AT MOST 1048576: true; the input reads as it did. -/
def dyntabBoundsUptoRow : OpenClaim := { program := "yteikpdolickkaaa", sum := "08396f301c5270a189f12db1d83f275760d0cc827790ca927d4c261fae3b7840", func := "stickler/sticklerlaw21.DyntabBounds", spec := "dyntabBounds", plainKeys := false, apart := false, narrowed := true }
def DyntabBoundsUptoSaid : Prop := dyntabBoundsUptoRow.holds Try.pinned (OpenSpec.upto dyntabBoundsSpec)

/-- 'sticklerlaw21.DyntabCopies', WHERE WHAT IT READS IS OF BULK AT MOST 1048576: true; the input reads as it did. -/
def dyntabCopiesUptoRow : OpenClaim := { program := "yteikpdolickkaaa", sum := "08396f301c5270a189f12db1d83f275760d0cc827790ca927d4c261fae3b7840", func := "stickler/sticklerlaw21.DyntabCopies", spec := "dyntabCopies", plainKeys := false, apart := false, narrowed := true }
def DyntabCopiesUptoSaid : Prop := dyntabCopiesUptoRow.holds Try.pinned (OpenSpec.upto dyntabCopiesSpec)

/-- 'sticklerlaw30.BlockParts', WHERE WHAT IT READS IS OF BULK AT MOST 1048576: true; the input reads as it did. -/
def blockPartsUptoRow : OpenClaim := { program := "yteikpdolickkaaa", sum := "08396f301c5270a189f12db1d83f275760d0cc827790ca927d4c261fae3b7840", func := "stickler/sticklerlaw30.BlockParts", spec := "blockParts", plainKeys := false, apart := false, narrowed := true }
def BlockPartsUptoSaid : Prop := blockPartsUptoRow.holds Try.pinned (OpenSpec.upto blockPartsSpec)

/-- 'sticklerlaw30.BlockNobody', WHERE WHAT IT READS IS OF BULK AT MOST 1048576: true; the input reads as it did. -/
def blockNobodyUptoRow : OpenClaim := { program := "yteikpdolickkaaa", sum := "08396f301c5270a189f12db1d83f275760d0cc827790ca927d4c261fae3b7840", func := "stickler/sticklerlaw30.BlockNobody", spec := "blockNobody", plainKeys := false, apart := false, narrowed := true }
def BlockNobodyUptoSaid : Prop := blockNobodyUptoRow.holds Try.pinned (OpenSpec.upto blockNobodySpec)

/-- 'sticklerlaw32.PendingPlays', WHERE WHAT IT READS IS OF BULK AT MOST 1048576: true; the input reads as it did. -/
def pendingPlaysUptoRow : OpenClaim := { program := "yteikpdolickkaaa", sum := "08396f301c5270a189f12db1d83f275760d0cc827790ca927d4c261fae3b7840", func := "stickler/sticklerlaw32.PendingPlays", spec := "pendingPlays", plainKeys := false, apart := false, narrowed := true }
def PendingPlaysUptoSaid : Prop := pendingPlaysUptoRow.holds Try.pinned (OpenSpec.upto pendingPlaysSpec)

/-- 'sticklerlaw32.PendingBounds', WHERE WHAT IT READS IS OF BULK AT MOST 1048576: true; the input reads as it did. -/
def pendingBoundsUptoRow : OpenClaim := { program := "yteikpdolickkaaa", sum := "08396f301c5270a189f12db1d83f275760d0cc827790ca927d4c261fae3b7840", func := "stickler/sticklerlaw32.PendingBounds", spec := "pendingBounds", plainKeys := false, apart := false, narrowed := true }
def PendingBoundsUptoSaid : Prop := pendingBoundsUptoRow.holds Try.pinned (OpenSpec.upto pendingBoundsSpec)

/-- 'sticklerlaw32.PendingNobody', WHERE WHAT IT READS IS OF BULK AT MOST 1048576: true; the input reads as it did. -/
def pendingNobodyUptoRow : OpenClaim := { program := "yteikpdolickkaaa", sum := "08396f301c5270a189f12db1d83f275760d0cc827790ca927d4c261fae3b7840", func := "stickler/sticklerlaw32.PendingNobody", spec := "pendingNobody", plainKeys := false, apart := false, narrowed := true }
def PendingNobodyUptoSaid : Prop := pendingNobodyUptoRow.holds Try.pinned (OpenSpec.upto pendingNobodySpec)

/-- 'sticklerlaw34.RosterNobody', WHERE WHAT IT READS IS OF BULK AT MOST 1048576: true; the input reads as it did. -/
def rosterNobodyUptoRow : OpenClaim := { program := "yteikpdolickkaaa", sum := "08396f301c5270a189f12db1d83f275760d0cc827790ca927d4c261fae3b7840", func := "stickler/sticklerlaw34.RosterNobody", spec := "rosterNobody", plainKeys := false, apart := false, narrowed := true }
def RosterNobodyUptoSaid : Prop := rosterNobodyUptoRow.holds Try.pinned (OpenSpec.upto rosterNobodySpec)

/-- 'sticklerlaw35.GracePlays', WHERE WHAT IT READS IS OF BULK AT MOST 1048576: true; the input reads as it did. -/
def gracePlaysUptoRow : OpenClaim := { program := "yteikpdolickkaaa", sum := "08396f301c5270a189f12db1d83f275760d0cc827790ca927d4c261fae3b7840", func := "stickler/sticklerlaw35.GracePlays", spec := "gracePlays", plainKeys := false, apart := false, narrowed := true }
def GracePlaysUptoSaid : Prop := gracePlaysUptoRow.holds Try.pinned (OpenSpec.upto gracePlaysSpec)

/-- 'sticklerlaw36.PingsPlays', WHERE WHAT IT READS IS OF BULK AT MOST 1048576: true; the input reads as it did. -/
def pingsPlaysUptoRow : OpenClaim := { program := "yteikpdolickkaaa", sum := "08396f301c5270a189f12db1d83f275760d0cc827790ca927d4c261fae3b7840", func := "stickler/sticklerlaw36.PingsPlays", spec := "pingsPlays", plainKeys := false, apart := false, narrowed := true }
def PingsPlaysUptoSaid : Prop := pingsPlaysUptoRow.holds Try.pinned (OpenSpec.upto pingsPlaysSpec)

end Rows
end Go.Proofs.Yteikpdolickkaaa
