/-
  NARROWER THAN 'FOR EVERY INPUT', by the rows' own cells (each row's printed sentence says how): DecoderNobody: laid · DecoderBounds: laid · DecoderPlays: laid · EncoderNobody: laid · EncoderWrites: laid · EncoderBack: laid.
  DERIVED. THE GIVEN ROWS OF THIS SEAT. 6 by the template 'for every input the law returns true; each argument reads behind the call as it read before'; 0 by the template 'total and deterministic' (their statements: YtnkcbljhgcgpaaaDoorTotals.lean).
  GIVEN WITH THE SEED: the statements are not yours to turn. If you find one false, say at which input.
  Laid BY PROGRAM, IN A SANDBOX (cutbox-rows.mjs): the forced cells as the released guide's own fill.sh prints them over the translation 889c92c63a5a5b15… (all of the seat's roots in one cut). By AI agents, Wed Nov 11 2026. No macro, syntax, notation, axiom, sorry.
-/
import Derived.Test.YtnkcbljhgcgpaaaDoorChecked
import GoSem.Claim
import GoSem.ClaimJoined
import GoSem.ClaimMapViews
import Derived.JoinedTies
import Derived.KernelRfl
namespace Go.Proofs.YtnkcbljhgcgpaaaDoor
/- THE CELL 'sum', in the pinned program and in every row, IS THE sha256 OF THE DUMP (.gsa) THAT YtnkcbljhgcgpaaaDoorProg.lean LOADS. Nothing in Lean hashes anything: it is a label: what it is worth is what the hold of that sum in a sandbox is worth. -/
noncomputable def Tryd.pinned : Pinned := { name := "ytnkcbljhgcgpaaadoor", sum := "889c92c63a5a5b1557d229922f6f89354c2197c4bdc32fc9782bfd26902f374d", checked := Tryd.checked }
namespace Rows
def none {H : Type} : Left H := { results := [], args := [] }

/- WHAT THE LISTED PACKAGE-LEVEL VARIABLES READ AS WHEN THE CALL BEGINS. Each datum BY PROGRAM (the guide's laid-datum.mjs) off the statement by which the dump's own 'gosem.cut.vars' lays the variable. In a bare row this is a premise. The card (YtnkcbljhgcgpaaaDoorCards.lean) ties it to the program's text. -/
def laid_stickler_repr_forms {H : Type} : DataW H := .agg [.agg [.lit (.int .i64 0), .lit (.int .i64 0)], .agg [.lit (.int .i64 128), .lit (.int .i64 7)], .agg [.lit (.int .i64 64), .lit (.int .i64 6)], .agg [.lit (.int .i64 0), .lit (.int .i64 4)], .agg [.lit (.int .i64 16), .lit (.int .i64 4)], .agg [.lit (.int .i64 32), .lit (.int .i64 5)]]

/-- 'sticklerlaw23.DecoderNobody': WHATEVER THE INPUT: true; the input reads as it did. -/
def decoderNobodySpec : ChangeSpec := { name := "decoderNobody", fn := fun _ => fun
  | [d] => { results := [.lit (.bool true)], args := [d] }
  | _ => none }
def decoderNobodyRow : OpenClaim := { program := "ytnkcbljhgcgpaaadoor", sum := "889c92c63a5a5b1557d229922f6f89354c2197c4bdc32fc9782bfd26902f374d", func := "stickler/sticklerlaw23.DecoderNobody", spec := "decoderNobody", named := ["stickler/repr.forms"], apart := false, laid := [("stickler/repr.forms", laid_stickler_repr_forms)] }
def DecoderNobodySaid : Prop := decoderNobodyRow.holds Tryd.pinned (OpenSpec.ofChange decoderNobodySpec)

/-- ITS FALSE NEIGHBOUR: 'it returns false'. Refute it at one input. -/
def decoderNobodyWrong : ChangeSpec := { name := "decoderNobody", fn := fun _ => fun
  | [d] => { results := [.lit (.bool false)], args := [d] }
  | _ => none }
def DecoderNobodyWrongFalsely : Prop := decoderNobodyRow.holds Tryd.pinned (OpenSpec.ofChange decoderNobodyWrong)

/-- 'sticklerlaw23.DecoderBounds': WHATEVER THE INPUT: true; the input reads as it did. -/
def decoderBoundsSpec : ChangeSpec := { name := "decoderBounds", fn := fun _ => fun
  | [d1, d2] => { results := [.lit (.bool true)], args := [d1, d2] }
  | _ => none }
def decoderBoundsRow : OpenClaim := { program := "ytnkcbljhgcgpaaadoor", sum := "889c92c63a5a5b1557d229922f6f89354c2197c4bdc32fc9782bfd26902f374d", func := "stickler/sticklerlaw23.DecoderBounds", spec := "decoderBounds", named := ["stickler/repr.forms"], apart := false, laid := [("stickler/repr.forms", laid_stickler_repr_forms)] }
def DecoderBoundsSaid : Prop := decoderBoundsRow.holds Tryd.pinned (OpenSpec.ofChange decoderBoundsSpec)

/-- ITS FALSE NEIGHBOUR: 'it returns false'. Refute it at one input. -/
def decoderBoundsWrong : ChangeSpec := { name := "decoderBounds", fn := fun _ => fun
  | [d1, d2] => { results := [.lit (.bool false)], args := [d1, d2] }
  | _ => none }
def DecoderBoundsWrongFalsely : Prop := decoderBoundsRow.holds Tryd.pinned (OpenSpec.ofChange decoderBoundsWrong)

/-- 'sticklerlaw23.DecoderPlays': WHATEVER THE INPUT: true; the input reads as it did. -/
def decoderPlaysSpec : ChangeSpec := { name := "decoderPlays", fn := fun _ => fun
  | [d1, d2] => { results := [.lit (.bool true)], args := [d1, d2] }
  | _ => none }
def decoderPlaysRow : OpenClaim := { program := "ytnkcbljhgcgpaaadoor", sum := "889c92c63a5a5b1557d229922f6f89354c2197c4bdc32fc9782bfd26902f374d", func := "stickler/sticklerlaw23.DecoderPlays", spec := "decoderPlays", named := ["stickler/repr.forms"], apart := false, laid := [("stickler/repr.forms", laid_stickler_repr_forms)] }
def DecoderPlaysSaid : Prop := decoderPlaysRow.holds Tryd.pinned (OpenSpec.ofChange decoderPlaysSpec)

/-- ITS FALSE NEIGHBOUR: 'it returns false'. Refute it at one input. -/
def decoderPlaysWrong : ChangeSpec := { name := "decoderPlays", fn := fun _ => fun
  | [d1, d2] => { results := [.lit (.bool false)], args := [d1, d2] }
  | _ => none }
def DecoderPlaysWrongFalsely : Prop := decoderPlaysRow.holds Tryd.pinned (OpenSpec.ofChange decoderPlaysWrong)

/-- 'sticklerlaw24.EncoderNobody': WHATEVER THE INPUT: true; the input reads as it did. -/
def encoderNobodySpec : ChangeSpec := { name := "encoderNobody", fn := fun _ => fun
  | [d] => { results := [.lit (.bool true)], args := [d] }
  | _ => none }
def encoderNobodyRow : OpenClaim := { program := "ytnkcbljhgcgpaaadoor", sum := "889c92c63a5a5b1557d229922f6f89354c2197c4bdc32fc9782bfd26902f374d", func := "stickler/sticklerlaw24.EncoderNobody", spec := "encoderNobody", recurses := true, named := ["stickler/repr.forms"], apart := false, laid := [("stickler/repr.forms", laid_stickler_repr_forms)] }
def EncoderNobodySaid : Prop := encoderNobodyRow.holds Tryd.pinned (OpenSpec.ofChange encoderNobodySpec)

/-- ITS FALSE NEIGHBOUR: 'it returns false'. Refute it at one input. -/
def encoderNobodyWrong : ChangeSpec := { name := "encoderNobody", fn := fun _ => fun
  | [d] => { results := [.lit (.bool false)], args := [d] }
  | _ => none }
def EncoderNobodyWrongFalsely : Prop := encoderNobodyRow.holds Tryd.pinned (OpenSpec.ofChange encoderNobodyWrong)

/-- 'sticklerlaw24.EncoderWrites': WHATEVER THE INPUT: true; the input reads as it did. -/
def encoderWritesSpec : ChangeSpec := { name := "encoderWrites", fn := fun _ => fun
  | [d1, d2] => { results := [.lit (.bool true)], args := [d1, d2] }
  | _ => none }
def encoderWritesRow : OpenClaim := { program := "ytnkcbljhgcgpaaadoor", sum := "889c92c63a5a5b1557d229922f6f89354c2197c4bdc32fc9782bfd26902f374d", func := "stickler/sticklerlaw24.EncoderWrites", spec := "encoderWrites", recurses := true, named := ["stickler/repr.forms"], apart := false, laid := [("stickler/repr.forms", laid_stickler_repr_forms)] }
def EncoderWritesSaid : Prop := encoderWritesRow.holds Tryd.pinned (OpenSpec.ofChange encoderWritesSpec)

/-- ITS FALSE NEIGHBOUR: 'it returns false'. Refute it at one input. -/
def encoderWritesWrong : ChangeSpec := { name := "encoderWrites", fn := fun _ => fun
  | [d1, d2] => { results := [.lit (.bool false)], args := [d1, d2] }
  | _ => none }
def EncoderWritesWrongFalsely : Prop := encoderWritesRow.holds Tryd.pinned (OpenSpec.ofChange encoderWritesWrong)

/-- 'sticklerlaw24.EncoderBack': WHATEVER THE INPUT: true; the input reads as it did. -/
def encoderBackSpec : ChangeSpec := { name := "encoderBack", fn := fun _ => fun
  | [d1, d2] => { results := [.lit (.bool true)], args := [d1, d2] }
  | _ => none }
def encoderBackRow : OpenClaim := { program := "ytnkcbljhgcgpaaadoor", sum := "889c92c63a5a5b1557d229922f6f89354c2197c4bdc32fc9782bfd26902f374d", func := "stickler/sticklerlaw24.EncoderBack", spec := "encoderBack", named := ["stickler/repr.forms"], apart := false, laid := [("stickler/repr.forms", laid_stickler_repr_forms)] }
def EncoderBackSaid : Prop := encoderBackRow.holds Tryd.pinned (OpenSpec.ofChange encoderBackSpec)

/-- ITS FALSE NEIGHBOUR: 'it returns false'. Refute it at one input. -/
def encoderBackWrong : ChangeSpec := { name := "encoderBack", fn := fun _ => fun
  | [d1, d2] => { results := [.lit (.bool false)], args := [d1, d2] }
  | _ => none }
def EncoderBackWrongFalsely : Prop := encoderBackRow.holds Tryd.pinned (OpenSpec.ofChange encoderBackWrong)

/- THE SECOND FORM. 'bulk': how many values and letters a reading holds, each counted each time it is reached (what is shared counts as often as it is met; a slice's spare places count too). A statement '..UptoSaid' is the law's where the arguments, and the package variables that the reading takes, are together of bulk at most 1048576: NARROWER than '..Said'. Prove '..Said' where nothing that the law and all that it calls make is longer than what came in: it says more and counts as full. Else prove '..UptoSaid'. A law counts once. -/
mutual
def uptoBulk {H : Type} : DataW H → Nat
  | .lit (.string bytes) => bytes.length + 1
  | .lit _ => 1
  | .nil => 1
  | .ptr d => uptoBulk d + 1
  | .slice elems spare => uptoBulkAll elems + uptoBulkAll spare + 1
  | .agg parts => uptoBulkAll parts + 1
  | .iface _ d => uptoBulk d + 1
  | .map entries => uptoBulkEntries entries + 1
  | .held _ => 1
def uptoBulkAll {H : Type} : List (DataW H) → Nat
  | [] => 0
  | d :: r => uptoBulk d + uptoBulkAll r
def uptoBulkEntries {H : Type} : List (Lit × DataW H) → Nat
  | [] => 0
  | x :: r => uptoBulkEntry x + uptoBulkEntries r
def uptoBulkEntry {H : Type} : Lit × DataW H → Nat
  | (.string bytes, d) => bytes.length + uptoBulk d + 1
  | (_, d) => uptoBulk d + 1
 end
def uptoSmall : (H : Type) → List (DataW H) → Bool := fun _ ds => decide (uptoBulkAll ds ≤ 1048576)
def OpenSpec.upto (s : _root_.Go.ChangeSpec) : _root_.Go.OpenSpec := { _root_.Go.OpenSpec.ofChange s with cond := some uptoSmall }

/-- 'sticklerlaw23.DecoderNobody', WHERE WHAT IT READS IS OF BULK AT MOST 1048576: true; the input reads as it did. -/
def decoderNobodyUptoRow : OpenClaim := { program := "ytnkcbljhgcgpaaadoor", sum := "889c92c63a5a5b1557d229922f6f89354c2197c4bdc32fc9782bfd26902f374d", func := "stickler/sticklerlaw23.DecoderNobody", spec := "decoderNobody", named := ["stickler/repr.forms"], apart := false, laid := [("stickler/repr.forms", laid_stickler_repr_forms)], narrowed := true }
def DecoderNobodyUptoSaid : Prop := decoderNobodyUptoRow.holds Tryd.pinned (OpenSpec.upto decoderNobodySpec)

/-- 'sticklerlaw23.DecoderBounds', WHERE WHAT IT READS IS OF BULK AT MOST 1048576: true; the input reads as it did. -/
def decoderBoundsUptoRow : OpenClaim := { program := "ytnkcbljhgcgpaaadoor", sum := "889c92c63a5a5b1557d229922f6f89354c2197c4bdc32fc9782bfd26902f374d", func := "stickler/sticklerlaw23.DecoderBounds", spec := "decoderBounds", named := ["stickler/repr.forms"], apart := false, laid := [("stickler/repr.forms", laid_stickler_repr_forms)], narrowed := true }
def DecoderBoundsUptoSaid : Prop := decoderBoundsUptoRow.holds Tryd.pinned (OpenSpec.upto decoderBoundsSpec)

/-- 'sticklerlaw23.DecoderPlays', WHERE WHAT IT READS IS OF BULK AT MOST 1048576: true; the input reads as it did. -/
def decoderPlaysUptoRow : OpenClaim := { program := "ytnkcbljhgcgpaaadoor", sum := "889c92c63a5a5b1557d229922f6f89354c2197c4bdc32fc9782bfd26902f374d", func := "stickler/sticklerlaw23.DecoderPlays", spec := "decoderPlays", named := ["stickler/repr.forms"], apart := false, laid := [("stickler/repr.forms", laid_stickler_repr_forms)], narrowed := true }
def DecoderPlaysUptoSaid : Prop := decoderPlaysUptoRow.holds Tryd.pinned (OpenSpec.upto decoderPlaysSpec)

/-- 'sticklerlaw24.EncoderNobody', WHERE WHAT IT READS IS OF BULK AT MOST 1048576: true; the input reads as it did. -/
def encoderNobodyUptoRow : OpenClaim := { program := "ytnkcbljhgcgpaaadoor", sum := "889c92c63a5a5b1557d229922f6f89354c2197c4bdc32fc9782bfd26902f374d", func := "stickler/sticklerlaw24.EncoderNobody", spec := "encoderNobody", recurses := true, named := ["stickler/repr.forms"], apart := false, laid := [("stickler/repr.forms", laid_stickler_repr_forms)], narrowed := true }
def EncoderNobodyUptoSaid : Prop := encoderNobodyUptoRow.holds Tryd.pinned (OpenSpec.upto encoderNobodySpec)

/-- 'sticklerlaw24.EncoderWrites', WHERE WHAT IT READS IS OF BULK AT MOST 1048576: true; the input reads as it did. -/
def encoderWritesUptoRow : OpenClaim := { program := "ytnkcbljhgcgpaaadoor", sum := "889c92c63a5a5b1557d229922f6f89354c2197c4bdc32fc9782bfd26902f374d", func := "stickler/sticklerlaw24.EncoderWrites", spec := "encoderWrites", recurses := true, named := ["stickler/repr.forms"], apart := false, laid := [("stickler/repr.forms", laid_stickler_repr_forms)], narrowed := true }
def EncoderWritesUptoSaid : Prop := encoderWritesUptoRow.holds Tryd.pinned (OpenSpec.upto encoderWritesSpec)

/-- 'sticklerlaw24.EncoderBack', WHERE WHAT IT READS IS OF BULK AT MOST 1048576: true; the input reads as it did. -/
def encoderBackUptoRow : OpenClaim := { program := "ytnkcbljhgcgpaaadoor", sum := "889c92c63a5a5b1557d229922f6f89354c2197c4bdc32fc9782bfd26902f374d", func := "stickler/sticklerlaw24.EncoderBack", spec := "encoderBack", named := ["stickler/repr.forms"], apart := false, laid := [("stickler/repr.forms", laid_stickler_repr_forms)], narrowed := true }
def EncoderBackUptoSaid : Prop := encoderBackUptoRow.holds Tryd.pinned (OpenSpec.upto encoderBackSpec)

end Rows
end Go.Proofs.YtnkcbljhgcgpaaaDoor
