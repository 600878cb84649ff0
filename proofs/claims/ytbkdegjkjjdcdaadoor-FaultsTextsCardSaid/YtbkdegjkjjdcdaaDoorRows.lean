/-
  NARROWER THAN 'FOR EVERY INPUT', by the rows' own cells (each row's printed sentence says how): KindsFlags: laid · FaultsSets: laid · FaultsTexts: laid · RecordOf: laid.
  DERIVED. THE GIVEN ROWS OF THIS SEAT. 4 by the template 'for every input the law returns true; each argument reads behind the call as it read before'; 0 by the template 'total and deterministic' (their statements: YtbkdegjkjjdcdaaDoorTotals.lean).
  GIVEN WITH THE SEED: the statements are not yours to turn. If you find one false, say at which input.
  Laid BY PROGRAM, IN A SANDBOX (cutbox-rows.mjs): the forced cells as the released guide's own fill.sh prints them over the translation 64b3e538a76cde18… (all of the seat's roots in one cut). By AI agents, Wed Nov 11 2026. No macro, syntax, notation, axiom, sorry.
-/
import Derived.Test.YtbkdegjkjjdcdaaDoorChecked
import GoSem.PinnedTables
import GoSem.Claim
import GoSem.ClaimJoined
import GoSem.ClaimMapViews
import Derived.JoinedTies
import Derived.KernelRfl
namespace Go.Proofs.YtbkdegjkjjdcdaaDoor
/- THE CELL 'sum', in the pinned program and in every row, IS THE sha256 OF THE DUMP (.gsa) THAT YtbkdegjkjjdcdaaDoorProg.lean LOADS. Nothing in Lean hashes anything: it is a label: what it is worth is what the hold of that sum in a sandbox is worth. -/
noncomputable def Tryd.pinned : Pinned := { name := "ytbkdegjkjjdcdaadoor", sum := "64b3e538a76cde1859cc2bfe7358b38b4dc971bc608800349704d5c7b3c160ea", checked := Tryd.checked }
namespace Rows
def none {H : Type} : Left H := { results := [], args := [] }

/- WHAT THE LISTED PACKAGE-LEVEL VARIABLES READ AS WHEN THE CALL BEGINS. Each datum BY PROGRAM (the guide's laid-datum.mjs) off the statement by which the dump's own 'gosem.cut.vars' lays the variable. In a bare row this is a premise. The card (YtbkdegjkjjdcdaaDoorCards.lean) ties it to the program's text. -/
def laid_math_bits_deBruijn32tab {H : Type} : DataW H := .agg [.lit (.int .u8 0), .lit (.int .u8 1), .lit (.int .u8 28), .lit (.int .u8 2), .lit (.int .u8 29), .lit (.int .u8 14), .lit (.int .u8 24), .lit (.int .u8 3), .lit (.int .u8 30), .lit (.int .u8 22), .lit (.int .u8 20), .lit (.int .u8 15), .lit (.int .u8 25), .lit (.int .u8 17), .lit (.int .u8 4), .lit (.int .u8 8), .lit (.int .u8 31), .lit (.int .u8 27), .lit (.int .u8 13), .lit (.int .u8 23), .lit (.int .u8 21), .lit (.int .u8 19), .lit (.int .u8 16), .lit (.int .u8 7), .lit (.int .u8 26), .lit (.int .u8 12), .lit (.int .u8 18), .lit (.int .u8 6), .lit (.int .u8 11), .lit (.int .u8 5), .lit (.int .u8 10), .lit (.int .u8 9)]
def laid_math_bits_deBruijn64tab {H : Type} : DataW H := .agg [.lit (.int .u8 0), .lit (.int .u8 1), .lit (.int .u8 56), .lit (.int .u8 2), .lit (.int .u8 57), .lit (.int .u8 49), .lit (.int .u8 28), .lit (.int .u8 3), .lit (.int .u8 61), .lit (.int .u8 58), .lit (.int .u8 42), .lit (.int .u8 50), .lit (.int .u8 38), .lit (.int .u8 29), .lit (.int .u8 17), .lit (.int .u8 4), .lit (.int .u8 62), .lit (.int .u8 47), .lit (.int .u8 59), .lit (.int .u8 36), .lit (.int .u8 45), .lit (.int .u8 43), .lit (.int .u8 51), .lit (.int .u8 22), .lit (.int .u8 53), .lit (.int .u8 39), .lit (.int .u8 33), .lit (.int .u8 30), .lit (.int .u8 24), .lit (.int .u8 18), .lit (.int .u8 12), .lit (.int .u8 5), .lit (.int .u8 63), .lit (.int .u8 55), .lit (.int .u8 48), .lit (.int .u8 27), .lit (.int .u8 60), .lit (.int .u8 41), .lit (.int .u8 37), .lit (.int .u8 16), .lit (.int .u8 46), .lit (.int .u8 35), .lit (.int .u8 44), .lit (.int .u8 21), .lit (.int .u8 52), .lit (.int .u8 32), .lit (.int .u8 23), .lit (.int .u8 11), .lit (.int .u8 54), .lit (.int .u8 26), .lit (.int .u8 40), .lit (.int .u8 15), .lit (.int .u8 34), .lit (.int .u8 20), .lit (.int .u8 31), .lit (.int .u8 10), .lit (.int .u8 25), .lit (.int .u8 14), .lit (.int .u8 19), .lit (.int .u8 9), .lit (.int .u8 13), .lit (.int .u8 8), .lit (.int .u8 7), .lit (.int .u8 6)]
def laid_internal_strconv_uint64pow10 {H : Type} : DataW H := .agg [.lit (.int .u64 1), .lit (.int .u64 10), .lit (.int .u64 100), .lit (.int .u64 1000), .lit (.int .u64 10000), .lit (.int .u64 100000), .lit (.int .u64 1000000), .lit (.int .u64 10000000), .lit (.int .u64 100000000), .lit (.int .u64 1000000000), .lit (.int .u64 10000000000), .lit (.int .u64 100000000000), .lit (.int .u64 1000000000000), .lit (.int .u64 10000000000000), .lit (.int .u64 100000000000000), .lit (.int .u64 1000000000000000), .lit (.int .u64 10000000000000000), .lit (.int .u64 100000000000000000), .lit (.int .u64 1000000000000000000), .lit (.int .u64 10000000000000000000)]
def laid_stickler_kinds_names {H : Type} : DataW H := .agg [.lit (.string [68, 65, 84, 65]), .lit (.string [72, 69, 65, 68, 69, 82, 83]), .lit (.string [80, 82, 73, 79, 82, 73, 84, 89]), .lit (.string [82, 83, 84, 95, 83, 84, 82, 69, 65, 77]), .lit (.string [83, 69, 84, 84, 73, 78, 71, 83]), .lit (.string [80, 85, 83, 72, 95, 80, 82, 79, 77, 73, 83, 69]), .lit (.string [80, 73, 78, 71]), .lit (.string [71, 79, 65, 87, 65, 89]), .lit (.string [87, 73, 78, 68, 79, 87, 95, 85, 80, 68, 65, 84, 69]), .lit (.string [67, 79, 78, 84, 73, 78, 85, 65, 84, 73, 79, 78])]
def laid_stickler_faults_codeNames {H : Type} : DataW H := .agg [.lit (.string [78, 79, 95, 69, 82, 82, 79, 82]), .lit (.string [80, 82, 79, 84, 79, 67, 79, 76, 95, 69, 82, 82, 79, 82]), .lit (.string [73, 78, 84, 69, 82, 78, 65, 76, 95, 69, 82, 82, 79, 82]), .lit (.string [70, 76, 79, 87, 95, 67, 79, 78, 84, 82, 79, 76, 95, 69, 82, 82, 79, 82]), .lit (.string [83, 69, 84, 84, 73, 78, 71, 83, 95, 84, 73, 77, 69, 79, 85, 84]), .lit (.string [83, 84, 82, 69, 65, 77, 95, 67, 76, 79, 83, 69, 68]), .lit (.string [70, 82, 65, 77, 69, 95, 83, 73, 90, 69, 95, 69, 82, 82, 79, 82]), .lit (.string [82, 69, 70, 85, 83, 69, 68, 95, 83, 84, 82, 69, 65, 77]), .lit (.string [67, 65, 78, 67, 69, 76]), .lit (.string [67, 79, 77, 80, 82, 69, 83, 83, 73, 79, 78, 95, 69, 82, 82, 79, 82]), .lit (.string [67, 79, 78, 78, 69, 67, 84, 95, 69, 82, 82, 79, 82]), .lit (.string [69, 78, 72, 65, 78, 67, 69, 95, 89, 79, 85, 82, 95, 67, 65, 76, 77]), .lit (.string [73, 78, 65, 68, 69, 81, 85, 65, 84, 69, 95, 83, 69, 67, 85, 82, 73, 84, 89]), .lit (.string [72, 84, 84, 80, 95, 49, 95, 49, 95, 82, 69, 81, 85, 73, 82, 69, 68])]
def laid_unicode_utf8_acceptRanges {H : Type} : DataW H := .agg [.agg [.lit (.int .u8 128), .lit (.int .u8 191)], .agg [.lit (.int .u8 160), .lit (.int .u8 191)], .agg [.lit (.int .u8 128), .lit (.int .u8 159)], .agg [.lit (.int .u8 144), .lit (.int .u8 191)], .agg [.lit (.int .u8 128), .lit (.int .u8 143)], .agg [.lit (.int .u8 0), .lit (.int .u8 0)], .agg [.lit (.int .u8 0), .lit (.int .u8 0)], .agg [.lit (.int .u8 0), .lit (.int .u8 0)], .agg [.lit (.int .u8 0), .lit (.int .u8 0)], .agg [.lit (.int .u8 0), .lit (.int .u8 0)], .agg [.lit (.int .u8 0), .lit (.int .u8 0)], .agg [.lit (.int .u8 0), .lit (.int .u8 0)], .agg [.lit (.int .u8 0), .lit (.int .u8 0)], .agg [.lit (.int .u8 0), .lit (.int .u8 0)], .agg [.lit (.int .u8 0), .lit (.int .u8 0)], .agg [.lit (.int .u8 0), .lit (.int .u8 0)]]
/-- One of Go's own tables, pinned by name: the form's constant. -/
def laid_unicode_utf8_first : DataW Unit := Go.Pinned.utf8First

/-- 'sticklerlaw08.KindsFlags': WHATEVER THE INPUT: true; the input reads as it did. -/
def kindsFlagsSpec : ChangeSpec := { name := "kindsFlags", fn := fun _ => fun
  | [d1, d2, d3] => { results := [.lit (.bool true)], args := [d1, d2, d3] }
  | _ => none }
def kindsFlagsRow : OpenClaim := { program := "ytbkdegjkjjdcdaadoor", sum := "64b3e538a76cde1859cc2bfe7358b38b4dc971bc608800349704d5c7b3c160ea", func := "stickler/sticklerlaw08.KindsFlags", spec := "kindsFlags", named := ["stickler/kinds.names", "internal/strconv.uint64pow10", "math/bits.deBruijn32tab", "math/bits.deBruijn64tab"], apart := false, laid := [("math/bits.deBruijn32tab", laid_math_bits_deBruijn32tab), ("math/bits.deBruijn64tab", laid_math_bits_deBruijn64tab), ("internal/strconv.uint64pow10", laid_internal_strconv_uint64pow10), ("stickler/kinds.names", laid_stickler_kinds_names)] }
def KindsFlagsSaid : Prop := kindsFlagsRow.holds Tryd.pinned (OpenSpec.ofChange kindsFlagsSpec)

/-- ITS FALSE NEIGHBOUR: 'it returns false'. Refute it at one input. -/
def kindsFlagsWrong : ChangeSpec := { name := "kindsFlags", fn := fun _ => fun
  | [d1, d2, d3] => { results := [.lit (.bool false)], args := [d1, d2, d3] }
  | _ => none }
def KindsFlagsWrongFalsely : Prop := kindsFlagsRow.holds Tryd.pinned (OpenSpec.ofChange kindsFlagsWrong)

/-- 'sticklerlaw09.FaultsSets': WHATEVER THE INPUT: true; the input reads as it did. -/
def faultsSetsSpec : ChangeSpec := { name := "faultsSets", fn := fun _ => fun
  | [d1, d2, d3] => { results := [.lit (.bool true)], args := [d1, d2, d3] }
  | _ => none }
def faultsSetsRow : OpenClaim := { program := "ytbkdegjkjjdcdaadoor", sum := "64b3e538a76cde1859cc2bfe7358b38b4dc971bc608800349704d5c7b3c160ea", func := "stickler/sticklerlaw09.FaultsSets", spec := "faultsSets", inPlace := ["internal/abi.NoEscape", "internal/bytealg.MakeNoZero"], unfollowed := true, recurses := true, named := ["stickler/faults.codeNames", "internal/strconv.uint64pow10", "math/bits.deBruijn32tab", "math/bits.deBruijn64tab"], apart := false, laid := [("math/bits.deBruijn32tab", laid_math_bits_deBruijn32tab), ("math/bits.deBruijn64tab", laid_math_bits_deBruijn64tab), ("internal/strconv.uint64pow10", laid_internal_strconv_uint64pow10), ("stickler/faults.codeNames", laid_stickler_faults_codeNames)] }
def FaultsSetsSaid : Prop := faultsSetsRow.holds Tryd.pinned (OpenSpec.ofChange faultsSetsSpec)

/-- ITS FALSE NEIGHBOUR: 'it returns false'. Refute it at one input. -/
def faultsSetsWrong : ChangeSpec := { name := "faultsSets", fn := fun _ => fun
  | [d1, d2, d3] => { results := [.lit (.bool false)], args := [d1, d2, d3] }
  | _ => none }
def FaultsSetsWrongFalsely : Prop := faultsSetsRow.holds Tryd.pinned (OpenSpec.ofChange faultsSetsWrong)

/-- 'sticklerlaw09.FaultsTexts': WHATEVER THE INPUT: true; the input reads as it did. -/
def faultsTextsSpec : ChangeSpec := { name := "faultsTexts", fn := fun _ => fun
  | [d1, d2, d3] => { results := [.lit (.bool true)], args := [d1, d2, d3] }
  | _ => none }
def faultsTextsRow : OpenClaim := { program := "ytbkdegjkjjdcdaadoor", sum := "64b3e538a76cde1859cc2bfe7358b38b4dc971bc608800349704d5c7b3c160ea", func := "stickler/sticklerlaw09.FaultsTexts", spec := "faultsTexts", inPlace := ["internal/abi.NoEscape", "internal/bytealg.MakeNoZero", "internal/bytealg.IndexByteString", "internal/bytealg.IndexString"], unfollowed := true, recurses := true, named := ["stickler/faults.codeNames", "internal/strconv.uint64pow10", "math/bits.deBruijn32tab", "math/bits.deBruijn64tab", "internal/bytealg.MaxLen", "unicode/utf8.first", "unicode/utf8.acceptRanges"], apart := false, laid := [("math/bits.deBruijn32tab", laid_math_bits_deBruijn32tab), ("math/bits.deBruijn64tab", laid_math_bits_deBruijn64tab), ("internal/strconv.uint64pow10", laid_internal_strconv_uint64pow10), ("unicode/utf8.acceptRanges", laid_unicode_utf8_acceptRanges), ("stickler/faults.codeNames", laid_stickler_faults_codeNames), ("unicode/utf8.first", laid_unicode_utf8_first)] }
def FaultsTextsSaid : Prop := faultsTextsRow.holds Tryd.pinned (OpenSpec.ofChange faultsTextsSpec)

/-- ITS FALSE NEIGHBOUR: 'it returns false'. Refute it at one input. -/
def faultsTextsWrong : ChangeSpec := { name := "faultsTexts", fn := fun _ => fun
  | [d1, d2, d3] => { results := [.lit (.bool false)], args := [d1, d2, d3] }
  | _ => none }
def FaultsTextsWrongFalsely : Prop := faultsTextsRow.holds Tryd.pinned (OpenSpec.ofChange faultsTextsWrong)

/-- 'sticklerlaw41.RecordOf': WHATEVER THE INPUT: true; the input reads as it did. -/
def recordOfSpec : ChangeSpec := { name := "recordOf", fn := fun _ => fun
  | [d1, d2] => { results := [.lit (.bool true)], args := [d1, d2] }
  | _ => none }
def recordOfRow : OpenClaim := { program := "ytbkdegjkjjdcdaadoor", sum := "64b3e538a76cde1859cc2bfe7358b38b4dc971bc608800349704d5c7b3c160ea", func := "stickler/sticklerlaw41.RecordOf", spec := "recordOf", inPlace := ["internal/bytealg.IndexByteString", "internal/bytealg.IndexString", "internal/abi.NoEscape", "internal/bytealg.MakeNoZero"], named := ["stickler/kinds.names", "internal/strconv.uint64pow10", "math/bits.deBruijn32tab", "math/bits.deBruijn64tab", "internal/bytealg.MaxLen"], apart := false, laid := [("math/bits.deBruijn32tab", laid_math_bits_deBruijn32tab), ("math/bits.deBruijn64tab", laid_math_bits_deBruijn64tab), ("internal/strconv.uint64pow10", laid_internal_strconv_uint64pow10), ("stickler/kinds.names", laid_stickler_kinds_names)] }
def RecordOfSaid : Prop := recordOfRow.holds Tryd.pinned (OpenSpec.ofChange recordOfSpec)

/-- ITS FALSE NEIGHBOUR: 'it returns false'. Refute it at one input. -/
def recordOfWrong : ChangeSpec := { name := "recordOf", fn := fun _ => fun
  | [d1, d2] => { results := [.lit (.bool false)], args := [d1, d2] }
  | _ => none }
def RecordOfWrongFalsely : Prop := recordOfRow.holds Tryd.pinned (OpenSpec.ofChange recordOfWrong)

/- THE SECOND FORM. 'bulk': how many values and letters a reading holds, each counted each time it is reached (what is shared counts as often as it is met; a slice's spare places count too). A statement '..UptoSaid' is the law's where the arguments, and the package variables that the reading takes, are together of bulk at most 1048576: NARROWER than '..Said'. Prove '..Said' where nothing that the law and all that it calls make is longer than what came in: it says more and counts as full. Else prove '..UptoSaid'. A law counts once. -/
mutual
def uptoBulk {H : Type} : DataW H → Nat
  | .lit (.string bytes) => bytes.length + 1
  | .lit _ => 1
  | .nil => 1
  | .ptr d => uptoBulk d + 1
  | .slice elems spare => uptoBulkAll elems + uptoBulkAll spare + 1
  | .agg parts => uptoBulkAll parts + 1
  | .iface _ d => uptoBulk d + 1
  | .map entries => uptoBulkEntries entries + 1
  | .held _ => 1
def uptoBulkAll {H : Type} : List (DataW H) → Nat
  | [] => 0
  | d :: r => uptoBulk d + uptoBulkAll r
def uptoBulkEntries {H : Type} : List (Lit × DataW H) → Nat
  | [] => 0
  | x :: r => uptoBulkEntry x + uptoBulkEntries r
def uptoBulkEntry {H : Type} : Lit × DataW H → Nat
  | (.string bytes, d) => bytes.length + uptoBulk d + 1
  | (_, d) => uptoBulk d + 1
 end
def uptoSmall : (H : Type) → List (DataW H) → Bool := fun _ ds => decide (uptoBulkAll ds ≤ 1048576)
def OpenSpec.upto (s : _root_.Go.ChangeSpec) : _root_.Go.OpenSpec := { _root_.Go.OpenSpec.ofChange s with cond := some uptoSmall }

/-- 'sticklerlaw08.KindsFlags', WHERE WHAT IT READS IS OF BULK AT MOST 1048576: true; the input reads as it did. -/
def kindsFlagsUptoRow : OpenClaim := { program := "ytbkdegjkjjdcdaadoor", sum := "64b3e538a76cde1859cc2bfe7358b38b4dc971bc608800349704d5c7b3c160ea", func := "stickler/sticklerlaw08.KindsFlags", spec := "kindsFlags", named := ["stickler/kinds.names", "internal/strconv.uint64pow10", "math/bits.deBruijn32tab", "math/bits.deBruijn64tab"], apart := false, laid := [("math/bits.deBruijn32tab", laid_math_bits_deBruijn32tab), ("math/bits.deBruijn64tab", laid_math_bits_deBruijn64tab), ("internal/strconv.uint64pow10", laid_internal_strconv_uint64pow10), ("stickler/kinds.names", laid_stickler_kinds_names)], narrowed := true }
def KindsFlagsUptoSaid : Prop := kindsFlagsUptoRow.holds Tryd.pinned (OpenSpec.upto kindsFlagsSpec)

/-- 'sticklerlaw09.FaultsSets', WHERE WHAT IT READS IS OF BULK AT MOST 1048576: true; the input reads as it did. -/
def faultsSetsUptoRow : OpenClaim := { program := "ytbkdegjkjjdcdaadoor", sum := "64b3e538a76cde1859cc2bfe7358b38b4dc971bc608800349704d5c7b3c160ea", func := "stickler/sticklerlaw09.FaultsSets", spec := "faultsSets", inPlace := ["internal/abi.NoEscape", "internal/bytealg.MakeNoZero"], unfollowed := true, recurses := true, named := ["stickler/faults.codeNames", "internal/strconv.uint64pow10", "math/bits.deBruijn32tab", "math/bits.deBruijn64tab"], apart := false, laid := [("math/bits.deBruijn32tab", laid_math_bits_deBruijn32tab), ("math/bits.deBruijn64tab", laid_math_bits_deBruijn64tab), ("internal/strconv.uint64pow10", laid_internal_strconv_uint64pow10), ("stickler/faults.codeNames", laid_stickler_faults_codeNames)], narrowed := true }
def FaultsSetsUptoSaid : Prop := faultsSetsUptoRow.holds Tryd.pinned (OpenSpec.upto faultsSetsSpec)

/-- 'sticklerlaw09.FaultsTexts', WHERE WHAT IT READS IS OF BULK AT MOST 1048576: true; the input reads as it did. -/
def faultsTextsUptoRow : OpenClaim := { program := "ytbkdegjkjjdcdaadoor", sum := "64b3e538a76cde1859cc2bfe7358b38b4dc971bc608800349704d5c7b3c160ea", func := "stickler/sticklerlaw09.FaultsTexts", spec := "faultsTexts", inPlace := ["internal/abi.NoEscape", "internal/bytealg.MakeNoZero", "internal/bytealg.IndexByteString", "internal/bytealg.IndexString"], unfollowed := true, recurses := true, named := ["stickler/faults.codeNames", "internal/strconv.uint64pow10", "math/bits.deBruijn32tab", "math/bits.deBruijn64tab", "internal/bytealg.MaxLen", "unicode/utf8.first", "unicode/utf8.acceptRanges"], apart := false, laid := [("math/bits.deBruijn32tab", laid_math_bits_deBruijn32tab), ("math/bits.deBruijn64tab", laid_math_bits_deBruijn64tab), ("internal/strconv.uint64pow10", laid_internal_strconv_uint64pow10), ("unicode/utf8.acceptRanges", laid_unicode_utf8_acceptRanges), ("stickler/faults.codeNames", laid_stickler_faults_codeNames), ("unicode/utf8.first", laid_unicode_utf8_first)], narrowed := true }
def FaultsTextsUptoSaid : Prop := faultsTextsUptoRow.holds Tryd.pinned (OpenSpec.upto faultsTextsSpec)

/-- 'sticklerlaw41.RecordOf', WHERE WHAT IT READS IS OF BULK AT MOST 1048576: true; the input reads as it did. -/
def recordOfUptoRow : OpenClaim := { program := "ytbkdegjkjjdcdaadoor", sum := "64b3e538a76cde1859cc2bfe7358b38b4dc971bc608800349704d5c7b3c160ea", func := "stickler/sticklerlaw41.RecordOf", spec := "recordOf", inPlace := ["internal/bytealg.IndexByteString", "internal/bytealg.IndexString", "internal/abi.NoEscape", "internal/bytealg.MakeNoZero"], named := ["stickler/kinds.names", "internal/strconv.uint64pow10", "math/bits.deBruijn32tab", "math/bits.deBruijn64tab", "internal/bytealg.MaxLen"], apart := false, laid := [("math/bits.deBruijn32tab", laid_math_bits_deBruijn32tab), ("math/bits.deBruijn64tab", laid_math_bits_deBruijn64tab), ("internal/strconv.uint64pow10", laid_internal_strconv_uint64pow10), ("stickler/kinds.names", laid_stickler_kinds_names)], narrowed := true }
def RecordOfUptoSaid : Prop := recordOfUptoRow.holds Tryd.pinned (OpenSpec.upto recordOfSpec)

end Rows
end Go.Proofs.YtbkdegjkjjdcdaaDoor
