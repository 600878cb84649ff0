/-
  NARROWER THAN 'FOR EVERY INPUT', by the rows' own cells (each row's printed sentence says how): DigitsNatural: laid · ReprPuts: laid · ReprGets: laid · ReprBack: laid · InjectNames: laid · RecordOf: laid.
  DERIVED. THE GIVEN ROWS OF THIS SEAT. 6 by the template 'for every input the law returns true; each argument reads behind the call as it read before'; 0 by the template 'total and deterministic' (their statements: YtdnfhddahpmnmabDoorTotals.lean).
  GIVEN WITH THE SEED: the statements are not yours to turn. If you find one false, say at which input.
  Laid BY PROGRAM, IN A SANDBOX (cutbox-rows.mjs): the forced cells as the released guide's own fill.sh prints them over the translation 296bf3777b49f4fe… (all of the seat's roots in one cut). By AI agents, Wed Nov 11 2026. No macro, syntax, notation, axiom, sorry.
-/
import Derived.Test.YtdnfhddahpmnmabDoorChecked
import GoSem.PinnedTables
import GoSem.Claim
import GoSem.ClaimJoined
import GoSem.ClaimMapViews
import Derived.JoinedTies
import Derived.KernelRfl
namespace Go.Proofs.YtdnfhddahpmnmabDoor
/- THE CELL 'sum', in the pinned program and in every row, IS THE sha256 OF THE DUMP (.gsa) THAT YtdnfhddahpmnmabDoorProg.lean LOADS. Nothing in Lean hashes anything: it is a label: what it is worth is what the hold of that sum in a sandbox is worth. -/
noncomputable def Tryd.pinned : Pinned := { name := "ytdnfhddahpmnmabdoor", sum := "296bf3777b49f4fe16b1d6e6344b58a1d9b6ec479904e5f89ea829618099d90f", checked := Tryd.checked }
namespace Rows
def none {H : Type} : Left H := { results := [], args := [] }

/- WHAT THE LISTED PACKAGE-LEVEL VARIABLES READ AS WHEN THE CALL BEGINS. Each datum BY PROGRAM (the guide's laid-datum.mjs) off the statement by which the dump's own 'gosem.cut.vars' lays the variable. In a bare row this is a premise. The card (YtdnfhddahpmnmabDoorCards.lean) ties it to the program's text. -/
def laid_math_bits_deBruijn32tab {H : Type} : DataW H := .agg [.lit (.int .u8 0), .lit (.int .u8 1), .lit (.int .u8 28), .lit (.int .u8 2), .lit (.int .u8 29), .lit (.int .u8 14), .lit (.int .u8 24), .lit (.int .u8 3), .lit (.int .u8 30), .lit (.int .u8 22), .lit (.int .u8 20), .lit (.int .u8 15), .lit (.int .u8 25), .lit (.int .u8 17), .lit (.int .u8 4), .lit (.int .u8 8), .lit (.int .u8 31), .lit (.int .u8 27), .lit (.int .u8 13), .lit (.int .u8 23), .lit (.int .u8 21), .lit (.int .u8 19), .lit (.int .u8 16), .lit (.int .u8 7), .lit (.int .u8 26), .lit (.int .u8 12), .lit (.int .u8 18), .lit (.int .u8 6), .lit (.int .u8 11), .lit (.int .u8 5), .lit (.int .u8 10), .lit (.int .u8 9)]
def laid_math_bits_deBruijn64tab {H : Type} : DataW H := .agg [.lit (.int .u8 0), .lit (.int .u8 1), .lit (.int .u8 56), .lit (.int .u8 2), .lit (.int .u8 57), .lit (.int .u8 49), .lit (.int .u8 28), .lit (.int .u8 3), .lit (.int .u8 61), .lit (.int .u8 58), .lit (.int .u8 42), .lit (.int .u8 50), .lit (.int .u8 38), .lit (.int .u8 29), .lit (.int .u8 17), .lit (.int .u8 4), .lit (.int .u8 62), .lit (.int .u8 47), .lit (.int .u8 59), .lit (.int .u8 36), .lit (.int .u8 45), .lit (.int .u8 43), .lit (.int .u8 51), .lit (.int .u8 22), .lit (.int .u8 53), .lit (.int .u8 39), .lit (.int .u8 33), .lit (.int .u8 30), .lit (.int .u8 24), .lit (.int .u8 18), .lit (.int .u8 12), .lit (.int .u8 5), .lit (.int .u8 63), .lit (.int .u8 55), .lit (.int .u8 48), .lit (.int .u8 27), .lit (.int .u8 60), .lit (.int .u8 41), .lit (.int .u8 37), .lit (.int .u8 16), .lit (.int .u8 46), .lit (.int .u8 35), .lit (.int .u8 44), .lit (.int .u8 21), .lit (.int .u8 52), .lit (.int .u8 32), .lit (.int .u8 23), .lit (.int .u8 11), .lit (.int .u8 54), .lit (.int .u8 26), .lit (.int .u8 40), .lit (.int .u8 15), .lit (.int .u8 34), .lit (.int .u8 20), .lit (.int .u8 31), .lit (.int .u8 10), .lit (.int .u8 25), .lit (.int .u8 14), .lit (.int .u8 19), .lit (.int .u8 9), .lit (.int .u8 13), .lit (.int .u8 8), .lit (.int .u8 7), .lit (.int .u8 6)]
def laid_internal_strconv_uint64pow10 {H : Type} : DataW H := .agg [.lit (.int .u64 1), .lit (.int .u64 10), .lit (.int .u64 100), .lit (.int .u64 1000), .lit (.int .u64 10000), .lit (.int .u64 100000), .lit (.int .u64 1000000), .lit (.int .u64 10000000), .lit (.int .u64 100000000), .lit (.int .u64 1000000000), .lit (.int .u64 10000000000), .lit (.int .u64 100000000000), .lit (.int .u64 1000000000000), .lit (.int .u64 10000000000000), .lit (.int .u64 100000000000000), .lit (.int .u64 1000000000000000), .lit (.int .u64 10000000000000000), .lit (.int .u64 100000000000000000), .lit (.int .u64 1000000000000000000), .lit (.int .u64 10000000000000000000)]
def laid_unicode_utf8_acceptRanges {H : Type} : DataW H := .agg [.agg [.lit (.int .u8 128), .lit (.int .u8 191)], .agg [.lit (.int .u8 160), .lit (.int .u8 191)], .agg [.lit (.int .u8 128), .lit (.int .u8 159)], .agg [.lit (.int .u8 144), .lit (.int .u8 191)], .agg [.lit (.int .u8 128), .lit (.int .u8 143)], .agg [.lit (.int .u8 0), .lit (.int .u8 0)], .agg [.lit (.int .u8 0), .lit (.int .u8 0)], .agg [.lit (.int .u8 0), .lit (.int .u8 0)], .agg [.lit (.int .u8 0), .lit (.int .u8 0)], .agg [.lit (.int .u8 0), .lit (.int .u8 0)], .agg [.lit (.int .u8 0), .lit (.int .u8 0)], .agg [.lit (.int .u8 0), .lit (.int .u8 0)], .agg [.lit (.int .u8 0), .lit (.int .u8 0)], .agg [.lit (.int .u8 0), .lit (.int .u8 0)], .agg [.lit (.int .u8 0), .lit (.int .u8 0)], .agg [.lit (.int .u8 0), .lit (.int .u8 0)]]
/-- One of Go's own tables, pinned by name: the form's constant. -/
def laid_unicode_utf8_first : DataW Unit := Go.Pinned.utf8First
def laid_stickler_repr_forms {H : Type} : DataW H := .agg [.agg [.lit (.int .i64 0), .lit (.int .i64 0)], .agg [.lit (.int .i64 128), .lit (.int .i64 7)], .agg [.lit (.int .i64 64), .lit (.int .i64 6)], .agg [.lit (.int .i64 0), .lit (.int .i64 4)], .agg [.lit (.int .i64 16), .lit (.int .i64 4)], .agg [.lit (.int .i64 32), .lit (.int .i64 5)]]
def laid_stickler_inject_entries {H : Type} : DataW H := .agg [.agg [.lit (.string []), .lit (.int .i64 0)], .agg [.lit (.string [112, 97, 100]), .lit (.int .i64 5)], .agg [.lit (.string [112, 105, 110, 103, 55]), .lit (.int .i64 5)], .agg [.lit (.string [112, 105, 110, 103, 111, 110]), .lit (.int .i64 5)], .agg [.lit (.string [115, 101, 116, 115, 111, 110]), .lit (.int .i64 5)], .agg [.lit (.string [97, 99, 107, 98, 111, 100, 121]), .lit (.int .i64 5)], .agg [.lit (.string [115, 101, 116, 115, 53]), .lit (.int .i64 5)], .agg [.lit (.string [115, 116, 101, 112, 48]), .lit (.int .i64 17)], .agg [.lit (.string [111, 118, 101, 114]), .lit (.int .i64 18)], .agg [.lit (.string [100, 97, 116, 97, 105, 100, 108, 101]), .lit (.int .i64 10)], .agg [.lit (.string [114, 115, 116, 105, 100, 108, 101]), .lit (.int .i64 10)], .agg [.lit (.string [97, 108, 111, 110, 101]), .lit (.int .i64 4)], .agg [.lit (.string [112, 114, 105, 111, 52]), .lit (.int .i64 5)], .agg [.lit (.string [97, 119, 97, 121, 55]), .lit (.int .i64 5)], .agg [.lit (.string [112, 117, 115, 104]), .lit (.int .i64 22)], .agg [.lit (.string [108, 111, 110, 103]), .lit (.int .i64 3)], .agg [.lit (.string [116, 97, 98, 108, 101]), .lit (.int .i64 25)], .agg [.lit (.string [117, 112, 100, 97, 116, 101]), .lit (.int .i64 26)], .agg [.lit (.string [117, 112, 112, 101, 114]), .lit (.int .i64 28)], .agg [.lit (.string [98, 97, 114, 114, 101, 100]), .lit (.int .i64 29)], .agg [.lit (.string [110, 111, 112, 97, 116, 104]), .lit (.int .i64 30)], .agg [.lit (.string [119, 105, 116, 104, 105, 110]), .lit (.int .i64 4)], .agg [.lit (.string [112, 117, 115, 104, 50]), .lit (.int .i64 6)], .agg [.lit (.string [102, 114, 97, 109, 101, 48]), .lit (.int .i64 6)], .agg [.lit (.string [119, 105, 110, 100, 111, 119]), .lit (.int .i64 6)], .agg [.lit (.string [114, 115, 116, 48]), .lit (.int .i64 5)], .agg [.lit (.string [97, 99, 107]), .lit (.int .i64 7)]]
def laid_stickler_kinds_names {H : Type} : DataW H := .agg [.lit (.string [68, 65, 84, 65]), .lit (.string [72, 69, 65, 68, 69, 82, 83]), .lit (.string [80, 82, 73, 79, 82, 73, 84, 89]), .lit (.string [82, 83, 84, 95, 83, 84, 82, 69, 65, 77]), .lit (.string [83, 69, 84, 84, 73, 78, 71, 83]), .lit (.string [80, 85, 83, 72, 95, 80, 82, 79, 77, 73, 83, 69]), .lit (.string [80, 73, 78, 71]), .lit (.string [71, 79, 65, 87, 65, 89]), .lit (.string [87, 73, 78, 68, 79, 87, 95, 85, 80, 68, 65, 84, 69]), .lit (.string [67, 79, 78, 84, 73, 78, 85, 65, 84, 73, 79, 78])]

/-- 'sticklerlaw03.DigitsNatural': WHATEVER THE INPUT: true; the input reads as it did. -/
def digitsNaturalSpec : ChangeSpec := { name := "digitsNatural", fn := fun _ => fun
  | [d1, d2] => { results := [.lit (.bool true)], args := [d1, d2] }
  | _ => none }
def digitsNaturalRow : OpenClaim := { program := "ytdnfhddahpmnmabdoor", sum := "296bf3777b49f4fe16b1d6e6344b58a1d9b6ec479904e5f89ea829618099d90f", func := "stickler/sticklerlaw03.DigitsNatural", spec := "digitsNatural", inPlace := ["internal/bytealg.IndexByteString", "internal/bytealg.IndexString", "internal/abi.NoEscape", "internal/bytealg.MakeNoZero"], unfollowed := true, recurses := true, named := ["unicode/utf8.first", "unicode/utf8.acceptRanges", "internal/bytealg.MaxLen", "internal/strconv.uint64pow10", "math/bits.deBruijn32tab", "math/bits.deBruijn64tab"], apart := false, laid := [("math/bits.deBruijn32tab", laid_math_bits_deBruijn32tab), ("math/bits.deBruijn64tab", laid_math_bits_deBruijn64tab), ("internal/strconv.uint64pow10", laid_internal_strconv_uint64pow10), ("unicode/utf8.acceptRanges", laid_unicode_utf8_acceptRanges), ("unicode/utf8.first", laid_unicode_utf8_first)] }
def DigitsNaturalSaid : Prop := digitsNaturalRow.holds Tryd.pinned (OpenSpec.ofChange digitsNaturalSpec)

/-- ITS FALSE NEIGHBOUR: 'it returns false'. Refute it at one input. -/
def digitsNaturalWrong : ChangeSpec := { name := "digitsNatural", fn := fun _ => fun
  | [d1, d2] => { results := [.lit (.bool false)], args := [d1, d2] }
  | _ => none }
def DigitsNaturalWrongFalsely : Prop := digitsNaturalRow.holds Tryd.pinned (OpenSpec.ofChange digitsNaturalWrong)

/-- 'sticklerlaw22.ReprPuts': WHATEVER THE INPUT: true; the input reads as it did. -/
def reprPutsSpec : ChangeSpec := { name := "reprPuts", fn := fun _ => fun
  | [d] => { results := [.lit (.bool true)], args := [d] }
  | _ => none }
def reprPutsRow : OpenClaim := { program := "ytdnfhddahpmnmabdoor", sum := "296bf3777b49f4fe16b1d6e6344b58a1d9b6ec479904e5f89ea829618099d90f", func := "stickler/sticklerlaw22.ReprPuts", spec := "reprPuts", recurses := true, named := ["stickler/repr.forms"], apart := false, laid := [("stickler/repr.forms", laid_stickler_repr_forms)] }
def ReprPutsSaid : Prop := reprPutsRow.holds Tryd.pinned (OpenSpec.ofChange reprPutsSpec)

/-- ITS FALSE NEIGHBOUR: 'it returns false'. Refute it at one input. -/
def reprPutsWrong : ChangeSpec := { name := "reprPuts", fn := fun _ => fun
  | [d] => { results := [.lit (.bool false)], args := [d] }
  | _ => none }
def ReprPutsWrongFalsely : Prop := reprPutsRow.holds Tryd.pinned (OpenSpec.ofChange reprPutsWrong)

/-- 'sticklerlaw22.ReprGets': WHATEVER THE INPUT: true; the input reads as it did. -/
def reprGetsSpec : ChangeSpec := { name := "reprGets", fn := fun _ => fun
  | [d] => { results := [.lit (.bool true)], args := [d] }
  | _ => none }
def reprGetsRow : OpenClaim := { program := "ytdnfhddahpmnmabdoor", sum := "296bf3777b49f4fe16b1d6e6344b58a1d9b6ec479904e5f89ea829618099d90f", func := "stickler/sticklerlaw22.ReprGets", spec := "reprGets", named := ["stickler/repr.forms"], apart := false, laid := [("stickler/repr.forms", laid_stickler_repr_forms)] }
def ReprGetsSaid : Prop := reprGetsRow.holds Tryd.pinned (OpenSpec.ofChange reprGetsSpec)

/-- ITS FALSE NEIGHBOUR: 'it returns false'. Refute it at one input. -/
def reprGetsWrong : ChangeSpec := { name := "reprGets", fn := fun _ => fun
  | [d] => { results := [.lit (.bool false)], args := [d] }
  | _ => none }
def ReprGetsWrongFalsely : Prop := reprGetsRow.holds Tryd.pinned (OpenSpec.ofChange reprGetsWrong)

/-- 'sticklerlaw22.ReprBack': WHATEVER THE INPUT: true; the input reads as it did. -/
def reprBackSpec : ChangeSpec := { name := "reprBack", fn := fun _ => fun
  | [d1, d2, d3] => { results := [.lit (.bool true)], args := [d1, d2, d3] }
  | _ => none }
def reprBackRow : OpenClaim := { program := "ytdnfhddahpmnmabdoor", sum := "296bf3777b49f4fe16b1d6e6344b58a1d9b6ec479904e5f89ea829618099d90f", func := "stickler/sticklerlaw22.ReprBack", spec := "reprBack", named := ["stickler/repr.forms"], apart := false, laid := [("stickler/repr.forms", laid_stickler_repr_forms)] }
def ReprBackSaid : Prop := reprBackRow.holds Tryd.pinned (OpenSpec.ofChange reprBackSpec)

/-- ITS FALSE NEIGHBOUR: 'it returns false'. Refute it at one input. -/
def reprBackWrong : ChangeSpec := { name := "reprBack", fn := fun _ => fun
  | [d1, d2, d3] => { results := [.lit (.bool false)], args := [d1, d2, d3] }
  | _ => none }
def ReprBackWrongFalsely : Prop := reprBackRow.holds Tryd.pinned (OpenSpec.ofChange reprBackWrong)

/-- 'sticklerlaw46.InjectNames': WHATEVER THE INPUT: true; the input reads as it did. -/
def injectNamesSpec : ChangeSpec := { name := "injectNames", fn := fun _ => fun
  | [d1, d2] => { results := [.lit (.bool true)], args := [d1, d2] }
  | _ => none }
def injectNamesRow : OpenClaim := { program := "ytdnfhddahpmnmabdoor", sum := "296bf3777b49f4fe16b1d6e6344b58a1d9b6ec479904e5f89ea829618099d90f", func := "stickler/sticklerlaw46.InjectNames", spec := "injectNames", unfollowed := true, recurses := true, named := ["stickler/repr.forms", "stickler/inject.entries"], apart := false, laid := [("stickler/repr.forms", laid_stickler_repr_forms), ("stickler/inject.entries", laid_stickler_inject_entries)] }
def InjectNamesSaid : Prop := injectNamesRow.holds Tryd.pinned (OpenSpec.ofChange injectNamesSpec)

/-- ITS FALSE NEIGHBOUR: 'it returns false'. Refute it at one input. -/
def injectNamesWrong : ChangeSpec := { name := "injectNames", fn := fun _ => fun
  | [d1, d2] => { results := [.lit (.bool false)], args := [d1, d2] }
  | _ => none }
def InjectNamesWrongFalsely : Prop := injectNamesRow.holds Tryd.pinned (OpenSpec.ofChange injectNamesWrong)

/-- 'sticklerlaw41.RecordOf': WHATEVER THE INPUT: true; the input reads as it did. -/
def recordOfSpec : ChangeSpec := { name := "recordOf", fn := fun _ => fun
  | [d1, d2] => { results := [.lit (.bool true)], args := [d1, d2] }
  | _ => none }
def recordOfRow : OpenClaim := { program := "ytdnfhddahpmnmabdoor", sum := "296bf3777b49f4fe16b1d6e6344b58a1d9b6ec479904e5f89ea829618099d90f", func := "stickler/sticklerlaw41.RecordOf", spec := "recordOf", inPlace := ["internal/bytealg.IndexByteString", "internal/bytealg.IndexString", "internal/abi.NoEscape", "internal/bytealg.MakeNoZero"], named := ["stickler/kinds.names", "internal/strconv.uint64pow10", "math/bits.deBruijn32tab", "math/bits.deBruijn64tab", "internal/bytealg.MaxLen"], apart := false, laid := [("math/bits.deBruijn32tab", laid_math_bits_deBruijn32tab), ("math/bits.deBruijn64tab", laid_math_bits_deBruijn64tab), ("internal/strconv.uint64pow10", laid_internal_strconv_uint64pow10), ("stickler/kinds.names", laid_stickler_kinds_names)] }
def RecordOfSaid : Prop := recordOfRow.holds Tryd.pinned (OpenSpec.ofChange recordOfSpec)

/-- ITS FALSE NEIGHBOUR: 'it returns false'. Refute it at one input. -/
def recordOfWrong : ChangeSpec := { name := "recordOf", fn := fun _ => fun
  | [d1, d2] => { results := [.lit (.bool false)], args := [d1, d2] }
  | _ => none }
def RecordOfWrongFalsely : Prop := recordOfRow.holds Tryd.pinned (OpenSpec.ofChange recordOfWrong)

/- THE SECOND FORM. 'bulk': how many values and letters a reading holds, each counted each time it is reached (what is shared counts as often as it is met; a slice's spare places count too). A statement '..UptoSaid' is the law's where the arguments, and the package variables that the reading takes, are together of bulk at most 1048576: NARROWER than '..Said'. Prove '..Said' where nothing that the law and all that it calls make is longer than what came in: it says more and counts as full. Else prove '..UptoSaid'. A law counts once. -/
mutual
def uptoBulk {H : Type} : DataW H → Nat
  | .lit (.string bytes) => bytes.length + 1
  | .lit _ => 1
  | .nil => 1
  | .ptr d => uptoBulk d + 1
  | .slice elems spare => uptoBulkAll elems + uptoBulkAll spare + 1
  | .agg parts => uptoBulkAll parts + 1
  | .iface _ d => uptoBulk d + 1
  | .map entries => uptoBulkEntries entries + 1
  | .held _ => 1
def uptoBulkAll {H : Type} : List (DataW H) → Nat
  | [] => 0
  | d :: r => uptoBulk d + uptoBulkAll r
def uptoBulkEntries {H : Type} : List (Lit × DataW H) → Nat
  | [] => 0
  | x :: r => uptoBulkEntry x + uptoBulkEntries r
def uptoBulkEntry {H : Type} : Lit × DataW H → Nat
  | (.string bytes, d) => bytes.length + uptoBulk d + 1
  | (_, d) => uptoBulk d + 1
 end
def uptoSmall : (H : Type) → List (DataW H) → Bool := fun _ ds => decide (uptoBulkAll ds ≤ 1048576)
def OpenSpec.upto (s : _root_.Go.ChangeSpec) : _root_.Go.OpenSpec := { _root_.Go.OpenSpec.ofChange s with cond := some uptoSmall }

/-- 'sticklerlaw03.DigitsNatural', WHERE WHAT IT READS IS OF BULK AT MOST 1048576: true; the input reads as it did. -/
def digitsNaturalUptoRow : OpenClaim := { program := "ytdnfhddahpmnmabdoor", sum := "296bf3777b49f4fe16b1d6e6344b58a1d9b6ec479904e5f89ea829618099d90f", func := "stickler/sticklerlaw03.DigitsNatural", spec := "digitsNatural", inPlace := ["internal/bytealg.IndexByteString", "internal/bytealg.IndexString", "internal/abi.NoEscape", "internal/bytealg.MakeNoZero"], unfollowed := true, recurses := true, named := ["unicode/utf8.first", "unicode/utf8.acceptRanges", "internal/bytealg.MaxLen", "internal/strconv.uint64pow10", "math/bits.deBruijn32tab", "math/bits.deBruijn64tab"], apart := false, laid := [("math/bits.deBruijn32tab", laid_math_bits_deBruijn32tab), ("math/bits.deBruijn64tab", laid_math_bits_deBruijn64tab), ("internal/strconv.uint64pow10", laid_internal_strconv_uint64pow10), ("unicode/utf8.acceptRanges", laid_unicode_utf8_acceptRanges), ("unicode/utf8.first", laid_unicode_utf8_first)], narrowed := true }
def DigitsNaturalUptoSaid : Prop := digitsNaturalUptoRow.holds Tryd.pinned (OpenSpec.upto digitsNaturalSpec)

/-- 'sticklerlaw22.ReprPuts', WHERE WHAT IT READS IS OF BULK AT MOST 1048576: true; the input reads as it did. -/
def reprPutsUptoRow : OpenClaim := { program := "ytdnfhddahpmnmabdoor", sum := "296bf3777b49f4fe16b1d6e6344b58a1d9b6ec479904e5f89ea829618099d90f", func := "stickler/sticklerlaw22.ReprPuts", spec := "reprPuts", recurses := true, named := ["stickler/repr.forms"], apart := false, laid := [("stickler/repr.forms", laid_stickler_repr_forms)], narrowed := true }
def ReprPutsUptoSaid : Prop := reprPutsUptoRow.holds Tryd.pinned (OpenSpec.upto reprPutsSpec)

/-- 'sticklerlaw22.ReprGets', WHERE WHAT IT READS IS OF BULK AT MOST 1048576: true; the input reads as it did. -/
def reprGetsUptoRow : OpenClaim := { program := "ytdnfhddahpmnmabdoor", sum := "296bf3777b49f4fe16b1d6e6344b58a1d9b6ec479904e5f89ea829618099d90f", func := "stickler/sticklerlaw22.ReprGets", spec := "reprGets", named := ["stickler/repr.forms"], apart := false, laid := [("stickler/repr.forms", laid_stickler_repr_forms)], narrowed := true }
def ReprGetsUptoSaid : Prop := reprGetsUptoRow.holds Tryd.pinned (OpenSpec.upto reprGetsSpec)

/-- 'sticklerlaw22.ReprBack', WHERE WHAT IT READS IS OF BULK AT MOST 1048576: true; the input reads as it did. -/
def reprBackUptoRow : OpenClaim := { program := "ytdnfhddahpmnmabdoor", sum := "296bf3777b49f4fe16b1d6e6344b58a1d9b6ec479904e5f89ea829618099d90f", func := "stickler/sticklerlaw22.ReprBack", spec := "reprBack", named := ["stickler/repr.forms"], apart := false, laid := [("stickler/repr.forms", laid_stickler_repr_forms)], narrowed := true }
def ReprBackUptoSaid : Prop := reprBackUptoRow.holds Tryd.pinned (OpenSpec.upto reprBackSpec)

/-- 'sticklerlaw46.InjectNames', WHERE WHAT IT READS IS OF BULK AT MOST 1048576: true; the input reads as it did. -/
def injectNamesUptoRow : OpenClaim := { program := "ytdnfhddahpmnmabdoor", sum := "296bf3777b49f4fe16b1d6e6344b58a1d9b6ec479904e5f89ea829618099d90f", func := "stickler/sticklerlaw46.InjectNames", spec := "injectNames", unfollowed := true, recurses := true, named := ["stickler/repr.forms", "stickler/inject.entries"], apart := false, laid := [("stickler/repr.forms", laid_stickler_repr_forms), ("stickler/inject.entries", laid_stickler_inject_entries)], narrowed := true }
def InjectNamesUptoSaid : Prop := injectNamesUptoRow.holds Tryd.pinned (OpenSpec.upto injectNamesSpec)

/-- 'sticklerlaw41.RecordOf', WHERE WHAT IT READS IS OF BULK AT MOST 1048576: true; the input reads as it did. -/
def recordOfUptoRow : OpenClaim := { program := "ytdnfhddahpmnmabdoor", sum := "296bf3777b49f4fe16b1d6e6344b58a1d9b6ec479904e5f89ea829618099d90f", func := "stickler/sticklerlaw41.RecordOf", spec := "recordOf", inPlace := ["internal/bytealg.IndexByteString", "internal/bytealg.IndexString", "internal/abi.NoEscape", "internal/bytealg.MakeNoZero"], named := ["stickler/kinds.names", "internal/strconv.uint64pow10", "math/bits.deBruijn32tab", "math/bits.deBruijn64tab", "internal/bytealg.MaxLen"], apart := false, laid := [("math/bits.deBruijn32tab", laid_math_bits_deBruijn32tab), ("math/bits.deBruijn64tab", laid_math_bits_deBruijn64tab), ("internal/strconv.uint64pow10", laid_internal_strconv_uint64pow10), ("stickler/kinds.names", laid_stickler_kinds_names)], narrowed := true }
def RecordOfUptoSaid : Prop := recordOfUptoRow.holds Tryd.pinned (OpenSpec.upto recordOfSpec)

end Rows
end Go.Proofs.YtdnfhddahpmnmabDoor
