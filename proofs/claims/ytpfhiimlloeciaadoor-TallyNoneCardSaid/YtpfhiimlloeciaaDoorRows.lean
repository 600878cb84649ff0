/-
  NARROWER THAN 'FOR EVERY INPUT', by the rows' own cells (each row's printed sentence says how): KindsFlags: laid · ReprPuts: laid · ReprGets: laid · ReprBack: laid · MessageChecks: laid · MessageMore: laid · MessagePromise: laid · TallyPlays: laid · TallySums: laid · TallyNone: laid.
  DERIVED. THE GIVEN ROWS OF THIS SEAT. 10 by the template 'for every input the law returns true; each argument reads behind the call as it read before'; 0 by the template 'total and deterministic' (their statements: YtpfhiimlloeciaaDoorTotals.lean).
  GIVEN WITH THE SEED: the statements are not yours to turn. If you find one false, say at which input.
  Laid BY PROGRAM, IN A SANDBOX (cutbox-rows.mjs): the forced cells as the released guide's own fill.sh prints them over the translation 891177347462bed1… (all of the seat's roots in one cut). By AI agents, Wed Nov 11 2026. No macro, syntax, notation, axiom, sorry.
-/
import Derived.Test.YtpfhiimlloeciaaDoorChecked
import GoSem.Claim
import GoSem.ClaimJoined
import GoSem.ClaimMapViews
import Derived.JoinedTies
import Derived.KernelRfl
namespace Go.Proofs.YtpfhiimlloeciaaDoor
/- THE CELL 'sum', in the pinned program and in every row, IS THE sha256 OF THE DUMP (.gsa) THAT YtpfhiimlloeciaaDoorProg.lean LOADS. Nothing in Lean hashes anything: it is a label: what it is worth is what the hold of that sum in a sandbox is worth. -/
noncomputable def Tryd.pinned : Pinned := { name := "ytpfhiimlloeciaadoor", sum := "891177347462bed16108633ea1fd15f1d7ceddc38576a4120704a8eede2e1ae3", checked := Tryd.checked }
namespace Rows
def none {H : Type} : Left H := { results := [], args := [] }

/- WHAT THE LISTED PACKAGE-LEVEL VARIABLES READ AS WHEN THE CALL BEGINS. Each datum BY PROGRAM (the guide's laid-datum.mjs) off the statement by which the dump's own 'gosem.cut.vars' lays the variable. In a bare row this is a premise. The card (YtpfhiimlloeciaaDoorCards.lean) ties it to the program's text. -/
def laid_math_bits_deBruijn32tab {H : Type} : DataW H := .agg [.lit (.int .u8 0), .lit (.int .u8 1), .lit (.int .u8 28), .lit (.int .u8 2), .lit (.int .u8 29), .lit (.int .u8 14), .lit (.int .u8 24), .lit (.int .u8 3), .lit (.int .u8 30), .lit (.int .u8 22), .lit (.int .u8 20), .lit (.int .u8 15), .lit (.int .u8 25), .lit (.int .u8 17), .lit (.int .u8 4), .lit (.int .u8 8), .lit (.int .u8 31), .lit (.int .u8 27), .lit (.int .u8 13), .lit (.int .u8 23), .lit (.int .u8 21), .lit (.int .u8 19), .lit (.int .u8 16), .lit (.int .u8 7), .lit (.int .u8 26), .lit (.int .u8 12), .lit (.int .u8 18), .lit (.int .u8 6), .lit (.int .u8 11), .lit (.int .u8 5), .lit (.int .u8 10), .lit (.int .u8 9)]
def laid_math_bits_deBruijn64tab {H : Type} : DataW H := .agg [.lit (.int .u8 0), .lit (.int .u8 1), .lit (.int .u8 56), .lit (.int .u8 2), .lit (.int .u8 57), .lit (.int .u8 49), .lit (.int .u8 28), .lit (.int .u8 3), .lit (.int .u8 61), .lit (.int .u8 58), .lit (.int .u8 42), .lit (.int .u8 50), .lit (.int .u8 38), .lit (.int .u8 29), .lit (.int .u8 17), .lit (.int .u8 4), .lit (.int .u8 62), .lit (.int .u8 47), .lit (.int .u8 59), .lit (.int .u8 36), .lit (.int .u8 45), .lit (.int .u8 43), .lit (.int .u8 51), .lit (.int .u8 22), .lit (.int .u8 53), .lit (.int .u8 39), .lit (.int .u8 33), .lit (.int .u8 30), .lit (.int .u8 24), .lit (.int .u8 18), .lit (.int .u8 12), .lit (.int .u8 5), .lit (.int .u8 63), .lit (.int .u8 55), .lit (.int .u8 48), .lit (.int .u8 27), .lit (.int .u8 60), .lit (.int .u8 41), .lit (.int .u8 37), .lit (.int .u8 16), .lit (.int .u8 46), .lit (.int .u8 35), .lit (.int .u8 44), .lit (.int .u8 21), .lit (.int .u8 52), .lit (.int .u8 32), .lit (.int .u8 23), .lit (.int .u8 11), .lit (.int .u8 54), .lit (.int .u8 26), .lit (.int .u8 40), .lit (.int .u8 15), .lit (.int .u8 34), .lit (.int .u8 20), .lit (.int .u8 31), .lit (.int .u8 10), .lit (.int .u8 25), .lit (.int .u8 14), .lit (.int .u8 19), .lit (.int .u8 9), .lit (.int .u8 13), .lit (.int .u8 8), .lit (.int .u8 7), .lit (.int .u8 6)]
def laid_internal_strconv_uint64pow10 {H : Type} : DataW H := .agg [.lit (.int .u64 1), .lit (.int .u64 10), .lit (.int .u64 100), .lit (.int .u64 1000), .lit (.int .u64 10000), .lit (.int .u64 100000), .lit (.int .u64 1000000), .lit (.int .u64 10000000), .lit (.int .u64 100000000), .lit (.int .u64 1000000000), .lit (.int .u64 10000000000), .lit (.int .u64 100000000000), .lit (.int .u64 1000000000000), .lit (.int .u64 10000000000000), .lit (.int .u64 100000000000000), .lit (.int .u64 1000000000000000), .lit (.int .u64 10000000000000000), .lit (.int .u64 100000000000000000), .lit (.int .u64 1000000000000000000), .lit (.int .u64 10000000000000000000)]
def laid_stickler_kinds_names {H : Type} : DataW H := .agg [.lit (.string [68, 65, 84, 65]), .lit (.string [72, 69, 65, 68, 69, 82, 83]), .lit (.string [80, 82, 73, 79, 82, 73, 84, 89]), .lit (.string [82, 83, 84, 95, 83, 84, 82, 69, 65, 77]), .lit (.string [83, 69, 84, 84, 73, 78, 71, 83]), .lit (.string [80, 85, 83, 72, 95, 80, 82, 79, 77, 73, 83, 69]), .lit (.string [80, 73, 78, 71]), .lit (.string [71, 79, 65, 87, 65, 89]), .lit (.string [87, 73, 78, 68, 79, 87, 95, 85, 80, 68, 65, 84, 69]), .lit (.string [67, 79, 78, 84, 73, 78, 85, 65, 84, 73, 79, 78])]
def laid_stickler_repr_forms {H : Type} : DataW H := .agg [.agg [.lit (.int .i64 0), .lit (.int .i64 0)], .agg [.lit (.int .i64 128), .lit (.int .i64 7)], .agg [.lit (.int .i64 64), .lit (.int .i64 6)], .agg [.lit (.int .i64 0), .lit (.int .i64 4)], .agg [.lit (.int .i64 16), .lit (.int .i64 4)], .agg [.lit (.int .i64 32), .lit (.int .i64 5)]]
def laid_stickler_token_barred {H : Type} : DataW H := .agg [.lit (.string [99, 111, 110, 110, 101, 99, 116, 105, 111, 110]), .lit (.string [107, 101, 101, 112, 45, 97, 108, 105, 118, 101]), .lit (.string [112, 114, 111, 120, 121, 45, 99, 111, 110, 110, 101, 99, 116, 105, 111, 110]), .lit (.string [116, 114, 97, 110, 115, 102, 101, 114, 45, 101, 110, 99, 111, 100, 105, 110, 103]), .lit (.string [117, 112, 103, 114, 97, 100, 101])]

/-- 'sticklerlaw08.KindsFlags': WHATEVER THE INPUT: true; the input reads as it did. -/
def kindsFlagsSpec : ChangeSpec := { name := "kindsFlags", fn := fun _ => fun
  | [d1, d2, d3] => { results := [.lit (.bool true)], args := [d1, d2, d3] }
  | _ => none }
def kindsFlagsRow : OpenClaim := { program := "ytpfhiimlloeciaadoor", sum := "891177347462bed16108633ea1fd15f1d7ceddc38576a4120704a8eede2e1ae3", func := "stickler/sticklerlaw08.KindsFlags", spec := "kindsFlags", named := ["stickler/kinds.names", "internal/strconv.uint64pow10", "math/bits.deBruijn32tab", "math/bits.deBruijn64tab"], apart := false, laid := [("math/bits.deBruijn32tab", laid_math_bits_deBruijn32tab), ("math/bits.deBruijn64tab", laid_math_bits_deBruijn64tab), ("internal/strconv.uint64pow10", laid_internal_strconv_uint64pow10), ("stickler/kinds.names", laid_stickler_kinds_names)] }
def KindsFlagsSaid : Prop := kindsFlagsRow.holds Tryd.pinned (OpenSpec.ofChange kindsFlagsSpec)

/-- ITS FALSE NEIGHBOUR: 'it returns false'. Refute it at one input. -/
def kindsFlagsWrong : ChangeSpec := { name := "kindsFlags", fn := fun _ => fun
  | [d1, d2, d3] => { results := [.lit (.bool false)], args := [d1, d2, d3] }
  | _ => none }
def KindsFlagsWrongFalsely : Prop := kindsFlagsRow.holds Tryd.pinned (OpenSpec.ofChange kindsFlagsWrong)

/-- 'sticklerlaw22.ReprPuts': WHATEVER THE INPUT: true; the input reads as it did. -/
def reprPutsSpec : ChangeSpec := { name := "reprPuts", fn := fun _ => fun
  | [d] => { results := [.lit (.bool true)], args := [d] }
  | _ => none }
def reprPutsRow : OpenClaim := { program := "ytpfhiimlloeciaadoor", sum := "891177347462bed16108633ea1fd15f1d7ceddc38576a4120704a8eede2e1ae3", func := "stickler/sticklerlaw22.ReprPuts", spec := "reprPuts", recurses := true, named := ["stickler/repr.forms"], apart := false, laid := [("stickler/repr.forms", laid_stickler_repr_forms)] }
def ReprPutsSaid : Prop := reprPutsRow.holds Tryd.pinned (OpenSpec.ofChange reprPutsSpec)

/-- ITS FALSE NEIGHBOUR: 'it returns false'. Refute it at one input. -/
def reprPutsWrong : ChangeSpec := { name := "reprPuts", fn := fun _ => fun
  | [d] => { results := [.lit (.bool false)], args := [d] }
  | _ => none }
def ReprPutsWrongFalsely : Prop := reprPutsRow.holds Tryd.pinned (OpenSpec.ofChange reprPutsWrong)

/-- 'sticklerlaw22.ReprGets': WHATEVER THE INPUT: true; the input reads as it did. -/
def reprGetsSpec : ChangeSpec := { name := "reprGets", fn := fun _ => fun
  | [d] => { results := [.lit (.bool true)], args := [d] }
  | _ => none }
def reprGetsRow : OpenClaim := { program := "ytpfhiimlloeciaadoor", sum := "891177347462bed16108633ea1fd15f1d7ceddc38576a4120704a8eede2e1ae3", func := "stickler/sticklerlaw22.ReprGets", spec := "reprGets", named := ["stickler/repr.forms"], apart := false, laid := [("stickler/repr.forms", laid_stickler_repr_forms)] }
def ReprGetsSaid : Prop := reprGetsRow.holds Tryd.pinned (OpenSpec.ofChange reprGetsSpec)

/-- ITS FALSE NEIGHBOUR: 'it returns false'. Refute it at one input. -/
def reprGetsWrong : ChangeSpec := { name := "reprGets", fn := fun _ => fun
  | [d] => { results := [.lit (.bool false)], args := [d] }
  | _ => none }
def ReprGetsWrongFalsely : Prop := reprGetsRow.holds Tryd.pinned (OpenSpec.ofChange reprGetsWrong)

/-- 'sticklerlaw22.ReprBack': WHATEVER THE INPUT: true; the input reads as it did. -/
def reprBackSpec : ChangeSpec := { name := "reprBack", fn := fun _ => fun
  | [d1, d2, d3] => { results := [.lit (.bool true)], args := [d1, d2, d3] }
  | _ => none }
def reprBackRow : OpenClaim := { program := "ytpfhiimlloeciaadoor", sum := "891177347462bed16108633ea1fd15f1d7ceddc38576a4120704a8eede2e1ae3", func := "stickler/sticklerlaw22.ReprBack", spec := "reprBack", named := ["stickler/repr.forms"], apart := false, laid := [("stickler/repr.forms", laid_stickler_repr_forms)] }
def ReprBackSaid : Prop := reprBackRow.holds Tryd.pinned (OpenSpec.ofChange reprBackSpec)

/-- ITS FALSE NEIGHBOUR: 'it returns false'. Refute it at one input. -/
def reprBackWrong : ChangeSpec := { name := "reprBack", fn := fun _ => fun
  | [d1, d2, d3] => { results := [.lit (.bool false)], args := [d1, d2, d3] }
  | _ => none }
def ReprBackWrongFalsely : Prop := reprBackRow.holds Tryd.pinned (OpenSpec.ofChange reprBackWrong)

/-- 'sticklerlaw28.MessageChecks': WHATEVER THE INPUT: true; the input reads as it did. -/
def messageChecksSpec : ChangeSpec := { name := "messageChecks", fn := fun _ => fun
  | [d1, d2] => { results := [.lit (.bool true)], args := [d1, d2] }
  | _ => none }
def messageChecksRow : OpenClaim := { program := "ytpfhiimlloeciaadoor", sum := "891177347462bed16108633ea1fd15f1d7ceddc38576a4120704a8eede2e1ae3", func := "stickler/sticklerlaw28.MessageChecks", spec := "messageChecks", unfollowed := true, recurses := true, named := ["stickler/token.barred"], apart := false, laid := [("stickler/token.barred", laid_stickler_token_barred)] }
def MessageChecksSaid : Prop := messageChecksRow.holds Tryd.pinned (OpenSpec.ofChange messageChecksSpec)

/-- ITS FALSE NEIGHBOUR: 'it returns false'. Refute it at one input. -/
def messageChecksWrong : ChangeSpec := { name := "messageChecks", fn := fun _ => fun
  | [d1, d2] => { results := [.lit (.bool false)], args := [d1, d2] }
  | _ => none }
def MessageChecksWrongFalsely : Prop := messageChecksRow.holds Tryd.pinned (OpenSpec.ofChange messageChecksWrong)

/-- 'sticklerlaw28.MessageMore': WHATEVER THE INPUT: true; the input reads as it did. -/
def messageMoreSpec : ChangeSpec := { name := "messageMore", fn := fun _ => fun
  | [d1, d2, d3] => { results := [.lit (.bool true)], args := [d1, d2, d3] }
  | _ => none }
def messageMoreRow : OpenClaim := { program := "ytpfhiimlloeciaadoor", sum := "891177347462bed16108633ea1fd15f1d7ceddc38576a4120704a8eede2e1ae3", func := "stickler/sticklerlaw28.MessageMore", spec := "messageMore", unfollowed := true, recurses := true, named := ["stickler/token.barred"], apart := false, laid := [("stickler/token.barred", laid_stickler_token_barred)] }
def MessageMoreSaid : Prop := messageMoreRow.holds Tryd.pinned (OpenSpec.ofChange messageMoreSpec)

/-- ITS FALSE NEIGHBOUR: 'it returns false'. Refute it at one input. -/
def messageMoreWrong : ChangeSpec := { name := "messageMore", fn := fun _ => fun
  | [d1, d2, d3] => { results := [.lit (.bool false)], args := [d1, d2, d3] }
  | _ => none }
def MessageMoreWrongFalsely : Prop := messageMoreRow.holds Tryd.pinned (OpenSpec.ofChange messageMoreWrong)

/-- 'sticklerlaw28.MessagePromise': WHATEVER THE INPUT: true; the input reads as it did. -/
def messagePromiseSpec : ChangeSpec := { name := "messagePromise", fn := fun _ => fun
  | [d] => { results := [.lit (.bool true)], args := [d] }
  | _ => none }
def messagePromiseRow : OpenClaim := { program := "ytpfhiimlloeciaadoor", sum := "891177347462bed16108633ea1fd15f1d7ceddc38576a4120704a8eede2e1ae3", func := "stickler/sticklerlaw28.MessagePromise", spec := "messagePromise", unfollowed := true, recurses := true, named := ["stickler/token.barred"], apart := false, laid := [("stickler/token.barred", laid_stickler_token_barred)] }
def MessagePromiseSaid : Prop := messagePromiseRow.holds Tryd.pinned (OpenSpec.ofChange messagePromiseSpec)

/-- ITS FALSE NEIGHBOUR: 'it returns false'. Refute it at one input. -/
def messagePromiseWrong : ChangeSpec := { name := "messagePromise", fn := fun _ => fun
  | [d] => { results := [.lit (.bool false)], args := [d] }
  | _ => none }
def MessagePromiseWrongFalsely : Prop := messagePromiseRow.holds Tryd.pinned (OpenSpec.ofChange messagePromiseWrong)

/-- 'sticklerlaw29.TallyPlays': WHATEVER THE INPUT: true; the input reads as it did. -/
def tallyPlaysSpec : ChangeSpec := { name := "tallyPlays", fn := fun _ => fun
  | [d1, d2, d3] => { results := [.lit (.bool true)], args := [d1, d2, d3] }
  | _ => none }
def tallyPlaysRow : OpenClaim := { program := "ytpfhiimlloeciaadoor", sum := "891177347462bed16108633ea1fd15f1d7ceddc38576a4120704a8eede2e1ae3", func := "stickler/sticklerlaw29.TallyPlays", spec := "tallyPlays", unfollowed := true, recurses := true, named := ["stickler/token.barred"], apart := false, laid := [("stickler/token.barred", laid_stickler_token_barred)] }
def TallyPlaysSaid : Prop := tallyPlaysRow.holds Tryd.pinned (OpenSpec.ofChange tallyPlaysSpec)

/-- ITS FALSE NEIGHBOUR: 'it returns false'. Refute it at one input. -/
def tallyPlaysWrong : ChangeSpec := { name := "tallyPlays", fn := fun _ => fun
  | [d1, d2, d3] => { results := [.lit (.bool false)], args := [d1, d2, d3] }
  | _ => none }
def TallyPlaysWrongFalsely : Prop := tallyPlaysRow.holds Tryd.pinned (OpenSpec.ofChange tallyPlaysWrong)

/-- 'sticklerlaw29.TallySums': WHATEVER THE INPUT: true; the input reads as it did. -/
def tallySumsSpec : ChangeSpec := { name := "tallySums", fn := fun _ => fun
  | [d1, d2] => { results := [.lit (.bool true)], args := [d1, d2] }
  | _ => none }
def tallySumsRow : OpenClaim := { program := "ytpfhiimlloeciaadoor", sum := "891177347462bed16108633ea1fd15f1d7ceddc38576a4120704a8eede2e1ae3", func := "stickler/sticklerlaw29.TallySums", spec := "tallySums", unfollowed := true, recurses := true, named := ["stickler/token.barred"], apart := false, laid := [("stickler/token.barred", laid_stickler_token_barred)] }
def TallySumsSaid : Prop := tallySumsRow.holds Tryd.pinned (OpenSpec.ofChange tallySumsSpec)

/-- ITS FALSE NEIGHBOUR: 'it returns false'. Refute it at one input. -/
def tallySumsWrong : ChangeSpec := { name := "tallySums", fn := fun _ => fun
  | [d1, d2] => { results := [.lit (.bool false)], args := [d1, d2] }
  | _ => none }
def TallySumsWrongFalsely : Prop := tallySumsRow.holds Tryd.pinned (OpenSpec.ofChange tallySumsWrong)

/-- 'sticklerlaw29.TallyNone': WHATEVER THE INPUT: true; the input reads as it did. -/
def tallyNoneSpec : ChangeSpec := { name := "tallyNone", fn := fun _ => fun
  | [d1, d2, d3] => { results := [.lit (.bool true)], args := [d1, d2, d3] }
  | _ => none }
def tallyNoneRow : OpenClaim := { program := "ytpfhiimlloeciaadoor", sum := "891177347462bed16108633ea1fd15f1d7ceddc38576a4120704a8eede2e1ae3", func := "stickler/sticklerlaw29.TallyNone", spec := "tallyNone", unfollowed := true, recurses := true, named := ["stickler/token.barred"], apart := false, laid := [("stickler/token.barred", laid_stickler_token_barred)] }
def TallyNoneSaid : Prop := tallyNoneRow.holds Tryd.pinned (OpenSpec.ofChange tallyNoneSpec)

/-- ITS FALSE NEIGHBOUR: 'it returns false'. Refute it at one input. -/
def tallyNoneWrong : ChangeSpec := { name := "tallyNone", fn := fun _ => fun
  | [d1, d2, d3] => { results := [.lit (.bool false)], args := [d1, d2, d3] }
  | _ => none }
def TallyNoneWrongFalsely : Prop := tallyNoneRow.holds Tryd.pinned (OpenSpec.ofChange tallyNoneWrong)

/- THE SECOND FORM. 'bulk': how many values and letters a reading holds, each counted each time it is reached (what is shared counts as often as it is met; a slice's spare places count too). A statement '..UptoSaid' is the law's where the arguments, and the package variables that the reading takes, are together of bulk at most 1048576: NARROWER than '..Said'. Prove '..Said' where nothing that the law and all that it calls make is longer than what came in: it says more and counts as full. Else prove '..UptoSaid'. A law counts once. -/
mutual
def uptoBulk {H : Type} : DataW H → Nat
  | .lit (.string bytes) => bytes.length + 1
  | .lit _ => 1
  | .nil => 1
  | .ptr d => uptoBulk d + 1
  | .slice elems spare => uptoBulkAll elems + uptoBulkAll spare + 1
  | .agg parts => uptoBulkAll parts + 1
  | .iface _ d => uptoBulk d + 1
  | .map entries => uptoBulkEntries entries + 1
  | .held _ => 1
def uptoBulkAll {H : Type} : List (DataW H) → Nat
  | [] => 0
  | d :: r => uptoBulk d + uptoBulkAll r
def uptoBulkEntries {H : Type} : List (Lit × DataW H) → Nat
  | [] => 0
  | x :: r => uptoBulkEntry x + uptoBulkEntries r
def uptoBulkEntry {H : Type} : Lit × DataW H → Nat
  | (.string bytes, d) => bytes.length + uptoBulk d + 1
  | (_, d) => uptoBulk d + 1
 end
def uptoSmall : (H : Type) → List (DataW H) → Bool := fun _ ds => decide (uptoBulkAll ds ≤ 1048576)
def OpenSpec.upto (s : _root_.Go.ChangeSpec) : _root_.Go.OpenSpec := { _root_.Go.OpenSpec.ofChange s with cond := some uptoSmall }

/-- 'sticklerlaw08.KindsFlags', WHERE WHAT IT READS IS OF BULK AT MOST 1048576: true; the input reads as it did. -/
def kindsFlagsUptoRow : OpenClaim := { program := "ytpfhiimlloeciaadoor", sum := "891177347462bed16108633ea1fd15f1d7ceddc38576a4120704a8eede2e1ae3", func := "stickler/sticklerlaw08.KindsFlags", spec := "kindsFlags", named := ["stickler/kinds.names", "internal/strconv.uint64pow10", "math/bits.deBruijn32tab", "math/bits.deBruijn64tab"], apart := false, laid := [("math/bits.deBruijn32tab", laid_math_bits_deBruijn32tab), ("math/bits.deBruijn64tab", laid_math_bits_deBruijn64tab), ("internal/strconv.uint64pow10", laid_internal_strconv_uint64pow10), ("stickler/kinds.names", laid_stickler_kinds_names)], narrowed := true }
def KindsFlagsUptoSaid : Prop := kindsFlagsUptoRow.holds Tryd.pinned (OpenSpec.upto kindsFlagsSpec)

/-- 'sticklerlaw22.ReprPuts', WHERE WHAT IT READS IS OF BULK AT MOST 1048576: true; the input reads as it did. -/
def reprPutsUptoRow : OpenClaim := { program := "ytpfhiimlloeciaadoor", sum := "891177347462bed16108633ea1fd15f1d7ceddc38576a4120704a8eede2e1ae3", func := "stickler/sticklerlaw22.ReprPuts", spec := "reprPuts", recurses := true, named := ["stickler/repr.forms"], apart := false, laid := [("stickler/repr.forms", laid_stickler_repr_forms)], narrowed := true }
def ReprPutsUptoSaid : Prop := reprPutsUptoRow.holds Tryd.pinned (OpenSpec.upto reprPutsSpec)

/-- 'sticklerlaw22.ReprGets', WHERE WHAT IT READS IS OF BULK AT MOST 1048576: true; the input reads as it did. -/
def reprGetsUptoRow : OpenClaim := { program := "ytpfhiimlloeciaadoor", sum := "891177347462bed16108633ea1fd15f1d7ceddc38576a4120704a8eede2e1ae3", func := "stickler/sticklerlaw22.ReprGets", spec := "reprGets", named := ["stickler/repr.forms"], apart := false, laid := [("stickler/repr.forms", laid_stickler_repr_forms)], narrowed := true }
def ReprGetsUptoSaid : Prop := reprGetsUptoRow.holds Tryd.pinned (OpenSpec.upto reprGetsSpec)

/-- 'sticklerlaw22.ReprBack', WHERE WHAT IT READS IS OF BULK AT MOST 1048576: true; the input reads as it did. -/
def reprBackUptoRow : OpenClaim := { program := "ytpfhiimlloeciaadoor", sum := "891177347462bed16108633ea1fd15f1d7ceddc38576a4120704a8eede2e1ae3", func := "stickler/sticklerlaw22.ReprBack", spec := "reprBack", named := ["stickler/repr.forms"], apart := false, laid := [("stickler/repr.forms", laid_stickler_repr_forms)], narrowed := true }
def ReprBackUptoSaid : Prop := reprBackUptoRow.holds Tryd.pinned (OpenSpec.upto reprBackSpec)

/-- 'sticklerlaw28.MessageChecks', WHERE WHAT IT READS IS OF BULK AT MOST 1048576: true; the input reads as it did. -/
def messageChecksUptoRow : OpenClaim := { program := "ytpfhiimlloeciaadoor", sum := "891177347462bed16108633ea1fd15f1d7ceddc38576a4120704a8eede2e1ae3", func := "stickler/sticklerlaw28.MessageChecks", spec := "messageChecks", unfollowed := true, recurses := true, named := ["stickler/token.barred"], apart := false, laid := [("stickler/token.barred", laid_stickler_token_barred)], narrowed := true }
def MessageChecksUptoSaid : Prop := messageChecksUptoRow.holds Tryd.pinned (OpenSpec.upto messageChecksSpec)

/-- 'sticklerlaw28.MessageMore', WHERE WHAT IT READS IS OF BULK AT MOST 1048576: true; the input reads as it did. -/
def messageMoreUptoRow : OpenClaim := { program := "ytpfhiimlloeciaadoor", sum := "891177347462bed16108633ea1fd15f1d7ceddc38576a4120704a8eede2e1ae3", func := "stickler/sticklerlaw28.MessageMore", spec := "messageMore", unfollowed := true, recurses := true, named := ["stickler/token.barred"], apart := false, laid := [("stickler/token.barred", laid_stickler_token_barred)], narrowed := true }
def MessageMoreUptoSaid : Prop := messageMoreUptoRow.holds Tryd.pinned (OpenSpec.upto messageMoreSpec)

/-- 'sticklerlaw28.MessagePromise', WHERE WHAT IT READS IS OF BULK AT MOST 1048576: true; the input reads as it did. -/
def messagePromiseUptoRow : OpenClaim := { program := "ytpfhiimlloeciaadoor", sum := "891177347462bed16108633ea1fd15f1d7ceddc38576a4120704a8eede2e1ae3", func := "stickler/sticklerlaw28.MessagePromise", spec := "messagePromise", unfollowed := true, recurses := true, named := ["stickler/token.barred"], apart := false, laid := [("stickler/token.barred", laid_stickler_token_barred)], narrowed := true }
def MessagePromiseUptoSaid : Prop := messagePromiseUptoRow.holds Tryd.pinned (OpenSpec.upto messagePromiseSpec)

/-- 'sticklerlaw29.TallyPlays', WHERE WHAT IT READS IS OF BULK AT MOST 1048576: true; the input reads as it did. -/
def tallyPlaysUptoRow : OpenClaim := { program := "ytpfhiimlloeciaadoor", sum := "891177347462bed16108633ea1fd15f1d7ceddc38576a4120704a8eede2e1ae3", func := "stickler/sticklerlaw29.TallyPlays", spec := "tallyPlays", unfollowed := true, recurses := true, named := ["stickler/token.barred"], apart := false, laid := [("stickler/token.barred", laid_stickler_token_barred)], narrowed := true }
def TallyPlaysUptoSaid : Prop := tallyPlaysUptoRow.holds Tryd.pinned (OpenSpec.upto tallyPlaysSpec)

/-- 'sticklerlaw29.TallySums', WHERE WHAT IT READS IS OF BULK AT MOST 1048576: true; the input reads as it did. -/
def tallySumsUptoRow : OpenClaim := { program := "ytpfhiimlloeciaadoor", sum := "891177347462bed16108633ea1fd15f1d7ceddc38576a4120704a8eede2e1ae3", func := "stickler/sticklerlaw29.TallySums", spec := "tallySums", unfollowed := true, recurses := true, named := ["stickler/token.barred"], apart := false, laid := [("stickler/token.barred", laid_stickler_token_barred)], narrowed := true }
def TallySumsUptoSaid : Prop := tallySumsUptoRow.holds Tryd.pinned (OpenSpec.upto tallySumsSpec)

/-- 'sticklerlaw29.TallyNone', WHERE WHAT IT READS IS OF BULK AT MOST 1048576: true; the input reads as it did. -/
def tallyNoneUptoRow : OpenClaim := { program := "ytpfhiimlloeciaadoor", sum := "891177347462bed16108633ea1fd15f1d7ceddc38576a4120704a8eede2e1ae3", func := "stickler/sticklerlaw29.TallyNone", spec := "tallyNone", unfollowed := true, recurses := true, named := ["stickler/token.barred"], apart := false, laid := [("stickler/token.barred", laid_stickler_token_barred)], narrowed := true }
def TallyNoneUptoSaid : Prop := tallyNoneUptoRow.holds Tryd.pinned (OpenSpec.upto tallyNoneSpec)

end Rows
end Go.Proofs.YtpfhiimlloeciaaDoor
