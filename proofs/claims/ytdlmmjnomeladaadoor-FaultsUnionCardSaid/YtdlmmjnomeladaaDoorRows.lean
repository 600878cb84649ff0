/-
  NARROWER THAN 'FOR EVERY INPUT', by the rows' own cells (each row's printed sentence says how): WordsHex: laid · WordsQuote: laid · WordsLine: laid · WordsSplit: laid · DigitsTexts: laid · DigitsReads: laid · DigitsNatural: laid · DigitsLists: laid · KindsNames: laid · KindsFlags: laid · FaultsCodes: laid · FaultsSets: laid · FaultsUnion: laid · FaultsTexts: laid.
  DERIVED. THE GIVEN ROWS OF THIS SEAT. 14 by the template 'for every input the law returns true; each argument reads behind the call as it read before'; 0 by the template 'total and deterministic' (their statements: YtdlmmjnomeladaaDoorTotals.lean).
  GIVEN WITH THE SEED: the statements are not yours to turn. If you find one false, say at which input.
  Laid BY PROGRAM, IN A SANDBOX (cutbox-rows.mjs): the forced cells as the released guide's own fill.sh prints them over the translation 0c455fb11604ad02… (all of the seat's roots in one cut). By AI agents, Wed Nov 11 2026. No macro, syntax, notation, axiom, sorry.
-/
import Derived.Test.YtdlmmjnomeladaaDoorChecked
import GoSem.PinnedTables
import GoSem.Claim
import GoSem.ClaimJoined
import GoSem.ClaimMapViews
import Derived.JoinedTies
import Derived.KernelRfl
namespace Go.Proofs.YtdlmmjnomeladaaDoor
/- THE CELL 'sum', in the pinned program and in every row, IS THE sha256 OF THE DUMP (.gsa) THAT YtdlmmjnomeladaaDoorProg.lean LOADS. Nothing in Lean hashes anything: it is a label: what it is worth is what the hold of that sum in a sandbox is worth. -/
noncomputable def Tryd.pinned : Pinned := { name := "ytdlmmjnomeladaadoor", sum := "0c455fb11604ad02edcb6d88ba37185bb9b8897657b9b0a4f76a2493dfc4996b", checked := Tryd.checked }
namespace Rows
def none {H : Type} : Left H := { results := [], args := [] }

/- WHAT THE LISTED PACKAGE-LEVEL VARIABLES READ AS WHEN THE CALL BEGINS. Each datum BY PROGRAM (the guide's laid-datum.mjs) off the statement by which the dump's own 'gosem.cut.vars' lays the variable. In a bare row this is a premise. The card (YtdlmmjnomeladaaDoorCards.lean) ties it to the program's text. -/
def laid_unicode_utf8_acceptRanges {H : Type} : DataW H := .agg [.agg [.lit (.int .u8 128), .lit (.int .u8 191)], .agg [.lit (.int .u8 160), .lit (.int .u8 191)], .agg [.lit (.int .u8 128), .lit (.int .u8 159)], .agg [.lit (.int .u8 144), .lit (.int .u8 191)], .agg [.lit (.int .u8 128), .lit (.int .u8 143)], .agg [.lit (.int .u8 0), .lit (.int .u8 0)], .agg [.lit (.int .u8 0), .lit (.int .u8 0)], .agg [.lit (.int .u8 0), .lit (.int .u8 0)], .agg [.lit (.int .u8 0), .lit (.int .u8 0)], .agg [.lit (.int .u8 0), .lit (.int .u8 0)], .agg [.lit (.int .u8 0), .lit (.int .u8 0)], .agg [.lit (.int .u8 0), .lit (.int .u8 0)], .agg [.lit (.int .u8 0), .lit (.int .u8 0)], .agg [.lit (.int .u8 0), .lit (.int .u8 0)], .agg [.lit (.int .u8 0), .lit (.int .u8 0)], .agg [.lit (.int .u8 0), .lit (.int .u8 0)]]
/-- One of Go's own tables, pinned by name: the form's constant. -/
def laid_unicode_utf8_first : DataW Unit := Go.Pinned.utf8First
def laid_math_bits_deBruijn32tab {H : Type} : DataW H := .agg [.lit (.int .u8 0), .lit (.int .u8 1), .lit (.int .u8 28), .lit (.int .u8 2), .lit (.int .u8 29), .lit (.int .u8 14), .lit (.int .u8 24), .lit (.int .u8 3), .lit (.int .u8 30), .lit (.int .u8 22), .lit (.int .u8 20), .lit (.int .u8 15), .lit (.int .u8 25), .lit (.int .u8 17), .lit (.int .u8 4), .lit (.int .u8 8), .lit (.int .u8 31), .lit (.int .u8 27), .lit (.int .u8 13), .lit (.int .u8 23), .lit (.int .u8 21), .lit (.int .u8 19), .lit (.int .u8 16), .lit (.int .u8 7), .lit (.int .u8 26), .lit (.int .u8 12), .lit (.int .u8 18), .lit (.int .u8 6), .lit (.int .u8 11), .lit (.int .u8 5), .lit (.int .u8 10), .lit (.int .u8 9)]
def laid_math_bits_deBruijn64tab {H : Type} : DataW H := .agg [.lit (.int .u8 0), .lit (.int .u8 1), .lit (.int .u8 56), .lit (.int .u8 2), .lit (.int .u8 57), .lit (.int .u8 49), .lit (.int .u8 28), .lit (.int .u8 3), .lit (.int .u8 61), .lit (.int .u8 58), .lit (.int .u8 42), .lit (.int .u8 50), .lit (.int .u8 38), .lit (.int .u8 29), .lit (.int .u8 17), .lit (.int .u8 4), .lit (.int .u8 62), .lit (.int .u8 47), .lit (.int .u8 59), .lit (.int .u8 36), .lit (.int .u8 45), .lit (.int .u8 43), .lit (.int .u8 51), .lit (.int .u8 22), .lit (.int .u8 53), .lit (.int .u8 39), .lit (.int .u8 33), .lit (.int .u8 30), .lit (.int .u8 24), .lit (.int .u8 18), .lit (.int .u8 12), .lit (.int .u8 5), .lit (.int .u8 63), .lit (.int .u8 55), .lit (.int .u8 48), .lit (.int .u8 27), .lit (.int .u8 60), .lit (.int .u8 41), .lit (.int .u8 37), .lit (.int .u8 16), .lit (.int .u8 46), .lit (.int .u8 35), .lit (.int .u8 44), .lit (.int .u8 21), .lit (.int .u8 52), .lit (.int .u8 32), .lit (.int .u8 23), .lit (.int .u8 11), .lit (.int .u8 54), .lit (.int .u8 26), .lit (.int .u8 40), .lit (.int .u8 15), .lit (.int .u8 34), .lit (.int .u8 20), .lit (.int .u8 31), .lit (.int .u8 10), .lit (.int .u8 25), .lit (.int .u8 14), .lit (.int .u8 19), .lit (.int .u8 9), .lit (.int .u8 13), .lit (.int .u8 8), .lit (.int .u8 7), .lit (.int .u8 6)]
def laid_internal_strconv_uint64pow10 {H : Type} : DataW H := .agg [.lit (.int .u64 1), .lit (.int .u64 10), .lit (.int .u64 100), .lit (.int .u64 1000), .lit (.int .u64 10000), .lit (.int .u64 100000), .lit (.int .u64 1000000), .lit (.int .u64 10000000), .lit (.int .u64 100000000), .lit (.int .u64 1000000000), .lit (.int .u64 10000000000), .lit (.int .u64 100000000000), .lit (.int .u64 1000000000000), .lit (.int .u64 10000000000000), .lit (.int .u64 100000000000000), .lit (.int .u64 1000000000000000), .lit (.int .u64 10000000000000000), .lit (.int .u64 100000000000000000), .lit (.int .u64 1000000000000000000), .lit (.int .u64 10000000000000000000)]
def laid_stickler_kinds_names {H : Type} : DataW H := .agg [.lit (.string [68, 65, 84, 65]), .lit (.string [72, 69, 65, 68, 69, 82, 83]), .lit (.string [80, 82, 73, 79, 82, 73, 84, 89]), .lit (.string [82, 83, 84, 95, 83, 84, 82, 69, 65, 77]), .lit (.string [83, 69, 84, 84, 73, 78, 71, 83]), .lit (.string [80, 85, 83, 72, 95, 80, 82, 79, 77, 73, 83, 69]), .lit (.string [80, 73, 78, 71]), .lit (.string [71, 79, 65, 87, 65, 89]), .lit (.string [87, 73, 78, 68, 79, 87, 95, 85, 80, 68, 65, 84, 69]), .lit (.string [67, 79, 78, 84, 73, 78, 85, 65, 84, 73, 79, 78])]
def laid_stickler_faults_codeNames {H : Type} : DataW H := .agg [.lit (.string [78, 79, 95, 69, 82, 82, 79, 82]), .lit (.string [80, 82, 79, 84, 79, 67, 79, 76, 95, 69, 82, 82, 79, 82]), .lit (.string [73, 78, 84, 69, 82, 78, 65, 76, 95, 69, 82, 82, 79, 82]), .lit (.string [70, 76, 79, 87, 95, 67, 79, 78, 84, 82, 79, 76, 95, 69, 82, 82, 79, 82]), .lit (.string [83, 69, 84, 84, 73, 78, 71, 83, 95, 84, 73, 77, 69, 79, 85, 84]), .lit (.string [83, 84, 82, 69, 65, 77, 95, 67, 76, 79, 83, 69, 68]), .lit (.string [70, 82, 65, 77, 69, 95, 83, 73, 90, 69, 95, 69, 82, 82, 79, 82]), .lit (.string [82, 69, 70, 85, 83, 69, 68, 95, 83, 84, 82, 69, 65, 77]), .lit (.string [67, 65, 78, 67, 69, 76]), .lit (.string [67, 79, 77, 80, 82, 69, 83, 83, 73, 79, 78, 95, 69, 82, 82, 79, 82]), .lit (.string [67, 79, 78, 78, 69, 67, 84, 95, 69, 82, 82, 79, 82]), .lit (.string [69, 78, 72, 65, 78, 67, 69, 95, 89, 79, 85, 82, 95, 67, 65, 76, 77]), .lit (.string [73, 78, 65, 68, 69, 81, 85, 65, 84, 69, 95, 83, 69, 67, 85, 82, 73, 84, 89]), .lit (.string [72, 84, 84, 80, 95, 49, 95, 49, 95, 82, 69, 81, 85, 73, 82, 69, 68])]

/-- 'sticklerlaw04.WordsHex': WHATEVER THE INPUT: true; the input reads as it did. -/
def wordsHexSpec : ChangeSpec := { name := "wordsHex", fn := fun _ => fun
  | [d1, d2] => { results := [.lit (.bool true)], args := [d1, d2] }
  | _ => none }
def wordsHexRow : OpenClaim := { program := "ytdlmmjnomeladaadoor", sum := "0c455fb11604ad02edcb6d88ba37185bb9b8897657b9b0a4f76a2493dfc4996b", func := "stickler/sticklerlaw04.WordsHex", spec := "wordsHex", inPlace := ["internal/bytealg.IndexByteString", "internal/bytealg.IndexString", "internal/bytealg.CountString"], unfollowed := true, recurses := true, named := ["unicode/utf8.first", "unicode/utf8.acceptRanges", "internal/bytealg.MaxLen"], apart := false, laid := [("unicode/utf8.acceptRanges", laid_unicode_utf8_acceptRanges), ("unicode/utf8.first", laid_unicode_utf8_first)] }
def WordsHexSaid : Prop := wordsHexRow.holds Tryd.pinned (OpenSpec.ofChange wordsHexSpec)

/-- ITS FALSE NEIGHBOUR: 'it returns false'. Refute it at one input. -/
def wordsHexWrong : ChangeSpec := { name := "wordsHex", fn := fun _ => fun
  | [d1, d2] => { results := [.lit (.bool false)], args := [d1, d2] }
  | _ => none }
def WordsHexWrongFalsely : Prop := wordsHexRow.holds Tryd.pinned (OpenSpec.ofChange wordsHexWrong)

/-- 'sticklerlaw04.WordsQuote': WHATEVER THE INPUT: true; the input reads as it did. -/
def wordsQuoteSpec : ChangeSpec := { name := "wordsQuote", fn := fun _ => fun
  | [d1, d2] => { results := [.lit (.bool true)], args := [d1, d2] }
  | _ => none }
def wordsQuoteRow : OpenClaim := { program := "ytdlmmjnomeladaadoor", sum := "0c455fb11604ad02edcb6d88ba37185bb9b8897657b9b0a4f76a2493dfc4996b", func := "stickler/sticklerlaw04.WordsQuote", spec := "wordsQuote", inPlace := ["internal/bytealg.IndexByteString", "internal/bytealg.IndexString", "internal/bytealg.CountString"], unfollowed := true, recurses := true, named := ["unicode/utf8.first", "unicode/utf8.acceptRanges", "internal/bytealg.MaxLen"], apart := false, laid := [("unicode/utf8.acceptRanges", laid_unicode_utf8_acceptRanges), ("unicode/utf8.first", laid_unicode_utf8_first)] }
def WordsQuoteSaid : Prop := wordsQuoteRow.holds Tryd.pinned (OpenSpec.ofChange wordsQuoteSpec)

/-- ITS FALSE NEIGHBOUR: 'it returns false'. Refute it at one input. -/
def wordsQuoteWrong : ChangeSpec := { name := "wordsQuote", fn := fun _ => fun
  | [d1, d2] => { results := [.lit (.bool false)], args := [d1, d2] }
  | _ => none }
def WordsQuoteWrongFalsely : Prop := wordsQuoteRow.holds Tryd.pinned (OpenSpec.ofChange wordsQuoteWrong)

/-- 'sticklerlaw04.WordsLine': WHATEVER THE INPUT: true; the input reads as it did. -/
def wordsLineSpec : ChangeSpec := { name := "wordsLine", fn := fun _ => fun
  | [d] => { results := [.lit (.bool true)], args := [d] }
  | _ => none }
def wordsLineRow : OpenClaim := { program := "ytdlmmjnomeladaadoor", sum := "0c455fb11604ad02edcb6d88ba37185bb9b8897657b9b0a4f76a2493dfc4996b", func := "stickler/sticklerlaw04.WordsLine", spec := "wordsLine", inPlace := ["internal/bytealg.IndexByteString", "internal/bytealg.IndexString", "internal/bytealg.CountString", "internal/abi.NoEscape", "internal/bytealg.MakeNoZero"], unfollowed := true, recurses := true, named := ["unicode/utf8.first", "unicode/utf8.acceptRanges", "internal/bytealg.MaxLen"], apart := false, laid := [("unicode/utf8.acceptRanges", laid_unicode_utf8_acceptRanges), ("unicode/utf8.first", laid_unicode_utf8_first)] }
def WordsLineSaid : Prop := wordsLineRow.holds Tryd.pinned (OpenSpec.ofChange wordsLineSpec)

/-- ITS FALSE NEIGHBOUR: 'it returns false'. Refute it at one input. -/
def wordsLineWrong : ChangeSpec := { name := "wordsLine", fn := fun _ => fun
  | [d] => { results := [.lit (.bool false)], args := [d] }
  | _ => none }
def WordsLineWrongFalsely : Prop := wordsLineRow.holds Tryd.pinned (OpenSpec.ofChange wordsLineWrong)

/-- 'sticklerlaw04.WordsSplit': WHATEVER THE INPUT: true; the input reads as it did. -/
def wordsSplitSpec : ChangeSpec := { name := "wordsSplit", fn := fun _ => fun
  | [d] => { results := [.lit (.bool true)], args := [d] }
  | _ => none }
def wordsSplitRow : OpenClaim := { program := "ytdlmmjnomeladaadoor", sum := "0c455fb11604ad02edcb6d88ba37185bb9b8897657b9b0a4f76a2493dfc4996b", func := "stickler/sticklerlaw04.WordsSplit", spec := "wordsSplit", inPlace := ["internal/bytealg.IndexByteString", "internal/bytealg.IndexString", "internal/bytealg.CountString"], unfollowed := true, recurses := true, named := ["unicode/utf8.first", "unicode/utf8.acceptRanges", "internal/bytealg.MaxLen"], apart := false, laid := [("unicode/utf8.acceptRanges", laid_unicode_utf8_acceptRanges), ("unicode/utf8.first", laid_unicode_utf8_first)] }
def WordsSplitSaid : Prop := wordsSplitRow.holds Tryd.pinned (OpenSpec.ofChange wordsSplitSpec)

/-- ITS FALSE NEIGHBOUR: 'it returns false'. Refute it at one input. -/
def wordsSplitWrong : ChangeSpec := { name := "wordsSplit", fn := fun _ => fun
  | [d] => { results := [.lit (.bool false)], args := [d] }
  | _ => none }
def WordsSplitWrongFalsely : Prop := wordsSplitRow.holds Tryd.pinned (OpenSpec.ofChange wordsSplitWrong)

/-- 'sticklerlaw03.DigitsTexts': WHATEVER THE INPUT: true; the input reads as it did. -/
def digitsTextsSpec : ChangeSpec := { name := "digitsTexts", fn := fun _ => fun
  | [d] => { results := [.lit (.bool true)], args := [d] }
  | _ => none }
def digitsTextsRow : OpenClaim := { program := "ytdlmmjnomeladaadoor", sum := "0c455fb11604ad02edcb6d88ba37185bb9b8897657b9b0a4f76a2493dfc4996b", func := "stickler/sticklerlaw03.DigitsTexts", spec := "digitsTexts", inPlace := ["internal/bytealg.IndexByteString", "internal/bytealg.IndexString", "internal/abi.NoEscape", "internal/bytealg.MakeNoZero"], unfollowed := true, recurses := true, named := ["internal/strconv.uint64pow10", "math/bits.deBruijn32tab", "math/bits.deBruijn64tab", "unicode/utf8.first", "unicode/utf8.acceptRanges", "internal/bytealg.MaxLen"], apart := false, laid := [("math/bits.deBruijn32tab", laid_math_bits_deBruijn32tab), ("math/bits.deBruijn64tab", laid_math_bits_deBruijn64tab), ("internal/strconv.uint64pow10", laid_internal_strconv_uint64pow10), ("unicode/utf8.acceptRanges", laid_unicode_utf8_acceptRanges), ("unicode/utf8.first", laid_unicode_utf8_first)] }
def DigitsTextsSaid : Prop := digitsTextsRow.holds Tryd.pinned (OpenSpec.ofChange digitsTextsSpec)

/-- ITS FALSE NEIGHBOUR: 'it returns false'. Refute it at one input. -/
def digitsTextsWrong : ChangeSpec := { name := "digitsTexts", fn := fun _ => fun
  | [d] => { results := [.lit (.bool false)], args := [d] }
  | _ => none }
def DigitsTextsWrongFalsely : Prop := digitsTextsRow.holds Tryd.pinned (OpenSpec.ofChange digitsTextsWrong)

/-- 'sticklerlaw03.DigitsReads': WHATEVER THE INPUT: true; the input reads as it did. -/
def digitsReadsSpec : ChangeSpec := { name := "digitsReads", fn := fun _ => fun
  | [d] => { results := [.lit (.bool true)], args := [d] }
  | _ => none }
def digitsReadsRow : OpenClaim := { program := "ytdlmmjnomeladaadoor", sum := "0c455fb11604ad02edcb6d88ba37185bb9b8897657b9b0a4f76a2493dfc4996b", func := "stickler/sticklerlaw03.DigitsReads", spec := "digitsReads", inPlace := ["internal/bytealg.IndexByteString", "internal/bytealg.IndexString", "internal/abi.NoEscape", "internal/bytealg.MakeNoZero"], unfollowed := true, recurses := true, named := ["unicode/utf8.first", "unicode/utf8.acceptRanges", "internal/bytealg.MaxLen", "internal/strconv.uint64pow10", "math/bits.deBruijn32tab", "math/bits.deBruijn64tab"], apart := false, laid := [("math/bits.deBruijn32tab", laid_math_bits_deBruijn32tab), ("math/bits.deBruijn64tab", laid_math_bits_deBruijn64tab), ("internal/strconv.uint64pow10", laid_internal_strconv_uint64pow10), ("unicode/utf8.acceptRanges", laid_unicode_utf8_acceptRanges), ("unicode/utf8.first", laid_unicode_utf8_first)] }
def DigitsReadsSaid : Prop := digitsReadsRow.holds Tryd.pinned (OpenSpec.ofChange digitsReadsSpec)

/-- ITS FALSE NEIGHBOUR: 'it returns false'. Refute it at one input. -/
def digitsReadsWrong : ChangeSpec := { name := "digitsReads", fn := fun _ => fun
  | [d] => { results := [.lit (.bool false)], args := [d] }
  | _ => none }
def DigitsReadsWrongFalsely : Prop := digitsReadsRow.holds Tryd.pinned (OpenSpec.ofChange digitsReadsWrong)

/-- 'sticklerlaw03.DigitsNatural': WHATEVER THE INPUT: true; the input reads as it did. -/
def digitsNaturalSpec : ChangeSpec := { name := "digitsNatural", fn := fun _ => fun
  | [d1, d2] => { results := [.lit (.bool true)], args := [d1, d2] }
  | _ => none }
def digitsNaturalRow : OpenClaim := { program := "ytdlmmjnomeladaadoor", sum := "0c455fb11604ad02edcb6d88ba37185bb9b8897657b9b0a4f76a2493dfc4996b", func := "stickler/sticklerlaw03.DigitsNatural", spec := "digitsNatural", inPlace := ["internal/bytealg.IndexByteString", "internal/bytealg.IndexString", "internal/abi.NoEscape", "internal/bytealg.MakeNoZero"], unfollowed := true, recurses := true, named := ["unicode/utf8.first", "unicode/utf8.acceptRanges", "internal/bytealg.MaxLen", "internal/strconv.uint64pow10", "math/bits.deBruijn32tab", "math/bits.deBruijn64tab"], apart := false, laid := [("math/bits.deBruijn32tab", laid_math_bits_deBruijn32tab), ("math/bits.deBruijn64tab", laid_math_bits_deBruijn64tab), ("internal/strconv.uint64pow10", laid_internal_strconv_uint64pow10), ("unicode/utf8.acceptRanges", laid_unicode_utf8_acceptRanges), ("unicode/utf8.first", laid_unicode_utf8_first)] }
def DigitsNaturalSaid : Prop := digitsNaturalRow.holds Tryd.pinned (OpenSpec.ofChange digitsNaturalSpec)

/-- ITS FALSE NEIGHBOUR: 'it returns false'. Refute it at one input. -/
def digitsNaturalWrong : ChangeSpec := { name := "digitsNatural", fn := fun _ => fun
  | [d1, d2] => { results := [.lit (.bool false)], args := [d1, d2] }
  | _ => none }
def DigitsNaturalWrongFalsely : Prop := digitsNaturalRow.holds Tryd.pinned (OpenSpec.ofChange digitsNaturalWrong)

/-- 'sticklerlaw03.DigitsLists': WHATEVER THE INPUT: true; the input reads as it did. -/
def digitsListsSpec : ChangeSpec := { name := "digitsLists", fn := fun _ => fun
  | [d1, d2] => { results := [.lit (.bool true)], args := [d1, d2] }
  | _ => none }
def digitsListsRow : OpenClaim := { program := "ytdlmmjnomeladaadoor", sum := "0c455fb11604ad02edcb6d88ba37185bb9b8897657b9b0a4f76a2493dfc4996b", func := "stickler/sticklerlaw03.DigitsLists", spec := "digitsLists", inPlace := ["internal/bytealg.IndexByteString", "internal/bytealg.IndexString", "internal/abi.NoEscape", "internal/bytealg.MakeNoZero"], unfollowed := true, recurses := true, named := ["unicode/utf8.first", "unicode/utf8.acceptRanges", "internal/bytealg.MaxLen", "internal/strconv.uint64pow10", "math/bits.deBruijn32tab", "math/bits.deBruijn64tab"], apart := false, laid := [("math/bits.deBruijn32tab", laid_math_bits_deBruijn32tab), ("math/bits.deBruijn64tab", laid_math_bits_deBruijn64tab), ("internal/strconv.uint64pow10", laid_internal_strconv_uint64pow10), ("unicode/utf8.acceptRanges", laid_unicode_utf8_acceptRanges), ("unicode/utf8.first", laid_unicode_utf8_first)] }
def DigitsListsSaid : Prop := digitsListsRow.holds Tryd.pinned (OpenSpec.ofChange digitsListsSpec)

/-- ITS FALSE NEIGHBOUR: 'it returns false'. Refute it at one input. -/
def digitsListsWrong : ChangeSpec := { name := "digitsLists", fn := fun _ => fun
  | [d1, d2] => { results := [.lit (.bool false)], args := [d1, d2] }
  | _ => none }
def DigitsListsWrongFalsely : Prop := digitsListsRow.holds Tryd.pinned (OpenSpec.ofChange digitsListsWrong)

/-- 'sticklerlaw08.KindsNames': WHATEVER THE INPUT: true; the input reads as it did. -/
def kindsNamesSpec : ChangeSpec := { name := "kindsNames", fn := fun _ => fun
  | [d1, d2] => { results := [.lit (.bool true)], args := [d1, d2] }
  | _ => none }
def kindsNamesRow : OpenClaim := { program := "ytdlmmjnomeladaadoor", sum := "0c455fb11604ad02edcb6d88ba37185bb9b8897657b9b0a4f76a2493dfc4996b", func := "stickler/sticklerlaw08.KindsNames", spec := "kindsNames", recurses := true, named := ["stickler/kinds.names", "internal/strconv.uint64pow10", "math/bits.deBruijn32tab", "math/bits.deBruijn64tab"], apart := false, laid := [("math/bits.deBruijn32tab", laid_math_bits_deBruijn32tab), ("math/bits.deBruijn64tab", laid_math_bits_deBruijn64tab), ("internal/strconv.uint64pow10", laid_internal_strconv_uint64pow10), ("stickler/kinds.names", laid_stickler_kinds_names)] }
def KindsNamesSaid : Prop := kindsNamesRow.holds Tryd.pinned (OpenSpec.ofChange kindsNamesSpec)

/-- ITS FALSE NEIGHBOUR: 'it returns false'. Refute it at one input. -/
def kindsNamesWrong : ChangeSpec := { name := "kindsNames", fn := fun _ => fun
  | [d1, d2] => { results := [.lit (.bool false)], args := [d1, d2] }
  | _ => none }
def KindsNamesWrongFalsely : Prop := kindsNamesRow.holds Tryd.pinned (OpenSpec.ofChange kindsNamesWrong)

/-- 'sticklerlaw08.KindsFlags': WHATEVER THE INPUT: true; the input reads as it did. -/
def kindsFlagsSpec : ChangeSpec := { name := "kindsFlags", fn := fun _ => fun
  | [d1, d2, d3] => { results := [.lit (.bool true)], args := [d1, d2, d3] }
  | _ => none }
def kindsFlagsRow : OpenClaim := { program := "ytdlmmjnomeladaadoor", sum := "0c455fb11604ad02edcb6d88ba37185bb9b8897657b9b0a4f76a2493dfc4996b", func := "stickler/sticklerlaw08.KindsFlags", spec := "kindsFlags", named := ["stickler/kinds.names", "internal/strconv.uint64pow10", "math/bits.deBruijn32tab", "math/bits.deBruijn64tab"], apart := false, laid := [("math/bits.deBruijn32tab", laid_math_bits_deBruijn32tab), ("math/bits.deBruijn64tab", laid_math_bits_deBruijn64tab), ("internal/strconv.uint64pow10", laid_internal_strconv_uint64pow10), ("stickler/kinds.names", laid_stickler_kinds_names)] }
def KindsFlagsSaid : Prop := kindsFlagsRow.holds Tryd.pinned (OpenSpec.ofChange kindsFlagsSpec)

/-- ITS FALSE NEIGHBOUR: 'it returns false'. Refute it at one input. -/
def kindsFlagsWrong : ChangeSpec := { name := "kindsFlags", fn := fun _ => fun
  | [d1, d2, d3] => { results := [.lit (.bool false)], args := [d1, d2, d3] }
  | _ => none }
def KindsFlagsWrongFalsely : Prop := kindsFlagsRow.holds Tryd.pinned (OpenSpec.ofChange kindsFlagsWrong)

/-- 'sticklerlaw09.FaultsCodes': WHATEVER THE INPUT: true; the input reads as it did. -/
def faultsCodesSpec : ChangeSpec := { name := "faultsCodes", fn := fun _ => fun
  | [d1, d2] => { results := [.lit (.bool true)], args := [d1, d2] }
  | _ => none }
def faultsCodesRow : OpenClaim := { program := "ytdlmmjnomeladaadoor", sum := "0c455fb11604ad02edcb6d88ba37185bb9b8897657b9b0a4f76a2493dfc4996b", func := "stickler/sticklerlaw09.FaultsCodes", spec := "faultsCodes", inPlace := ["internal/abi.NoEscape", "internal/bytealg.MakeNoZero"], unfollowed := true, recurses := true, named := ["stickler/faults.codeNames", "internal/strconv.uint64pow10", "math/bits.deBruijn32tab", "math/bits.deBruijn64tab"], apart := false, laid := [("math/bits.deBruijn32tab", laid_math_bits_deBruijn32tab), ("math/bits.deBruijn64tab", laid_math_bits_deBruijn64tab), ("internal/strconv.uint64pow10", laid_internal_strconv_uint64pow10), ("stickler/faults.codeNames", laid_stickler_faults_codeNames)] }
def FaultsCodesSaid : Prop := faultsCodesRow.holds Tryd.pinned (OpenSpec.ofChange faultsCodesSpec)

/-- ITS FALSE NEIGHBOUR: 'it returns false'. Refute it at one input. -/
def faultsCodesWrong : ChangeSpec := { name := "faultsCodes", fn := fun _ => fun
  | [d1, d2] => { results := [.lit (.bool false)], args := [d1, d2] }
  | _ => none }
def FaultsCodesWrongFalsely : Prop := faultsCodesRow.holds Tryd.pinned (OpenSpec.ofChange faultsCodesWrong)

/-- 'sticklerlaw09.FaultsSets': WHATEVER THE INPUT: true; the input reads as it did. -/
def faultsSetsSpec : ChangeSpec := { name := "faultsSets", fn := fun _ => fun
  | [d1, d2, d3] => { results := [.lit (.bool true)], args := [d1, d2, d3] }
  | _ => none }
def faultsSetsRow : OpenClaim := { program := "ytdlmmjnomeladaadoor", sum := "0c455fb11604ad02edcb6d88ba37185bb9b8897657b9b0a4f76a2493dfc4996b", func := "stickler/sticklerlaw09.FaultsSets", spec := "faultsSets", inPlace := ["internal/abi.NoEscape", "internal/bytealg.MakeNoZero"], unfollowed := true, recurses := true, named := ["stickler/faults.codeNames", "internal/strconv.uint64pow10", "math/bits.deBruijn32tab", "math/bits.deBruijn64tab"], apart := false, laid := [("math/bits.deBruijn32tab", laid_math_bits_deBruijn32tab), ("math/bits.deBruijn64tab", laid_math_bits_deBruijn64tab), ("internal/strconv.uint64pow10", laid_internal_strconv_uint64pow10), ("stickler/faults.codeNames", laid_stickler_faults_codeNames)] }
def FaultsSetsSaid : Prop := faultsSetsRow.holds Tryd.pinned (OpenSpec.ofChange faultsSetsSpec)

/-- ITS FALSE NEIGHBOUR: 'it returns false'. Refute it at one input. -/
def faultsSetsWrong : ChangeSpec := { name := "faultsSets", fn := fun _ => fun
  | [d1, d2, d3] => { results := [.lit (.bool false)], args := [d1, d2, d3] }
  | _ => none }
def FaultsSetsWrongFalsely : Prop := faultsSetsRow.holds Tryd.pinned (OpenSpec.ofChange faultsSetsWrong)

/-- 'sticklerlaw09.FaultsUnion': WHATEVER THE INPUT: true; the input reads as it did. -/
def faultsUnionSpec : ChangeSpec := { name := "faultsUnion", fn := fun _ => fun
  | [d1, d2, d3] => { results := [.lit (.bool true)], args := [d1, d2, d3] }
  | _ => none }
def faultsUnionRow : OpenClaim := { program := "ytdlmmjnomeladaadoor", sum := "0c455fb11604ad02edcb6d88ba37185bb9b8897657b9b0a4f76a2493dfc4996b", func := "stickler/sticklerlaw09.FaultsUnion", spec := "faultsUnion", inPlace := ["internal/abi.NoEscape", "internal/bytealg.MakeNoZero"], unfollowed := true, recurses := true, named := ["stickler/faults.codeNames", "internal/strconv.uint64pow10", "math/bits.deBruijn32tab", "math/bits.deBruijn64tab"], apart := false, laid := [("math/bits.deBruijn32tab", laid_math_bits_deBruijn32tab), ("math/bits.deBruijn64tab", laid_math_bits_deBruijn64tab), ("internal/strconv.uint64pow10", laid_internal_strconv_uint64pow10), ("stickler/faults.codeNames", laid_stickler_faults_codeNames)] }
def FaultsUnionSaid : Prop := faultsUnionRow.holds Tryd.pinned (OpenSpec.ofChange faultsUnionSpec)

/-- ITS FALSE NEIGHBOUR: 'it returns false'. Refute it at one input. -/
def faultsUnionWrong : ChangeSpec := { name := "faultsUnion", fn := fun _ => fun
  | [d1, d2, d3] => { results := [.lit (.bool false)], args := [d1, d2, d3] }
  | _ => none }
def FaultsUnionWrongFalsely : Prop := faultsUnionRow.holds Tryd.pinned (OpenSpec.ofChange faultsUnionWrong)

/-- 'sticklerlaw09.FaultsTexts': WHATEVER THE INPUT: true; the input reads as it did. -/
def faultsTextsSpec : ChangeSpec := { name := "faultsTexts", fn := fun _ => fun
  | [d1, d2, d3] => { results := [.lit (.bool true)], args := [d1, d2, d3] }
  | _ => none }
def faultsTextsRow : OpenClaim := { program := "ytdlmmjnomeladaadoor", sum := "0c455fb11604ad02edcb6d88ba37185bb9b8897657b9b0a4f76a2493dfc4996b", func := "stickler/sticklerlaw09.FaultsTexts", spec := "faultsTexts", inPlace := ["internal/abi.NoEscape", "internal/bytealg.MakeNoZero", "internal/bytealg.IndexByteString", "internal/bytealg.IndexString"], unfollowed := true, recurses := true, named := ["stickler/faults.codeNames", "internal/strconv.uint64pow10", "math/bits.deBruijn32tab", "math/bits.deBruijn64tab", "internal/bytealg.MaxLen", "unicode/utf8.first", "unicode/utf8.acceptRanges"], apart := false, laid := [("math/bits.deBruijn32tab", laid_math_bits_deBruijn32tab), ("math/bits.deBruijn64tab", laid_math_bits_deBruijn64tab), ("internal/strconv.uint64pow10", laid_internal_strconv_uint64pow10), ("unicode/utf8.acceptRanges", laid_unicode_utf8_acceptRanges), ("stickler/faults.codeNames", laid_stickler_faults_codeNames), ("unicode/utf8.first", laid_unicode_utf8_first)] }
def FaultsTextsSaid : Prop := faultsTextsRow.holds Tryd.pinned (OpenSpec.ofChange faultsTextsSpec)

/-- ITS FALSE NEIGHBOUR: 'it returns false'. Refute it at one input. -/
def faultsTextsWrong : ChangeSpec := { name := "faultsTexts", fn := fun _ => fun
  | [d1, d2, d3] => { results := [.lit (.bool false)], args := [d1, d2, d3] }
  | _ => none }
def FaultsTextsWrongFalsely : Prop := faultsTextsRow.holds Tryd.pinned (OpenSpec.ofChange faultsTextsWrong)

/- THE SECOND FORM. 'bulk': how many values and letters a reading holds, each counted each time it is reached (what is shared counts as often as it is met; a slice's spare places count too). A statement '..UptoSaid' is the law's where the arguments, and the package variables that the reading takes, are together of bulk at most 1048576: NARROWER than '..Said'. Prove '..Said' where nothing that the law and all that it calls make is longer than what came in: it says more and counts as full. Else prove '..UptoSaid'. A law counts once. -/
mutual
def uptoBulk {H : Type} : DataW H → Nat
  | .lit (.string bytes) => bytes.length + 1
  | .lit _ => 1
  | .nil => 1
  | .ptr d => uptoBulk d + 1
  | .slice elems spare => uptoBulkAll elems + uptoBulkAll spare + 1
  | .agg parts => uptoBulkAll parts + 1
  | .iface _ d => uptoBulk d + 1
  | .map entries => uptoBulkEntries entries + 1
  | .held _ => 1
def uptoBulkAll {H : Type} : List (DataW H) → Nat
  | [] => 0
  | d :: r => uptoBulk d + uptoBulkAll r
def uptoBulkEntries {H : Type} : List (Lit × DataW H) → Nat
  | [] => 0
  | x :: r => uptoBulkEntry x + uptoBulkEntries r
def uptoBulkEntry {H : Type} : Lit × DataW H → Nat
  | (.string bytes, d) => bytes.length + uptoBulk d + 1
  | (_, d) => uptoBulk d + 1
 end
def uptoSmall : (H : Type) → List (DataW H) → Bool := fun _ ds => decide (uptoBulkAll ds ≤ 1048576)
def OpenSpec.upto (s : _root_.Go.ChangeSpec) : _root_.Go.OpenSpec := { _root_.Go.OpenSpec.ofChange s with cond := some uptoSmall }

/-- 'sticklerlaw04.WordsHex', WHERE WHAT IT READS IS OF BULK AT MOST 1048576: true; the input reads as it did. -/
def wordsHexUptoRow : OpenClaim := { program := "ytdlmmjnomeladaadoor", sum := "0c455fb11604ad02edcb6d88ba37185bb9b8897657b9b0a4f76a2493dfc4996b", func := "stickler/sticklerlaw04.WordsHex", spec := "wordsHex", inPlace := ["internal/bytealg.IndexByteString", "internal/bytealg.IndexString", "internal/bytealg.CountString"], unfollowed := true, recurses := true, named := ["unicode/utf8.first", "unicode/utf8.acceptRanges", "internal/bytealg.MaxLen"], apart := false, laid := [("unicode/utf8.acceptRanges", laid_unicode_utf8_acceptRanges), ("unicode/utf8.first", laid_unicode_utf8_first)], narrowed := true }
def WordsHexUptoSaid : Prop := wordsHexUptoRow.holds Tryd.pinned (OpenSpec.upto wordsHexSpec)

/-- 'sticklerlaw04.WordsQuote', WHERE WHAT IT READS IS OF BULK AT MOST 1048576: true; the input reads as it did. -/
def wordsQuoteUptoRow : OpenClaim := { program := "ytdlmmjnomeladaadoor", sum := "0c455fb11604ad02edcb6d88ba37185bb9b8897657b9b0a4f76a2493dfc4996b", func := "stickler/sticklerlaw04.WordsQuote", spec := "wordsQuote", inPlace := ["internal/bytealg.IndexByteString", "internal/bytealg.IndexString", "internal/bytealg.CountString"], unfollowed := true, recurses := true, named := ["unicode/utf8.first", "unicode/utf8.acceptRanges", "internal/bytealg.MaxLen"], apart := false, laid := [("unicode/utf8.acceptRanges", laid_unicode_utf8_acceptRanges), ("unicode/utf8.first", laid_unicode_utf8_first)], narrowed := true }
def WordsQuoteUptoSaid : Prop := wordsQuoteUptoRow.holds Tryd.pinned (OpenSpec.upto wordsQuoteSpec)

/-- 'sticklerlaw04.WordsLine', WHERE WHAT IT READS IS OF BULK AT MOST 1048576: true; the input reads as it did. -/
def wordsLineUptoRow : OpenClaim := { program := "ytdlmmjnomeladaadoor", sum := "0c455fb11604ad02edcb6d88ba37185bb9b8897657b9b0a4f76a2493dfc4996b", func := "stickler/sticklerlaw04.WordsLine", spec := "wordsLine", inPlace := ["internal/bytealg.IndexByteString", "internal/bytealg.IndexString", "internal/bytealg.CountString", "internal/abi.NoEscape", "internal/bytealg.MakeNoZero"], unfollowed := true, recurses := true, named := ["unicode/utf8.first", "unicode/utf8.acceptRanges", "internal/bytealg.MaxLen"], apart := false, laid := [("unicode/utf8.acceptRanges", laid_unicode_utf8_acceptRanges), ("unicode/utf8.first", laid_unicode_utf8_first)], narrowed := true }
def WordsLineUptoSaid : Prop := wordsLineUptoRow.holds Tryd.pinned (OpenSpec.upto wordsLineSpec)

/-- 'sticklerlaw04.WordsSplit', WHERE WHAT IT READS IS OF BULK AT MOST 1048576: true; the input reads as it did. -/
def wordsSplitUptoRow : OpenClaim := { program := "ytdlmmjnomeladaadoor", sum := "0c455fb11604ad02edcb6d88ba37185bb9b8897657b9b0a4f76a2493dfc4996b", func := "stickler/sticklerlaw04.WordsSplit", spec := "wordsSplit", inPlace := ["internal/bytealg.IndexByteString", "internal/bytealg.IndexString", "internal/bytealg.CountString"], unfollowed := true, recurses := true, named := ["unicode/utf8.first", "unicode/utf8.acceptRanges", "internal/bytealg.MaxLen"], apart := false, laid := [("unicode/utf8.acceptRanges", laid_unicode_utf8_acceptRanges), ("unicode/utf8.first", laid_unicode_utf8_first)], narrowed := true }
def WordsSplitUptoSaid : Prop := wordsSplitUptoRow.holds Tryd.pinned (OpenSpec.upto wordsSplitSpec)

/-- 'sticklerlaw03.DigitsTexts', WHERE WHAT IT READS IS OF BULK AT MOST 1048576: true; the input reads as it did. -/
def digitsTextsUptoRow : OpenClaim := { program := "ytdlmmjnomeladaadoor", sum := "0c455fb11604ad02edcb6d88ba37185bb9b8897657b9b0a4f76a2493dfc4996b", func := "stickler/sticklerlaw03.DigitsTexts", spec := "digitsTexts", inPlace := ["internal/bytealg.IndexByteString", "internal/bytealg.IndexString", "internal/abi.NoEscape", "internal/bytealg.MakeNoZero"], unfollowed := true, recurses := true, named := ["internal/strconv.uint64pow10", "math/bits.deBruijn32tab", "math/bits.deBruijn64tab", "unicode/utf8.first", "unicode/utf8.acceptRanges", "internal/bytealg.MaxLen"], apart := false, laid := [("math/bits.deBruijn32tab", laid_math_bits_deBruijn32tab), ("math/bits.deBruijn64tab", laid_math_bits_deBruijn64tab), ("internal/strconv.uint64pow10", laid_internal_strconv_uint64pow10), ("unicode/utf8.acceptRanges", laid_unicode_utf8_acceptRanges), ("unicode/utf8.first", laid_unicode_utf8_first)], narrowed := true }
def DigitsTextsUptoSaid : Prop := digitsTextsUptoRow.holds Tryd.pinned (OpenSpec.upto digitsTextsSpec)

/-- 'sticklerlaw03.DigitsReads', WHERE WHAT IT READS IS OF BULK AT MOST 1048576: true; the input reads as it did. -/
def digitsReadsUptoRow : OpenClaim := { program := "ytdlmmjnomeladaadoor", sum := "0c455fb11604ad02edcb6d88ba37185bb9b8897657b9b0a4f76a2493dfc4996b", func := "stickler/sticklerlaw03.DigitsReads", spec := "digitsReads", inPlace := ["internal/bytealg.IndexByteString", "internal/bytealg.IndexString", "internal/abi.NoEscape", "internal/bytealg.MakeNoZero"], unfollowed := true, recurses := true, named := ["unicode/utf8.first", "unicode/utf8.acceptRanges", "internal/bytealg.MaxLen", "internal/strconv.uint64pow10", "math/bits.deBruijn32tab", "math/bits.deBruijn64tab"], apart := false, laid := [("math/bits.deBruijn32tab", laid_math_bits_deBruijn32tab), ("math/bits.deBruijn64tab", laid_math_bits_deBruijn64tab), ("internal/strconv.uint64pow10", laid_internal_strconv_uint64pow10), ("unicode/utf8.acceptRanges", laid_unicode_utf8_acceptRanges), ("unicode/utf8.first", laid_unicode_utf8_first)], narrowed := true }
def DigitsReadsUptoSaid : Prop := digitsReadsUptoRow.holds Tryd.pinned (OpenSpec.upto digitsReadsSpec)

/-- 'sticklerlaw03.DigitsNatural', WHERE WHAT IT READS IS OF BULK AT MOST 1048576: true; the input reads as it did. -/
def digitsNaturalUptoRow : OpenClaim := { program := "ytdlmmjnomeladaadoor", sum := "0c455fb11604ad02edcb6d88ba37185bb9b8897657b9b0a4f76a2493dfc4996b", func := "stickler/sticklerlaw03.DigitsNatural", spec := "digitsNatural", inPlace := ["internal/bytealg.IndexByteString", "internal/bytealg.IndexString", "internal/abi.NoEscape", "internal/bytealg.MakeNoZero"], unfollowed := true, recurses := true, named := ["unicode/utf8.first", "unicode/utf8.acceptRanges", "internal/bytealg.MaxLen", "internal/strconv.uint64pow10", "math/bits.deBruijn32tab", "math/bits.deBruijn64tab"], apart := false, laid := [("math/bits.deBruijn32tab", laid_math_bits_deBruijn32tab), ("math/bits.deBruijn64tab", laid_math_bits_deBruijn64tab), ("internal/strconv.uint64pow10", laid_internal_strconv_uint64pow10), ("unicode/utf8.acceptRanges", laid_unicode_utf8_acceptRanges), ("unicode/utf8.first", laid_unicode_utf8_first)], narrowed := true }
def DigitsNaturalUptoSaid : Prop := digitsNaturalUptoRow.holds Tryd.pinned (OpenSpec.upto digitsNaturalSpec)

/-- 'sticklerlaw03.DigitsLists', WHERE WHAT IT READS IS OF BULK AT MOST 1048576: true; the input reads as it did. -/
def digitsListsUptoRow : OpenClaim := { program := "ytdlmmjnomeladaadoor", sum := "0c455fb11604ad02edcb6d88ba37185bb9b8897657b9b0a4f76a2493dfc4996b", func := "stickler/sticklerlaw03.DigitsLists", spec := "digitsLists", inPlace := ["internal/bytealg.IndexByteString", "internal/bytealg.IndexString", "internal/abi.NoEscape", "internal/bytealg.MakeNoZero"], unfollowed := true, recurses := true, named := ["unicode/utf8.first", "unicode/utf8.acceptRanges", "internal/bytealg.MaxLen", "internal/strconv.uint64pow10", "math/bits.deBruijn32tab", "math/bits.deBruijn64tab"], apart := false, laid := [("math/bits.deBruijn32tab", laid_math_bits_deBruijn32tab), ("math/bits.deBruijn64tab", laid_math_bits_deBruijn64tab), ("internal/strconv.uint64pow10", laid_internal_strconv_uint64pow10), ("unicode/utf8.acceptRanges", laid_unicode_utf8_acceptRanges), ("unicode/utf8.first", laid_unicode_utf8_first)], narrowed := true }
def DigitsListsUptoSaid : Prop := digitsListsUptoRow.holds Tryd.pinned (OpenSpec.upto digitsListsSpec)

/-- 'sticklerlaw08.KindsNames', WHERE WHAT IT READS IS OF BULK AT MOST 1048576: true; the input reads as it did. -/
def kindsNamesUptoRow : OpenClaim := { program := "ytdlmmjnomeladaadoor", sum := "0c455fb11604ad02edcb6d88ba37185bb9b8897657b9b0a4f76a2493dfc4996b", func := "stickler/sticklerlaw08.KindsNames", spec := "kindsNames", recurses := true, named := ["stickler/kinds.names", "internal/strconv.uint64pow10", "math/bits.deBruijn32tab", "math/bits.deBruijn64tab"], apart := false, laid := [("math/bits.deBruijn32tab", laid_math_bits_deBruijn32tab), ("math/bits.deBruijn64tab", laid_math_bits_deBruijn64tab), ("internal/strconv.uint64pow10", laid_internal_strconv_uint64pow10), ("stickler/kinds.names", laid_stickler_kinds_names)], narrowed := true }
def KindsNamesUptoSaid : Prop := kindsNamesUptoRow.holds Tryd.pinned (OpenSpec.upto kindsNamesSpec)

/-- 'sticklerlaw08.KindsFlags', WHERE WHAT IT READS IS OF BULK AT MOST 1048576: true; the input reads as it did. -/
def kindsFlagsUptoRow : OpenClaim := { program := "ytdlmmjnomeladaadoor", sum := "0c455fb11604ad02edcb6d88ba37185bb9b8897657b9b0a4f76a2493dfc4996b", func := "stickler/sticklerlaw08.KindsFlags", spec := "kindsFlags", named := ["stickler/kinds.names", "internal/strconv.uint64pow10", "math/bits.deBruijn32tab", "math/bits.deBruijn64tab"], apart := false, laid := [("math/bits.deBruijn32tab", laid_math_bits_deBruijn32tab), ("math/bits.deBruijn64tab", laid_math_bits_deBruijn64tab), ("internal/strconv.uint64pow10", laid_internal_strconv_uint64pow10), ("stickler/kinds.names", laid_stickler_kinds_names)], narrowed := true }
def KindsFlagsUptoSaid : Prop := kindsFlagsUptoRow.holds Tryd.pinned (OpenSpec.upto kindsFlagsSpec)

/-- 'sticklerlaw09.FaultsCodes', WHERE WHAT IT READS IS OF BULK AT MOST 1048576: true; the input reads as it did. -/
def faultsCodesUptoRow : OpenClaim := { program := "ytdlmmjnomeladaadoor", sum := "0c455fb11604ad02edcb6d88ba37185bb9b8897657b9b0a4f76a2493dfc4996b", func := "stickler/sticklerlaw09.FaultsCodes", spec := "faultsCodes", inPlace := ["internal/abi.NoEscape", "internal/bytealg.MakeNoZero"], unfollowed := true, recurses := true, named := ["stickler/faults.codeNames", "internal/strconv.uint64pow10", "math/bits.deBruijn32tab", "math/bits.deBruijn64tab"], apart := false, laid := [("math/bits.deBruijn32tab", laid_math_bits_deBruijn32tab), ("math/bits.deBruijn64tab", laid_math_bits_deBruijn64tab), ("internal/strconv.uint64pow10", laid_internal_strconv_uint64pow10), ("stickler/faults.codeNames", laid_stickler_faults_codeNames)], narrowed := true }
def FaultsCodesUptoSaid : Prop := faultsCodesUptoRow.holds Tryd.pinned (OpenSpec.upto faultsCodesSpec)

/-- 'sticklerlaw09.FaultsSets', WHERE WHAT IT READS IS OF BULK AT MOST 1048576: true; the input reads as it did. -/
def faultsSetsUptoRow : OpenClaim := { program := "ytdlmmjnomeladaadoor", sum := "0c455fb11604ad02edcb6d88ba37185bb9b8897657b9b0a4f76a2493dfc4996b", func := "stickler/sticklerlaw09.FaultsSets", spec := "faultsSets", inPlace := ["internal/abi.NoEscape", "internal/bytealg.MakeNoZero"], unfollowed := true, recurses := true, named := ["stickler/faults.codeNames", "internal/strconv.uint64pow10", "math/bits.deBruijn32tab", "math/bits.deBruijn64tab"], apart := false, laid := [("math/bits.deBruijn32tab", laid_math_bits_deBruijn32tab), ("math/bits.deBruijn64tab", laid_math_bits_deBruijn64tab), ("internal/strconv.uint64pow10", laid_internal_strconv_uint64pow10), ("stickler/faults.codeNames", laid_stickler_faults_codeNames)], narrowed := true }
def FaultsSetsUptoSaid : Prop := faultsSetsUptoRow.holds Tryd.pinned (OpenSpec.upto faultsSetsSpec)

/-- 'sticklerlaw09.FaultsUnion', WHERE WHAT IT READS IS OF BULK AT MOST 1048576: true; the input reads as it did. -/
def faultsUnionUptoRow : OpenClaim := { program := "ytdlmmjnomeladaadoor", sum := "0c455fb11604ad02edcb6d88ba37185bb9b8897657b9b0a4f76a2493dfc4996b", func := "stickler/sticklerlaw09.FaultsUnion", spec := "faultsUnion", inPlace := ["internal/abi.NoEscape", "internal/bytealg.MakeNoZero"], unfollowed := true, recurses := true, named := ["stickler/faults.codeNames", "internal/strconv.uint64pow10", "math/bits.deBruijn32tab", "math/bits.deBruijn64tab"], apart := false, laid := [("math/bits.deBruijn32tab", laid_math_bits_deBruijn32tab), ("math/bits.deBruijn64tab", laid_math_bits_deBruijn64tab), ("internal/strconv.uint64pow10", laid_internal_strconv_uint64pow10), ("stickler/faults.codeNames", laid_stickler_faults_codeNames)], narrowed := true }
def FaultsUnionUptoSaid : Prop := faultsUnionUptoRow.holds Tryd.pinned (OpenSpec.upto faultsUnionSpec)

/-- 'sticklerlaw09.FaultsTexts', WHERE WHAT IT READS IS OF BULK AT MOST 1048576: true; the input reads as it did. -/
def faultsTextsUptoRow : OpenClaim := { program := "ytdlmmjnomeladaadoor", sum := "0c455fb11604ad02edcb6d88ba37185bb9b8897657b9b0a4f76a2493dfc4996b", func := "stickler/sticklerlaw09.FaultsTexts", spec := "faultsTexts", inPlace := ["internal/abi.NoEscape", "internal/bytealg.MakeNoZero", "internal/bytealg.IndexByteString", "internal/bytealg.IndexString"], unfollowed := true, recurses := true, named := ["stickler/faults.codeNames", "internal/strconv.uint64pow10", "math/bits.deBruijn32tab", "math/bits.deBruijn64tab", "internal/bytealg.MaxLen", "unicode/utf8.first", "unicode/utf8.acceptRanges"], apart := false, laid := [("math/bits.deBruijn32tab", laid_math_bits_deBruijn32tab), ("math/bits.deBruijn64tab", laid_math_bits_deBruijn64tab), ("internal/strconv.uint64pow10", laid_internal_strconv_uint64pow10), ("unicode/utf8.acceptRanges", laid_unicode_utf8_acceptRanges), ("stickler/faults.codeNames", laid_stickler_faults_codeNames), ("unicode/utf8.first", laid_unicode_utf8_first)], narrowed := true }
def FaultsTextsUptoSaid : Prop := faultsTextsUptoRow.holds Tryd.pinned (OpenSpec.upto faultsTextsSpec)

end Rows
end Go.Proofs.YtdlmmjnomeladaaDoor
