/- Layer 15: a frame's raw form, whether it is right, its bytes. -/
import Derived.Test.YtpnjamomkpkkeaaEm8
import Derived.Test.YtpnjamomkpkkeaaM3
namespace Go.Proofs.Ytpnjamomkpkkeaa
set_option linter.unusedVariables false
set_option linter.unusedSimpArgs false
open Go.RowKit

/-- What either side's 'Raw' gives. -/
def Rw5 (X : Fm5) (from_ : Int) (yes no : Value) (w : World) (e : Ending) (w' : World) : Prop :=
  Below w.heap.size w w' ∧ ((((from_ = 0 ∨ from_ = 1) ∧ X.Ok) ∧ ∃ A c, e = .returned (.tuple #[.agg #[.int .i64 from_, .int .i64 X.T, .int .i64 X.fl, .int .i64 X.st, .bool false, .slice A X.emL.length c], yes]) ∧ Rd .u8 w' A X.emL.length c (lF X.emL)) ∨
    (¬ ((from_ = 0 ∨ from_ = 1) ∧ X.Ok) ∧ e = .returned (.tuple #[.agg #[.int .i64 0, .int .i64 0, .int .i64 0, .int .i64 0, .bool false, .slice none 0 0], no])))
theorem emL_top {X : Fm5} (h : X.Ok) (hn : X.nd ≤ 2000) (hs : X.ns ≤ 1000) : X.emL.length ≤ 9000 := emL_le h.1 hn hs
def Eb5 (X : Fm5) (no : Value) (yes : Value) (w : World) (e : Ending) (w' : World) : Prop :=
  Below w.heap.size w w' ∧ ((X.Ok ∧ ∃ A c, e = .returned (.tuple #[.slice A (9 + X.emL.length) c, yes]) ∧ Rd .u8 w' A (9 + X.emL.length) c (catF 9 (hdF X.emL.length X.T X.fl (hdX X.st false)) (lF X.emL))) ∨ (¬ X.Ok ∧ e = .returned (.tuple #[.slice none 0 0, no])))
end Go.Proofs.Ytpnjamomkpkkeaa
