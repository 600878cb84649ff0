/- Layer 13: bytes as settings, by the reference: the row is the call's own. -/
import Derived.Test.YtpnjamomkpkkeaaFs4
namespace Go.Proofs.Ytpnjamomkpkkeaa
set_option linter.unusedVariables false
set_option linter.unusedSimpArgs false
open Go.RowKit

def RSetsO (w : World) (n : Nat) (f : Nat → Int) (e : Ending) (w' : World) : Prop :=
  (∃ m, n = m * 6 ∧ ∃ A c, e = .returned (.tuple #[.slice A m c, .bool true]) ∧ Rd2 w' A m c (sF f) (sG f) ∧ (∀ a, A = some a → w.heap.size ≤ a.block) ∧ Below w.heap.size w w') ∨ (n % 6 ≠ 0 ∧ e = .returned (.tuple #[.slice none 0 0, .bool false]) ∧ Below w.heap.size w w')
end Go.Proofs.Ytpnjamomkpkkeaa
