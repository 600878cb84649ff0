/- Layer 14: what the reader's frame says, type by type. -/
import Derived.Test.YtpnjamomkpkkeaaMI
namespace Go.Proofs.Ytpnjamomkpkkeaa
set_option linter.unusedVariables false
set_option linter.unusedSimpArgs false
open Go.RowKit

end Go.Proofs.Ytpnjamomkpkkeaa
