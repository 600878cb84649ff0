/- Layer 14: what any frame says, or how it is wrong. -/
import Derived.Test.YtpnjamomkpkkeaaFra
namespace Go.Proofs.Ytpnjamomkpkkeaa
set_option linter.unusedVariables false
set_option linter.unusedSimpArgs false
open Go.RowKit

end Go.Proofs.Ytpnjamomkpkkeaa
