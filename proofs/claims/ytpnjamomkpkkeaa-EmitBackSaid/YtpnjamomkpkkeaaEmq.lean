/- Layer 15: the body of a frame, by the document: a priority, no padding. -/
import Derived.Test.YtpnjamomkpkkeaaEm9
namespace Go.Proofs.Ytpnjamomkpkkeaa
set_option linter.unusedVariables false
set_option linter.unusedSimpArgs false
open Go.RowKit

end Go.Proofs.Ytpnjamomkpkkeaa
