/- Layer 28: the document's Check. -/
import Derived.Test.YtpohgehojmeodaaDoorMg3
namespace Go.Proofs.YtpohgehojmeodaaDoor
set_option linter.unusedVariables false
set_option linter.unusedSimpArgs false
open Go.RowKit Go.PlainAid

end Go.Proofs.YtpohgehojmeodaaDoor
