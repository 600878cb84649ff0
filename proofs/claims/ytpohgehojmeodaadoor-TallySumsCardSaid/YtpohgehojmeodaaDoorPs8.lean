/- Layer 27: the reference's Response. -/
import Derived.Test.YtpohgehojmeodaaDoorPs7
namespace Go.Proofs.YtpohgehojmeodaaDoor
set_option linter.unusedVariables false
set_option linter.unusedSimpArgs false
open Go.RowKit Go.PlainAid

end Go.Proofs.YtpohgehojmeodaaDoor
