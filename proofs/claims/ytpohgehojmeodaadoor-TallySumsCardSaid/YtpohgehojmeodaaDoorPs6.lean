/- Layer 27: the reference's Request. -/
import Derived.Test.YtpohgehojmeodaaDoorPs5
import Derived.Test.YtpohgehojmeodaaDoorPs3
namespace Go.Proofs.YtpohgehojmeodaaDoor
set_option linter.unusedVariables false
set_option linter.unusedSimpArgs false
open Go.RowKit Go.PlainAid

end Go.Proofs.YtpohgehojmeodaaDoor
