/- Layer 14: frames that are the same, by the program. -/
import Derived.Test.YtelcpfjifhobjaaFrd
namespace Go.Proofs.Ytelcpfjifhobjaa
set_option linter.unusedVariables false
set_option linter.unusedSimpArgs false
open Go.RowKit

end Go.Proofs.Ytelcpfjifhobjaa
