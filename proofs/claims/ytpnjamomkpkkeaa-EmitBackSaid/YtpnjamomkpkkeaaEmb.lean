/- Layer 15: a frame's raw form, by the document. -/
import Derived.Test.YtpnjamomkpkkeaaEma
import Derived.Test.YtpnjamomkpkkeaaEm9
import Derived.Test.YtpnjamomkpkkeaaEmq
import Derived.Test.YtpnjamomkpkkeaaEmr
import Derived.Test.YtpnjamomkpkkeaaFsd
import Derived.Test.YtpnjamomkpkkeaaFrf
namespace Go.Proofs.Ytpnjamomkpkkeaa
set_option linter.unusedVariables false
set_option linter.unusedSimpArgs false
open Go.RowKit

end Go.Proofs.Ytpnjamomkpkkeaa
