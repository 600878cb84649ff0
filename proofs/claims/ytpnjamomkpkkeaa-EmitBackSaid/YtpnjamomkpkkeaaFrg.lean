/- Layer 14: the examples. -/
import Derived.Test.YtpnjamomkpkkeaaFrc
import Derived.Test.YtpnjamomkpkkeaaFr6
import Derived.Test.YtpnjamomkpkkeaaFre
import Derived.Test.YtpnjamomkpkkeaaFrf
import Derived.Deep.Cut
namespace Go.Proofs.Ytpnjamomkpkkeaa
set_option linter.unusedVariables false
set_option linter.unusedSimpArgs false
open Go.RowKit

def x14 (y : Int) : Nat → Int := fun i => if i = 0 then y else if i = 1 then 7 else 0
theorem x14_byt {y : Int} (h0 : 0 ≤ y) (h1 : y ≤ 255) (n : Nat) : Byt n (x14 y) := fun i _ => by
  unfold x14
  (repeat' split) <;> omega
end Go.Proofs.Ytpnjamomkpkkeaa
