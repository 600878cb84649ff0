/- The walks of layer 1's four laws: whatever the input they return true, and nothing that was there is written. -/
import Derived.Test.YtfkjgjdbjmcioaaDoorOct5
namespace Go.Proofs.YtfkjgjdbjmcioaaDoor
open Go.RowKit

/-- alive, at a call of a law. -/
theorem _root_.Go.RowKit.Below.of {w w1 w' : World} (h : Below w.heap.size w w1) (k : Below w1.heap.size w1 w') : Below w.heap.size w w' := h.trans (k.mono h.size)

end Go.Proofs.YtfkjgjdbjmcioaaDoor
