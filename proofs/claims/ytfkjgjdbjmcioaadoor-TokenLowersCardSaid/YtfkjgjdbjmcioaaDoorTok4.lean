/- Layer 25: the reference's values; fields; the walks of TokenNames and TokenValues. -/
import Derived.Test.YtfkjgjdbjmcioaaDoorTok3
namespace Go.Proofs.YtfkjgjdbjmcioaaDoor
open Go.RowKit Go.PlainAid

def edB (c : Int) : Bool := decide (c = 9 ∨ c = 32)
def fieldB (n v : ByteArray) : Bool := (nameB n || pseB n) && valB v
end Go.Proofs.YtfkjgjdbjmcioaaDoor
