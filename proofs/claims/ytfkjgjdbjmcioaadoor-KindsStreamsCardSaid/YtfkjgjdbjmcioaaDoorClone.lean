/- The contract of 'bytes.Clone': bytes of the call's own, the same as those that are handed in. -/
import Derived.Test.YtfkjgjdbjmcioaaDoorSame
import Derived.WalkSpells
namespace Go.Proofs.YtfkjgjdbjmcioaaDoor
open Go.RowKit

theorem c8_info : (Tryd.prog.info? 5).map (fun i => (i.zero, i.size, i.bytes)) = some (some (.int .u8 0), 1, 1) := by kernel_rfl
theorem c8_size : (Tryd.prog.info? 5).map (·.size) = some 1 := by kernel_rfl

def Cloned (w : World) (n : Nat) (f : Nat → Int) (e : Ending) (w' : World) : Prop := ∃ v, e = .returned v ∧ Own .u8 5 w.heap.size w' v n f ∧ Below w.heap.size w w'

end Go.Proofs.YtfkjgjdbjmcioaaDoor
