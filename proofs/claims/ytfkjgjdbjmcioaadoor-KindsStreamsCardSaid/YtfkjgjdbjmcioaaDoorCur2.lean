/- The contracts of layer 2's calls by their number, of the program and of its reference. -/
import Derived.Test.YtfkjgjdbjmcioaaDoorCur1
import Derived.Test.YtfkjgjdbjmcioaaDoorMem2
namespace Go.Proofs.YtfkjgjdbjmcioaaDoor
open Go.RowKit

/-! ### Bytes -/
/-! ### the law's step -/
theorem grown_start {w w1 w2 : World} {row : Option Nat} (hd : Below w.heap.size w w1) (h5 : w1.grownBy w2 row) : w.grownBy w2 row :=
  ⟨h5.os.trans hd.os, h5.tape.trans hd.tape, h5.output.trans hd.output, Nat.le_trans hd.size h5.size, fun i hi hne => (h5.block i (Nat.lt_of_lt_of_le hi hd.size) hne).trans (hd.block i hi)⟩

/-! ### the reference's step -/
theorem results_tmp4 {fn : Func} {t u v x : Tmp} (h : fn.results = #[.tmp t, .tmp u, .tmp v, .tmp x]) (tmps : Array Value) (P : Program) (w : World) :
    (results fn tmps).run P w = .ok (.tuple #[tmps.getD t undef, tmps.getD u undef, tmps.getD v undef, tmps.getD x undef]) w := by simp [results, h]

end Go.Proofs.YtfkjgjdbjmcioaaDoor
