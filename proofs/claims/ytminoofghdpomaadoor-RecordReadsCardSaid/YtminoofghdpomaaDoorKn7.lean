/- Layer 8: the names, both ways. -/
import Derived.Test.YtminoofghdpomaaDoorKn6
import Derived.Test.YtminoofghdpomaaDoorMK
import Derived.Lib.LaidTab
namespace Go.Proofs.YtminoofghdpomaaDoor
set_option linter.unusedVariables false
set_option linter.unusedSimpArgs false
open Go.RowKit Go.PlainAid Go.ChangeShapes Go.WideShapes

theorem pow_laid {w : World} {laid : List (String × DataW Unit)} (hL : laidMet Tryd.prog laid w) (hm : ("internal/strconv.uint64pow10", (.agg [.lit (.int .u64 1), .lit (.int .u64 10), .lit (.int .u64 100), .lit (.int .u64 1000), .lit (.int .u64 10000), .lit (.int .u64 100000), .lit (.int .u64 1000000), .lit (.int .u64 10000000), .lit (.int .u64 100000000), .lit (.int .u64 1000000000), .lit (.int .u64 10000000000), .lit (.int .u64 100000000000), .lit (.int .u64 1000000000000), .lit (.int .u64 10000000000000), .lit (.int .u64 100000000000000), .lit (.int .u64 1000000000000000), .lit (.int .u64 10000000000000000), .lit (.int .u64 100000000000000000), .lit (.int .u64 1000000000000000000), .lit (.int .u64 10000000000000000000)] : DataW Unit)) ∈ laid) : PowW w := by
  obtain ⟨ps, hv, _⟩ := hL
  obtain ⟨g, t, cs, fuel, p, h1, h2, h3, h4⟩ := laid_at hv hm
  obtain rfl : g = 2 := Option.some.inj (h1.symm.trans (by kernel_rfl))
  obtain rfl : t = 109 := Option.some.inj (h2.symm.trans (by kernel_rfl))
  have h5 := Lib.cells_of_tab (zs := Lib.pow10Tab) (k := .u64) Tryd.underlying109 Tryd.underlying98 (by kernel_rfl) (by kernel_rfl) h4
  refine PowW.of_tab ?_
  unfold Lib.TabIs
  rw [h3, ← h5]
theorem names_laid {w : World} {laid : List (String × DataW Unit)} (hL : laidMet Tryd.prog laid w) (hm : ("stickler/kinds.names", strsD nmLL) ∈ laid) : NmW w :=
  strs_laid nmLL hL hm (by kernel_rfl) (by kernel_rfl) Tryd.underlying63 Tryd.underlying9 (by kernel_rfl) (by kernel_rfl)
end Go.Proofs.YtminoofghdpomaaDoor
