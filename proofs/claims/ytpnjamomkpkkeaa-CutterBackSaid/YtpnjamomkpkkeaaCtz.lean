/- Two arrays of two numbers that are the same. -/
import Derived.Test.YtpnjamomkpkkeaaCtd
import Derived.ChangeKeysEq
namespace Go.Proofs.Ytpnjamomkpkkeaa
set_option linter.unusedVariables false
set_option linter.unusedSimpArgs false
open Go.RowKit
theorem two_info12 : ((Try.prog.info? 71).isSome = true) := by kernel_rfl
theorem eqInt12 (x : Int) (d : Nat) (w : World) : Sem.run Try.prog (Op.equalIn (d + 1) 3 (.int .i64 x) (.int .i64 x)) w = .ok true w := by
  have hu := Try.underlying3
  simp [Op.equalIn, run_underlying hu]
theorem eqTwoG12 (d : Nat) (x y : Int) (w : World) : Sem.run Try.prog (Op.equalIn (d + 1 + 1) 71 (.agg #[.int .i64 x, .int .i64 y]) (.agg #[.int .i64 x, .int .i64 y])) w = .ok true w := by
  obtain ⟨i, hi⟩ := Option.isSome_iff_exists.1 (show (Try.prog.info? 3).isSome = true by kernel_rfl)
  have hc : Try.prog.cellsOf 3 = 1 := by kernel_rfl
  rw [run_equalIn_array w (d + 1) _ _ Try.underlying71 hi, hc]
  show Sem.run Try.prog (Op.eqItems (d + 1) 3 1 _ _ [0, 1]) w = _
  have hp : Try.prog.plainKey 3 = true := by kernel_rfl
  have p0 : Sem.run Try.prog (part 3 #[.int .i64 x, .int .i64 y] (0 * 1)) w = .ok (.int .i64 x) w := run_part_plain w hp rfl
  have p1 : Sem.run Try.prog (part 3 #[.int .i64 x, .int .i64 y] (1 * 1)) w = .ok (.int .i64 y) w := run_part_plain w hp rfl
  have p2 : Sem.run Try.prog (part 3 #[.int .i64 x, .int .i64 y] 1) w = .ok (.int .i64 y) w := p1
  have e2 := eqInt12 y d w
  simp only [Op.eqItems, Sem.run_bind, p0, p1, Result.andThen_ok, eqInt12 x d w, eqInt12 y d w]
  simp [p2, e2]
theorem eqTwo12 (x y : Int) (w : World) : Sem.run Try.prog (Op.equalIn 10000 71 (.agg #[.int .i64 x, .int .i64 y]) (.agg #[.int .i64 x, .int .i64 y])) w = .ok true w := eqTwoG12 9998 x y w
end Go.Proofs.Ytpnjamomkpkkeaa
