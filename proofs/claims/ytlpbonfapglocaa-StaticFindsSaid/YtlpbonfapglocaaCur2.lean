/- The contracts of layer 2's calls by their number, of the program and of its reference. -/
import Derived.Test.YtlpbonfapglocaaCur1
import Derived.Test.YtlpbonfapglocaaMem2
namespace Go.Proofs.Ytlpbonfapglocaa
open Go.RowKit

theorem numberNil (s : Int) (w : World) : Calls Try.prog 71 #[.pointer none, .int .i64 s] w fun e w' => e = .returned (.tuple #[.int .i64 0, .int .i64 (getE 0 s)]) ∧ w = w' := by
  have he : getE 0 s ≠ 0 := by unfold getE; split <;> (try split) <;> omega
  have hne : (getE 0 s != 0) = true := by simpa using he
  have He := hide he
  clear he
  go_enter Try.func71, Try.ntmps71
  go_wp2_with fail
  refine (aheadNil _).mono ?_
  rintro e w1 ⟨rfl, rfl⟩
  go_wp2_with fail
  refine (get_bad none 0 0 s _ (by omega) He.out).mono ?_
  rintro e w2 ⟨rfl, rfl⟩
  go_wp2_with fail
  go_ret2
  exact ⟨rfl, rfl⟩

/-! ### Bytes -/
/-! ### the law's step -/
/-- What a step answers and leaves. -/
def StepRes (w : World) (p n t : Nat) (f : Nat → Int) (x : Int) (y k : Nat) (er : Int) (e : Ending) (w' : World) : Prop :=
  ∃ A c, e = .returned (.tuple #[.int .i64 x, .slice A y c, .int .i64 er]) ∧ Rd .u8 w' A y c (fun i => f (t + i)) ∧ Cur w' p n f (t + k) ∧ w.grownBy w' (some p)
theorem grown_start {w w1 w2 : World} {row : Option Nat} (hd : Below w.heap.size w w1) (h5 : w1.grownBy w2 row) : w.grownBy w2 row :=
  ⟨h5.os.trans hd.os, h5.tape.trans hd.tape, h5.output.trans hd.output, Nat.le_trans hd.size h5.size, fun i hi hne => (h5.block i (Nat.lt_of_lt_of_le hi hd.size) hne).trans (hd.block i hi)⟩

/-! ### the reference's step -/
theorem results_tmp4 {fn : Func} {t u v x : Tmp} (h : fn.results = #[.tmp t, .tmp u, .tmp v, .tmp x]) (tmps : Array Value) (P : Program) (w : World) :
    (results fn tmps).run P w = .ok (.tuple #[tmps.getD t undef, tmps.getD u undef, tmps.getD v undef, tmps.getD x undef]) w := by simp [results, h]

end Go.Proofs.Ytlpbonfapglocaa
