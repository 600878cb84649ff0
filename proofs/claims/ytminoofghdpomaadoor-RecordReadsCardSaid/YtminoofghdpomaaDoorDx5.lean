/- Layer 3: lists of numbers, the document's side; the law on them. -/
import Derived.Test.YtminoofghdpomaaDoorDx4
import Derived.Test.YtminoofghdpomaaDoorSq5
namespace Go.Proofs.YtminoofghdpomaaDoor
set_option linter.unusedVariables false
set_option linter.unusedSimpArgs false
open Go.RowKit Go.PlainAid

def RlI (s : ByteArray) (w : World) (i a k : Nat) (f : Nat → Int) (v : Value) (wr : World) : Prop :=
  I64F k f ∧ k ≤ i ∧ Own .i64 3 w.heap.size wr v k f ∧ Below w.heap.size w wr ∧ ((i ≤ s.size ∧ a ≤ i ∧ pcB 44 s = itL f k ++ pcT 44 s a i) ∨ (i = s.size + 1 ∧ pcB 44 s = itL f k))
theorem catF_one {f : Nat → Int} {k : Nat} {x : Int} (i : Nat) : catF k f (oneF x) i = if i < k then f i else x := rfl
theorem itL_cat {f : Nat → Int} {k : Nat} {x : Int} : itL (catF k f (oneF x)) (k + 1) = itL f k ++ [intS x] := by
  rw [itL_succ, itL_cong (g := f) (fun i hi => by rw [catF_one, if_pos hi]), catF_one, if_neg (by omega)]
end Go.Proofs.YtminoofghdpomaaDoor
