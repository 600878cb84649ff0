/- Layer 10: the walk of ChunksJoins. -/
import Derived.Test.YtpnjamomkpkkeaaJn5
import Derived.Test.YtpnjamomkpkkeaaCk3
namespace Go.Proofs.Ytpnjamomkpkkeaa
set_option linter.unusedVariables false
set_option linter.unusedSimpArgs false
open Go.RowKit

theorem sumC_bound (F : Nat → Ck) (m B : Nat) (h : ∀ i, i < m → (F i).n ≤ B) : sumC F m ≤ m * B := by
  induction m with
  | zero => simp [sumC]
  | succ m ih =>
    have h1 := ih (fun i hi => h i (by omega))
    have h2 := h m (by omega)
    show sumC F m + (F m).n ≤ (m + 1) * B
    rw [Nat.add_mul]
    omega
end Go.Proofs.Ytpnjamomkpkkeaa
