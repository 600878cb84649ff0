/- A number's digits, as bytes: plain; no program is named. -/
import Derived.Test.YtminoofghdpomaaDoorVal
namespace Go.Proofs.YtminoofghdpomaaDoor
set_option linter.unusedVariables false
set_option linter.unusedSimpArgs false
open Go.RowKit

def decL (n : Nat) : List UInt8 := if n < 10 then [48 + n.toUInt8] else decL (n / 10) ++ [48 + (n % 10).toUInt8]
termination_by n
decreasing_by omega
theorem decL_small {n : Nat} (h : n < 10) : decL n = [48 + n.toUInt8] := by rw [decL, if_pos h]
theorem decL_more {n : Nat} (h : ¬ n < 10) : decL n = decL (n / 10) ++ [48 + (n % 10).toUInt8] := by rw [decL, if_neg h]
def decS (n : Nat) : ByteArray := ⟨(decL n).toArray⟩
theorem decL_len : ∀ (k n : Nat), 0 < k → n < 10 ^ k → (decL n).length ≤ k ∧ 0 < (decL n).length := by
  intro k
  induction k with
  | zero => intro n h; omega
  | succ k ih =>
    intro n _ hn
    by_cases h : n < 10
    · rw [decL_small h]; exact ⟨by simp, by simp⟩
    · rw [decL_more h, List.length_append]
      by_cases hk : k = 0
      · subst hk; simp at hn; omega
      · have := ih (n / 10) (by omega) (by rw [Nat.pow_succ] at hn; omega)
        simp only [List.length_cons, List.length_nil]
        omega
end Go.Proofs.YtminoofghdpomaaDoor
