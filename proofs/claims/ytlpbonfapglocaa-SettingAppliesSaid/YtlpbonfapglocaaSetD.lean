/- Layer 13: lists one behind the other, for SettingApplies. -/
import Derived.Test.YtlpbonfapglocaaSetB
namespace Go.Proofs.Ytlpbonfapglocaa
open Go.RowKit

/-- Two rows one behind the other, as one function. -/
def joinI (n : Nat) (F G : Nat → Int) : Nat → Int := fun i => if i < n then F i else G (i - n)
theorem join_lo {n k : Nat} (F G : Nat → Int) (h : k < n) : joinI n F G k = F k := if_pos h
theorem join_hi (n k : Nat) (F G : Nat → Int) : joinI n F G (n + k) = G k := by
  unfold joinI
  rw [if_neg (by omega), Nat.add_sub_cancel_left]
theorem lsv_pre (F G F2 G2 : Nat → Int) (id was : Int) (n : Nat) : ∀ k, k ≤ n → lsv (joinI n F F2) (joinI n G G2) id was k = lsv F G id was k := by
  intro k
  induction k with
  | zero => intro _; rfl
  | succ k ih =>
    intro hk
    have h : k < n := by omega
    simp only [lsv, join_lo F F2 h, join_lo G G2 h, ih (by omega)]
theorem lsv_join (F G F2 G2 : Nat → Int) (id was : Int) (n m : Nat) : lsv (joinI n F F2) (joinI n G G2) id was (n + m) = lsv F2 G2 id (lsv F G id was n) m := by
  induction m with
  | zero => exact lsv_pre F G F2 G2 id was n n (Nat.le_refl _)
  | succ m ih =>
    rw [← Nat.add_assoc]
    simp only [lsv, join_hi, ih]
theorem pr_join (n : Nat) (F G F2 G2 : Nat → Int) : ∀ i, catV (n * 2) (pr F G) (pr F2 G2) i = pr (joinI n F F2) (joinI n G G2) i := by
  intro i
  rcases Nat.mod_two_eq_zero_or_one i with h0 | h0
  · obtain ⟨j, rfl⟩ : ∃ j, i = j * 2 := ⟨i / 2, by omega⟩
    rw [pr_0]
    simp only [catV, joinI]
    by_cases h : j < n
    · rw [if_pos (by omega), if_pos h, pr_0]
    · rw [if_neg (by omega), if_neg h, show j * 2 - n * 2 = (j - n) * 2 by omega, pr_0]
  · obtain ⟨j, rfl⟩ : ∃ j, i = j * 2 + 1 := ⟨i / 2, by omega⟩
    rw [pr_1]
    simp only [catV, joinI]
    by_cases h : j < n
    · rw [if_pos (by omega), if_pos h, pr_1]
    · rw [if_neg (by omega), if_neg h, show j * 2 + 1 - n * 2 = (j - n) * 2 + 1 by omega, pr_1]
end Go.Proofs.Ytlpbonfapglocaa
