/- Layer 16: whatever thirty bits come, just one code begins them: the walk of the law. -/
import Derived.Test.YteijpklepgenbaaCb4
namespace Go.Proofs.Yteijpklepgenbaa
open Go.RowKit

/-- How many numbers of thirty bits a code begins. -/
def wd (i : Nat) : Nat := 2 ^ (30 - len (ord i))
theorem wd_pos (i : Nat) : 0 < wd i := Nat.pow_pos (by omega)
theorem st_next : ∀ i, i < 256 → st (i + 1) = st i + wd i := st_succ
theorem st_le (i : Nat) : ∀ d, i + d < 257 → st i ≤ st (i + d) := by
  intro d
  induction d with
  | zero => intro _; exact Nat.le_refl _
  | succ d ih =>
    intro h
    have h1 := ih (by omega)
    have h2 := st_next (i + d) (by omega)
    rw [← Nat.add_assoc, h2]
    omega
theorem st_lt {i j : Nat} (h : i < j) (hj : j < 257) : st i + wd i ≤ st j := by
  have h1 := st_next i (by omega)
  have h2 := st_le (i + 1) (j - (i + 1)) (by omega)
  rw [show i + 1 + (j - (i + 1)) = j by omega] at h2
  omega
theorem st_find (v : Nat) : ∀ n, n < 257 → v < st n + wd n → ∃ i, i ≤ n ∧ st i ≤ v ∧ v < st i + wd i := by
  intro n
  induction n with
  | zero => exact fun _ h => ⟨0, Nat.le_refl _, by rw [st_zero]; omega, h⟩
  | succ n ih =>
    intro hn h
    by_cases hlt : v < st n + wd n
    · obtain ⟨i, hi, h1, h2⟩ := ih (by omega) hlt
      exact ⟨i, by omega, h1, h2⟩
    · have := st_next n (by omega)
      exact ⟨n + 1, Nat.le_refl _, by omega, h⟩
theorem div_code (v P c : Nat) (hP : 0 < P) : v / P = c ↔ c * P ≤ v ∧ v < c * P + P := by
  constructor
  · rintro rfl
    have h1 := Nat.div_mul_le_self v P
    have h2 := Nat.lt_div_mul_add (a := v) hP
    exact ⟨h1, h2⟩
  · rintro ⟨h1, h2⟩
    refine Nat.le_antisymm ?_ ?_
    · have h3 : v < (c + 1) * P := by rw [Nat.add_mul, Nat.one_mul]; exact h2
      have := (Nat.div_lt_iff_lt_mul hP).2 h3
      omega
    · exact (Nat.le_div_iff_mul_le hP).2 h1
/-- The one symbol whose code begins the bits. -/
theorem one_code (v : Nat) (hv : v < 1073741824) : ∃ t, t < 257 ∧ ∀ s, s < 257 → (v / 2 ^ (30 - len s) = cd (rnk s) ↔ s = t) := by
  obtain ⟨i, hi, h1, h2⟩ := st_find v 256 (by omega) (by unfold wd; rw [st_end]; exact hv)
  have hoi := ord_bd i (by omega)
  refine ⟨ord i, hoi.1, fun s hs => ?_⟩
  have hr := rnk_bd s hs
  have e : v / 2 ^ (30 - len s) = cd (rnk s) ↔ st (rnk s) ≤ v ∧ v < st (rnk s) + wd (rnk s) := by
    unfold st wd
    rw [hr.2]
    exact div_code v _ _ (Nat.pow_pos (by omega))
  rw [e]
  constructor
  · rintro ⟨h3, h4⟩
    have : rnk s = i := by
      rcases Nat.lt_trichotomy (rnk s) i with h | h | h
      · have := st_lt h (by omega)
        omega
      · exact h
      · have := st_lt h hr.1
        omega
    rw [← this, hr.2]
  · rintro rfl
    rw [hoi.2]
    exact ⟨h1, h2⟩

/-- How many of the first k symbols it is. -/
def mn (t k : Nat) : Int := if t < k then 1 else 0
end Go.Proofs.Yteijpklepgenbaa
