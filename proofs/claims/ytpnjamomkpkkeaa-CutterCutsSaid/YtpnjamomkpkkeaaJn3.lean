/- Layer 10: what is joined has neighbours of different sides, and joined again it is itself. -/
import Derived.Test.YtpnjamomkpkkeaaJn2
namespace Go.Proofs.Ytpnjamomkpkkeaa
set_option linter.unusedVariables false
set_option linter.unusedSimpArgs false
open Go.RowKit

/-- No piece is empty, neighbours are of different sides. -/
def JOk (s : JS) : Prop := (∀ i, i < s.m → 0 < s.N i) ∧ ∀ i, i + 1 < s.m → s.X i ≠ s.X (i + 1)
theorem JOk.step {s : JS} (h : JOk s) (x : Int) (j : Nat) (b : Nat → Int) : JOk (s.step x j b) := by
  by_cases hj : j = 0
  · subst hj
    rw [JS.step_none]
    exact h
  by_cases hc : 0 < s.m ∧ s.X (s.m - 1) = x
  · rw [JS.step_more hj hc]
    refine ⟨fun i hi => ?_, h.2⟩
    simp only at hi ⊢
    unfold upd
    split
    · omega
    · exact h.1 i hi
  · rw [JS.step_new hj hc]
    refine ⟨fun i hi => ?_, fun i hi => ?_⟩
    · simp only at hi ⊢
      unfold upd
      split
      · omega
      · exact h.1 i (by omega)
    · simp only at hi ⊢
      unfold upd
      by_cases h1 : i + 1 = s.m
      · rw [if_neg (by omega), if_pos h1]
        intro e
        exact hc ⟨by omega, by rw [show s.m - 1 = i by omega]; exact e⟩
      · rw [if_neg (by omega), if_neg h1]
        exact h.2 i (by omega)
theorem jn_ok (F : Nat → Ck) (k : Nat) : JOk (jn F k) := by
  induction k with
  | zero => exact ⟨fun i hi => absurd hi (by simp [jn]), fun i hi => absurd hi (by simp [jn])⟩
  | succ k ih => exact ih.step _ _ _
/-- Joined again. -/
theorem jn_again (s : JS) (hs : JOk s) (F : Nat → Ck) (hF : ∀ i, i < s.m → (F i).from_ = s.X i ∧ (F i).n = s.N i ∧ ∀ j, j < s.N i → (F i).b j = s.G i j) (k : Nat) (hk : k ≤ s.m) :
    (jn F k).m = k ∧ ∀ i, i < k → (jn F k).X i = s.X i ∧ (jn F k).N i = s.N i ∧ ∀ j, j < s.N i → (jn F k).G i j = s.G i j := by
  induction k with
  | zero => exact ⟨rfl, fun i hi => absurd hi (by omega)⟩
  | succ k ih =>
    obtain ⟨h1, h2⟩ := ih (by omega)
    obtain ⟨f1, f2, f3⟩ := hF k (by omega)
    have hn : (F k).n ≠ 0 := by have := hs.1 k (by omega); omega
    have hc : ¬ (0 < (jn F k).m ∧ (jn F k).X ((jn F k).m - 1) = (F k).from_) := by
      rintro ⟨a, e⟩
      rw [h1] at a e
      rw [(h2 (k - 1) (by omega)).1, f1] at e
      have := hs.2 (k - 1) (by omega)
      rw [show k - 1 + 1 = k by omega] at this
      exact this e
    rw [jn_succ F k rfl, JS.step_new hn hc]
    refine ⟨by simp only; omega, fun i hi => ?_⟩
    simp only
    rw [h1]
    unfold upd
    by_cases h3 : i = k
    · subst h3
      rw [if_pos rfl, if_pos rfl, if_pos rfl]
      exact ⟨f1, f2, f3⟩
    · rw [if_neg h3, if_neg h3, if_neg h3]
      exact h2 i (by omega)
end Go.Proofs.Ytpnjamomkpkkeaa
