/- Layer 21: the newest first; what fits. -/
import Derived.Test.YteikpdolickkaaaDy6
namespace Go.Proofs.Yteikpdolickkaaa
open Go.RowKit Go.Deep

def rvF (n : Nat) (F : Nat → Fd) : Nat → Fd := fun i => F (n - 1 - i)
theorem sumW_mono (L : Nat → Fd) {a b : Nat} (h : a ≤ b) : sumW L a ≤ sumW L b := by
  induction b with
  | zero => rw [show a = 0 by omega]; exact Nat.le_refl _
  | succ b ih =>
    by_cases e : a = b + 1
    · rw [e]; exact Nat.le_refl _
    · have := ih (by omega)
      show sumW L a ≤ sumW L b + wt (L b)
      omega
theorem sumW_rvF (F : Nat → Fd) {n k : Nat} (h : k ≤ n) : sumW (rvF n F) k = sumW (shF (n - k) F) k := by
  rw [← sumW_rev (shF (n - k) F) k]
  refine sumW_congr fun i hi => ?_
  unfold rvF shF
  congr 1
  omega
/-- As many of the first as come to at most so much. -/
def FitP (L : Nat → Fd) (n : Nat) (most : Int) (k : Nat) : Prop := k ≤ n ∧ (∀ i, i < k → (sumW L (i + 1) : Int) ≤ most) ∧ (k = n ∨ most < (sumW L (k + 1) : Int))
theorem fit_same {F : Nat → Fd} {n j k : Nat} {most : Int} (hj : j ≤ n) (h1 : ∀ i, i < j → most < (sumW (shF i F) (n - i) : Int)) (h2 : j = n ∨ (sumW (shF j F) (n - j) : Int) ≤ most) (hk : FitP (rvF n F) n most k) : k = n - j := by
  obtain ⟨k1, k2, k3⟩ := hk
  rcases Nat.lt_trichotomy k (n - j) with h | h | h
  · exfalso
    have a : (sumW (shF j F) (n - j) : Int) ≤ most := by
      rcases h2 with h2 | h2
      · omega
      · exact h2
    have b : most < (sumW (rvF n F) (k + 1) : Int) := by
      rcases k3 with k3 | k3
      · omega
      · exact k3
    have c := sumW_mono (rvF n F) (show k + 1 ≤ n - j by omega)
    rw [sumW_rvF F (show n - j ≤ n by omega), show n - (n - j) = j by omega] at c
    omega
  · exact h
  · exfalso
    have a := h1 (n - k) (by omega)
    rw [show n - (n - k) = k by omega, ← sumW_rvF F k1] at a
    have b := k2 (k - 1) (by omega)
    rw [show k - 1 + 1 = k by omega] at b
    omega
theorem rvF_sh (F : Nat → Fd) {n j : Nat} (hj : j ≤ n) : ∀ i, i < n - j → rvF (n - j) (shF j F) i = rvF n F i := fun i hi => by
  unfold rvF shF
  congr 1
  omega
def consFd (f : Fd) (L : Nat → Fd) : Nat → Fd := fun i => if i < 1 then f else L (i - 1)
theorem rvF_app (F : Nat → Fd) (f : Fd) (n : Nat) : ∀ i, i < n + 1 → rvF (n + 1) (appFd n F f) i = consFd f (rvF n F) i := fun i hi => by
  unfold rvF appFd consFd
  by_cases h : i < 1
  · rw [if_pos h, if_neg (by omega)]
  · rw [if_neg h, if_pos (by omega)]
    congr 1
    omega
theorem consFd_congr {f : Fd} {L M : Nat → Fd} {n : Nat} (h : ∀ i, i < n → L i = M i) : ∀ i, i < n + 1 → consFd f L i = consFd f M i := fun i hi => by
  unfold consFd
  by_cases e : i < 1
  · rw [if_pos e, if_pos e]
  · rw [if_neg e, if_neg e]
    exact h _ (by omega)
/-- Where a field stands. -/
def FiR (L : Nat → Fd) (m : Nat) (nm vl : ByteArray) (i : Int) (b : Bool) : Prop :=
  (b = true ∧ ∃ q : Nat, q < m ∧ i = (q : Int) + 1 ∧ (L q).name = nm ∧ (L q).val = vl ∧ ∀ j, j < q → ¬ ((L j).name = nm ∧ (L j).val = vl)) ∨
    (b = false ∧ (∀ j, j < m → ¬ ((L j).name = nm ∧ (L j).val = vl)) ∧ ((i = 0 ∧ ∀ j, j < m → (L j).name ≠ nm) ∨ ∃ q : Nat, q < m ∧ i = (q : Int) + 1 ∧ (L q).name = nm ∧ ∀ j, j < q → (L j).name ≠ nm))
theorem FiR.same {L : Nat → Fd} {m : Nat} {nm vl : ByteArray} {i j : Int} {b d : Bool} (h : FiR L m nm vl i b) (k : FiR L m nm vl j d) : i = j ∧ b = d := by
  rcases h with ⟨rfl, q, h1, rfl, h3, h4, h5⟩ | ⟨rfl, h1, h2⟩
  · rcases k with ⟨rfl, r, k1, rfl, k3, k4, k5⟩ | ⟨rfl, k1, k2⟩
    · have : q = r := by
        rcases Nat.lt_trichotomy q r with h | h | h
        · exact absurd ⟨h3, h4⟩ (k5 q h)
        · exact h
        · exact absurd ⟨k3, k4⟩ (h5 r h)
      subst this
      exact ⟨rfl, rfl⟩
    · exact absurd ⟨h3, h4⟩ (k1 q h1)
  · rcases k with ⟨rfl, r, k1, rfl, k3, k4, k5⟩ | ⟨rfl, k1, k2⟩
    · exact absurd ⟨k3, k4⟩ (h1 r k1)
    · refine ⟨?_, rfl⟩
      rcases h2 with ⟨rfl, h2⟩ | ⟨q, h2, rfl, h3, h4⟩
      · rcases k2 with ⟨rfl, k2⟩ | ⟨r, k2, rfl, k3, k4⟩
        · rfl
        · exact absurd k3 (h2 r k2)
      · rcases k2 with ⟨rfl, k2⟩ | ⟨r, k2, rfl, k3, k4⟩
        · exact absurd h3 (k2 q h2)
        · have : q = r := by
            rcases Nat.lt_trichotomy q r with h | h | h
            · exact absurd h3 (k4 q h)
            · exact h
            · exact absurd k3 (h4 r h)
          subst this
          rfl
theorem FiR.congr {L M : Nat → Fd} {m : Nat} {nm vl : ByteArray} {i : Int} {b : Bool} (h : FiR L m nm vl i b) (e : ∀ j, j < m → L j = M j) : FiR M m nm vl i b := by
  rcases h with ⟨rfl, q, h1, rfl, h3, h4, h5⟩ | ⟨rfl, h1, h2⟩
  · exact .inl ⟨rfl, q, h1, rfl, by rw [← e q h1]; exact h3, by rw [← e q h1]; exact h4, fun j hj => by rw [← e j (by omega)]; exact h5 j hj⟩
  · refine .inr ⟨rfl, fun j hj => by rw [← e j hj]; exact h1 j hj, ?_⟩
    rcases h2 with ⟨rfl, h2⟩ | ⟨q, h2, rfl, h3, h4⟩
    · exact .inl ⟨rfl, fun j hj => by rw [← e j hj]; exact h2 j hj⟩
    · exact .inr ⟨q, h2, rfl, by rw [← e q h2]; exact h3, fun j hj => by rw [← e j (by omega)]; exact h4 j hj⟩
theorem FiR.range {L : Nat → Fd} {m : Nat} {nm vl : ByteArray} {i : Int} {b : Bool} (h : FiR L m nm vl i b) : i = 0 ∨ ∃ q : Nat, q < m ∧ i = (q : Int) + 1 := by
  rcases h with ⟨_, q, h1, e, _⟩ | ⟨_, _, ⟨e, _⟩ | ⟨q, h1, e, _⟩⟩
  · exact .inr ⟨q, h1, e⟩
  · exact .inl e
  · exact .inr ⟨q, h1, e⟩
end Go.Proofs.Yteikpdolickkaaa
