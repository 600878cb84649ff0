/- The walks of layer 1's other three laws. -/
import Derived.Test.YtfkjgjdbjmcioaaDoorOctW
namespace Go.Proofs.YtfkjgjdbjmcioaaDoor
open Go.RowKit

theorem getE_ok {n : Nat} {size : Int} (h : getE n size = 0) : 1 ≤ size ∧ size ≤ 4 ∧ size ≤ n := by
  unfold getE at h
  split at h
  · omega
  · split at h <;> omega

/-! ### there and back -/
theorem byteAt_byt (v : Int) (s n : Nat) (f : Nat → Int) : Byt (0 + s) (putF 0 f s v) := by
  intro i _
  simp only [putF, catF, Nat.not_lt_zero, if_false, byteAt]
  omega
theorem num_put (v size : Int) (f : Nat → Int) (h1 : 1 ≤ size) (h2 : size ≤ 4) (h3 : 0 ≤ v) (h4 : v < pw size) : num (putF 0 f size.toNat v) size.toNat = v := by
  rcases pw_cases h1 h2 with ⟨rfl, hp⟩ | ⟨rfl, hp⟩ | ⟨rfl, hp⟩ | ⟨rfl, hp⟩
  all_goals
    rw [hp] at h4
    simp [num, putF, catF, byteAt]
    omega
theorem num_pw (size : Int) (n : Nat) (f : Nat → Int) (hb : Byt n f) (h1 : 1 ≤ size) (h2 : size ≤ 4) (h3 : size ≤ n) : 0 ≤ num f size.toNat ∧ num f size.toNat < pw size := by
  rcases pw_cases h1 h2 with ⟨rfl, hp⟩ | ⟨rfl, hp⟩ | ⟨rfl, hp⟩ | ⟨rfl, hp⟩
  all_goals
    rw [hp]
    have := num_bd hb (Int.toNat _) (show _ ≤ n from by simp; omega) (by decide)
    simpa using this
theorem put_num (size : Int) (n : Nat) (f g : Nat → Int) (hb : Byt n f) (h1 : 1 ≤ size) (h2 : size ≤ 4) (h3 : size ≤ n) : ∀ i, i < 0 + size.toNat → putF 0 g size.toNat (num f size.toNat) i = f i := by
  intro i hi
  have b0 := hb 0
  have b1 := hb 1
  have b2 := hb 2
  have b3 := hb 3
  rcases pw_cases h1 h2 with ⟨rfl, _⟩ | ⟨rfl, _⟩ | ⟨rfl, _⟩ | ⟨rfl, _⟩
  all_goals
    simp at hi
    have hi' : i = 0 ∨ i = 1 ∨ i = 2 ∨ i = 3 := by omega
    rcases hi' with rfl | rfl | rfl | rfl
    all_goals first | omega | (simp [num, putF, catF, byteAt]; omega)

theorem num_putN (v : Int) (s : Nat) (f : Nat → Int) (h1 : 1 ≤ s) (h2 : s ≤ 4) (h3 : 0 ≤ v) (h4 : v < pw s) : num (putF 0 f s v) s = v := by
  have := num_put v s f (by omega) (by omega) h3 h4
  simpa using this
theorem putE_ok {v size : Int} (h : putE v size = 0) : ∃ s : Nat, size = s ∧ 1 ≤ s ∧ s ≤ 4 ∧ 0 ≤ v ∧ v < pw s := by
  unfold putE at h
  split at h
  · omega
  · split at h
    · omega
    · exact ⟨size.toNat, by omega, by omega, by omega, by omega, by rw [show ((size.toNat : Nat) : Int) = size by omega]; omega⟩
/-! ### the highest bit -/
theorem low_bd (n : Int) : 0 ≤ lowN n ∧ lowN n < 2147483648 := by unfold lowN; split <;> (try split) <;> omega
theorem low_back (n : Int) (h0 : 0 ≤ n) (h1 : n < 4294967296) : (if lowB n = true then lowN n + 2147483648 else lowN n) = n := by
  unfold lowB lowN
  rw [if_neg (show ¬ (n < 0 ∨ 4294967296 ≤ n) by omega)]
  by_cases h : n < 2147483648
  · rw [if_pos h, if_neg (by simp; omega)]
  · rw [if_neg h, if_pos (by simp; omega)]
    omega
end Go.Proofs.YtfkjgjdbjmcioaaDoor
