/- Layer 13: the walks of SettingParses and SettingPuts. -/
import Derived.Test.YtpnjamomkpkkeaaSetW
namespace Go.Proofs.Ytpnjamomkpkkeaa
set_option linter.unusedVariables false
set_option linter.unusedSimpArgs false
open Go.RowKit

theorem numS_congrB {f g : Nat → Int} {k : Nat} (h : ∀ i, i < k → f i = g i) : num f k = num g k := by
  induction k with
  | zero => rfl
  | succ k ih => simp only [num]; rw [ih (fun i hi => h i (by omega)), h k (by omega)]
theorem byteAt_num {n : Nat} {f : Nat → Int} (hb : Byt n f) (s : Nat) (h1 : 1 ≤ s) (h2 : s ≤ 4) (h3 : s ≤ n) (i : Nat) (hi : i < s) : byteAt (num f s) s i = f i := by
  have := put_num (s : Int) n f (oneF 0) hb (by omega) (by omega) (by omega) i (by simpa using hi)
  simpa [putF, catF] using this
theorem shiftB {n : Nat} {f : Nat → Int} (hb : Byt n f) (k : Nat) : Byt (n - k) (fun j => f (k + j)) := fun j hj => hb (k + j) (by omega)
theorem sets_ok {n m : Nat} {f : Nat → Int} (hb : Byt n f) (hm : n = m * 6) : ∀ i, i < m → okS (sF f) (sG f) i := by
  intro i hi
  have h1 := num_bd (shiftB hb (i * 6)) 2 (by omega) (by omega)
  have h2 := num_bd (shiftB hb (i * 6 + 2)) 4 (by omega) (by omega)
  have h1' := h1.2
  have h2' := h2.2
  simp at h1' h2'
  exact ⟨⟨h1.1, h1'⟩, h2.1, h2'⟩
theorem sB_back {n m : Nat} {f : Nat → Int} (hb : Byt n f) (hm : n = m * 6) : ∀ j, j < n → sB (sF f) (sG f) j = f j := by
  intro j hj
  unfold sB
  by_cases h : j % 6 < 2
  · rw [if_pos h]
    have := byteAt_num (shiftB hb (j / 6 * 6)) 2 (by omega) (by omega) (by omega) (j % 6) h
    rw [show j / 6 * 6 + j % 6 = j by omega] at this
    exact this
  · rw [if_neg h]
    have := byteAt_num (shiftB hb (j / 6 * 6 + 2)) 4 (by omega) (by omega) (by omega) (j % 6 - 2) (by omega)
    rw [show j / 6 * 6 + 2 + (j % 6 - 2) = j by omega] at this
    exact this
theorem byteAt_rng (v : Int) (s i : Nat) : 0 ≤ byteAt v s i ∧ byteAt v s i ≤ 255 := by unfold byteAt; omega
theorem sB_byt (F G : Nat → Int) (n : Nat) : Byt n (sB F G) := by
  intro j _
  unfold sB
  split
  · exact byteAt_rng _ _ _
  · exact byteAt_rng _ _ _
theorem sF_back {F G : Nat → Int} {i : Nat} (h : okS F G i) : sF (sB F G) i = F i := by
  unfold sF
  rw [numS_congrB (g := putF 0 (oneF 0) 2 (F i)) (fun j hj => by
    unfold sB
    rw [show (i * 6 + j) % 6 = j by omega, show (i * 6 + j) / 6 = i by omega, if_pos hj]
    simp [putF, catF])]
  exact num_putN (F i) 2 _ (by omega) (by omega) h.1.1 (by rw [pw2]; exact h.1.2)
theorem sG_back {F G : Nat → Int} {i : Nat} (h : okS F G i) : sG (sB F G) i = G i := by
  unfold sG
  rw [numS_congrB (g := putF 0 (oneF 0) 4 (G i)) (fun j hj => by
    unfold sB
    rw [show (i * 6 + 2 + j) % 6 = 2 + j by omega, show (i * 6 + 2 + j) / 6 = i by omega, if_neg (by omega), show 2 + j - 2 = j by omega]
    simp [putF, catF])]
  exact num_putN (G i) 4 _ (by omega) (by omega) h.2.1 (by rw [pw4]; exact h.2.2)

end Go.Proofs.Ytpnjamomkpkkeaa
