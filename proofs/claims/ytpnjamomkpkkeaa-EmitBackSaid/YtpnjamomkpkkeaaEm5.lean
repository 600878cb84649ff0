/- Layer 15: the body of a frame, as the program writes it. -/
import Derived.Test.YtpnjamomkpkkeaaEm4
import Derived.Test.YtpnjamomkpkkeaaMI
import Derived.Test.YtpnjamomkpkkeaaSetV
namespace Go.Proofs.Ytpnjamomkpkkeaa
set_option linter.unusedVariables false
set_option linter.unusedSimpArgs false
open Go.RowKit

theorem bne_u8 : 25 ≠ 5 := by decide
theorem WrB.flag {w : World} {p : Nat} {fl : Bool} {l : List Int} (h : WrB w p fl l) (b : Bool) : WrB (w.setCell ⟨p, 1, none⟩ (.bool b)) p b l ∧ Below p w (w.setCell ⟨p, 1, none⟩ (.bool b)) := by
  obtain ⟨A, c, hr, ho⟩ := h
  have hne : (Value.slice A l.length c).ownBlock ≠ some p := fun e => by have := (World.ownsRow.lt ho p e).1; omega
  have hr1 := setRow w p 1 (.bool b) hr
  simp only [List.setIfInBounds_toArray, List.set_cons_zero, List.set_cons_succ] at hr1
  exact ⟨⟨A, c, hr1, World.ownsRow.kept ho (grown_set w p 1 (.bool b)) (.inr hne)⟩, (Below.refl p w).setCell (p := ⟨p, 1, none⟩) (Nat.le_refl _) _⟩
theorem World.grownBy.heap_old5 {w w' : World} {p : Nat} (h : w.grownBy w' (some p)) (i : Nat) (hi : i ≠ p) (hl : i < w.heap.size) : w'.heap[i]? = w.heap[i]? := by
  obtain ⟨_, _, _, _, hk⟩ := h
  exact hk i hl (fun e => hi (Option.some.inj e))
theorem wrd_rng {n : Int} {b : Bool} (h : 0 ≤ n ∧ n ≤ 2147483647) : 0 ≤ wrd5 n b ∧ wrd5 n b < pw 4 := by
  have : pw 4 = 4294967296 := by decide
  rw [this]
  unfold wrd5
  split <;> omega
def prL5 (pa : Int) (al : Bool) (wt : Int) : List Int := numL (wrd5 pa al) 4 ++ numL wt 1
theorem prL5_len (pa : Int) (al : Bool) (wt : Int) : (prL5 pa al wt).length = 5 := by simp [prL5, numL_len]
end Go.Proofs.Ytpnjamomkpkkeaa
