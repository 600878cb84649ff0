/- Layer 16: the contracts of 'Find' and of its reference; the walk of the law on finding. -/
import Derived.Test.YteijpklepgenbaaCb8
import Derived.Test.YteijpklepgenbaaCb5
namespace Go.Proofs.Yteijpklepgenbaa
open Go.RowKit

/-- What a search hands back. -/
def Found (c n : Int) (s : Int) (b : Bool) : Prop :=
  (b = true ∧ ∃ S : Nat, S < 257 ∧ s = S ∧ (cd (rnk S) : Int) = c ∧ (len S : Int) = n) ∨ (b = false ∧ s = 0 ∧ ∀ S : Nat, S < 257 → ¬ ((cd (rnk S) : Int) = c ∧ (len S : Int) = n))
theorem st_inj {i j : Nat} (hi : i < 257) (hj : j < 257) (h : st i = st j) : i = j := by
  rcases Nat.lt_trichotomy i j with h1 | h1 | h1
  · have := st_lt h1 hj
    have := wd_pos i
    omega
  · exact h1
  · have := st_lt h1 hi
    have := wd_pos j
    omega
theorem code_inj {S T : Nat} (hS : S < 257) (hT : T < 257) (h1 : cd (rnk S) = cd (rnk T)) (h2 : len S = len T) : S = T := by
  have a := rnk_bd S hS
  have b := rnk_bd T hT
  have h : st (rnk S) = st (rnk T) := by
    unfold st
    rw [a.2, b.2, h1, h2]
  have := st_inj a.1 b.1 h
  rw [← a.2, this, b.2]
theorem Found.same {c n s t : Int} {b d : Bool} (h : Found c n s b) (k : Found c n t d) : s = t ∧ b = d := by
  rcases h with ⟨rfl, S, hS, rfl, h1, h2⟩ | ⟨rfl, rfl, h1⟩
  · rcases k with ⟨rfl, T, hT, rfl, k1, k2⟩ | ⟨rfl, rfl, k1⟩
    · have := code_inj hS hT (by omega) (by omega)
      subst this
      exact ⟨rfl, rfl⟩
    · exact absurd ⟨h1, h2⟩ (k1 S hS)
  · rcases k with ⟨rfl, T, hT, rfl, k1, k2⟩ | ⟨rfl, rfl, k1⟩
    · exact absurd ⟨k1, k2⟩ (h1 T hT)
    · exact ⟨rfl, rfl⟩
def FoundE (c n : Int) (w : World) (e : Ending) (w' : World) : Prop := ∃ s b, e = .returned (.tuple #[.int .i64 s, .bool b]) ∧ Found c n s b ∧ Below w.heap.size w w'

/-! ### the reference's -/
end Go.Proofs.Yteijpklepgenbaa
