/- Layer 9: whether a fault is among some, by the program and by the reference; layer 49: how an error is judged, a verdict's name. -/
import Derived.Test.YtelcpfjifhobjaaMA
import Derived.Test.YtelcpfjifhobjaaVal
namespace Go.Proofs.Ytelcpfjifhobjaa
set_option linter.unusedVariables false
set_option linter.unusedSimpArgs false
open Go.RowKit

def hasB (n : Nat) (f g : Nat → Int) (s d : Int) : Bool := decide (¬ ∀ i, i < n → ¬ (f i = s ∧ g i = d))
theorem hasB_yes {n i : Nat} {f g : Nat → Int} {s d : Int} (hi : i < n) (h1 : f i = s) (h2 : g i = d) : hasB n f g s d = true := decide_eq_true fun h => h i hi ⟨h1, h2⟩
theorem hasB_no {n : Nat} {f g : Nat → Int} {s d : Int} (h : ∀ i, i < n → ¬ (f i = s ∧ g i = d)) : hasB n f g s d = false := decide_eq_false fun k => k h
def judgeV (b h : Bool) : Int := if (b && h) = true then 1 else 2
def vdName (v : Int) : ByteArray := if v = 1 then ⟨#[112, 97, 115, 115, 101, 100]⟩ else if v = 2 then ⟨#[102, 97, 105, 108, 101, 100]⟩ else if v = 3 then ⟨#[118, 111, 105, 100]⟩ else if v = 4 then ⟨#[98, 114, 111, 107, 101, 110]⟩ else ⟨#[]⟩
theorem vdName_out {v : Int} (h : ¬ (1 ≤ v ∧ v ≤ 4)) : vdName v = ⟨#[]⟩ := by
  unfold vdName
  rw [if_neg (by omega), if_neg (by omega), if_neg (by omega), if_neg (by omega)]
theorem vname49 (v : Int) (w : World) : Calls Try.prog 64 #[.int .i64 v] w fun e w' => e = .returned (.string (vdName v)) ∧ w = w' := by
  by_cases h : 1 ≤ v ∧ v ≤ 4
  · have : v = 1 ∨ v = 2 ∨ v = 3 ∨ v = 4 := by omega
    clear h
    rcases this with rfl | rfl | rfl | rfl <;>
    · go_enter Try.func64, Try.ntmps64
      go_wp2
      go_ret
      exact ⟨rfl, rfl⟩
  · have H := hide (vdName_out h)
    have n1 : (v == 1) = false := by simp; omega
    have n2 : (v == 2) = false := by simp; omega
    have n3 : (v == 3) = false := by simp; omega
    have n4 : (v == 4) = false := by simp; omega
    clear h
    go_enter Try.func64, Try.ntmps64
    go_wp2
    go_ret
    exact ⟨by rw [H.out]; rfl, rfl⟩
end Go.Proofs.Ytelcpfjifhobjaa
