/- Layer 13: the reference's Put; the walks of SettingParses and SettingPuts. -/
import Derived.Test.YtpnjamomkpkkeaaMJ
namespace Go.Proofs.Ytpnjamomkpkkeaa
set_option linter.unusedVariables false
set_option linter.unusedSimpArgs false
open Go.RowKit

theorem Own.apart {k k' : IntKind} {e e' : TypeId} {B B' : Nat} {w w0 : World} {v v' : Value} {n n' : Nat} {f f' : Nat → Int} (h : Own k e B w v n f) (h' : Own k' e' B' w0 v' n' f') (hB : w0.heap.size ≤ B) : v.ownBlock = none ∨ v.ownBlock ≠ v'.ownBlock := by
  cases hv : v.ownBlock with
  | none => exact .inl rfl
  | some j =>
    refine .inr fun he => ?_
    have l1 := (World.ownsRow.lt h j hv).1
    have l2 := (World.ownsRow.lt h' j he.symm).2
    omega
theorem Own.keptG {k : IntKind} {e : TypeId} {B : Nat} {w w' : World} {v : Value} {n : Nat} {f : Nat → Int} {row : Option Nat} (h : Own k e B w v n f) (hg : w.grownBy w' row) (hne : v.ownBlock = none ∨ v.ownBlock ≠ row) : Own k e B w' v n f := World.ownsRow.kept h hg hne
end Go.Proofs.Ytpnjamomkpkkeaa
