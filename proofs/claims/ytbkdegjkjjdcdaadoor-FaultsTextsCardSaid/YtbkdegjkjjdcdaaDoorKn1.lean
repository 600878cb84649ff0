/- Layer 8: the names of types; the document's Name. -/
import Derived.Test.YtbkdegjkjjdcdaaDoorTx3
namespace Go.Proofs.YtbkdegjkjjdcdaaDoor
set_option linter.unusedVariables false
set_option linter.unusedSimpArgs false
open Go.RowKit Go.PlainAid

def nmL : List ByteArray := [⟨#[68, 65, 84, 65]⟩, ⟨#[72, 69, 65, 68, 69, 82, 83]⟩, ⟨#[80, 82, 73, 79, 82, 73, 84, 89]⟩, ⟨#[82, 83, 84, 95, 83, 84, 82, 69, 65, 77]⟩, ⟨#[83, 69, 84, 84, 73, 78, 71, 83]⟩, ⟨#[80, 85, 83, 72, 95, 80, 82, 79, 77, 73, 83, 69]⟩, ⟨#[80, 73, 78, 71]⟩, ⟨#[71, 79, 65, 87, 65, 89]⟩, ⟨#[87, 73, 78, 68, 79, 87, 95, 85, 80, 68, 65, 84, 69]⟩, ⟨#[67, 79, 78, 84, 73, 78, 85, 65, 84, 73, 79, 78]⟩]
def nmP : ByteArray := ⟨#[80, 82, 69, 70, 65, 67, 69]⟩
/-- A type's name. -/
def nameT (t : Int) : ByteArray := if t = -1 then nmP else if t < 0 ∨ 255 < t then ⟨#[]⟩ else if t < 10 then nmL.getD t.toNat ⟨#[]⟩ else ⟨#[84, 89, 80, 69, 95]⟩ ++ decS t.toNat
theorem nameT_other {t : Int} (h : t ≠ -1) (h2 : t < 0 ∨ 255 < t) : nameT t = ⟨#[]⟩ := by unfold nameT; rw [if_neg h, if_pos h2]
theorem nameT_known {t : Int} (h : 0 ≤ t) (h2 : t < 10) : nameT t = nmL.getD t.toNat ⟨#[]⟩ := by unfold nameT; rw [if_neg (by omega), if_neg (by omega), if_pos h2]
theorem nameT_more {t : Int} (h : 10 ≤ t) (h2 : t ≤ 255) : nameT t = ⟨#[84, 89, 80, 69, 95]⟩ ++ decS t.toNat := by unfold nameT; rw [if_neg (by omega), if_neg (by omega), if_neg (by omega)]
theorem at10 {t : Int} (h : 0 ≤ t) (h2 : t < 10) : t = 0 ∨ t = 1 ∨ t = 2 ∨ t = 3 ∨ t = 4 ∨ t = 5 ∨ t = 6 ∨ t = 7 ∨ t = 8 ∨ t = 9 := by omega
end Go.Proofs.YtbkdegjkjjdcdaaDoor
