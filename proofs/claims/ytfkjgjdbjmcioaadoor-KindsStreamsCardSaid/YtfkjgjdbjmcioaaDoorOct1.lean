/- The contracts of the functions of layer 1 and of its reference: powers, numbers of bytes, the highest bit. -/
import Derived.Test.YtfkjgjdbjmcioaaDoorSame
import Derived.StillTailTactics
import Derived.Laws.BitsAllLaws
import Derived.Laws.BitsLemmas
import Derived.Laws.IdiomStrings
namespace Go.Proofs.YtfkjgjdbjmcioaaDoor
open Go.RowKit

/-! ### power -/
/-! ### numbers of the first bytes -/
/-- The number of the first bytes. -/
def num (f : Nat → Int) : Nat → Int
  | 0 => 0
  | k + 1 => num f k * 256 + f k
theorem num_bd {f : Nat → Int} {n : Nat} (hb : Byt n f) (k : Nat) (hk : k ≤ n) (h4 : k ≤ 4) : 0 ≤ num f k ∧ num f k < 256 ^ k := by
  rcases k with _ | _ | _ | _ | _ | k
  · simp [num]
  · have := hb 0 (by omega); simp [num]; omega
  · have := hb 0 (by omega); have := hb 1 (by omega); simp [num]; omega
  · have := hb 0 (by omega); have := hb 1 (by omega); have := hb 2 (by omega); simp [num]; omega
  · have := hb 0 (by omega); have := hb 1 (by omega); have := hb 2 (by omega); have := hb 3 (by omega); simp [num]; omega
  · omega
def getE (n : Nat) (size : Int) : Int := if size < 1 ∨ 4 < size then 1 else if (n : Int) < size then 3 else 0


/-! ### sizes -/
/-- 256 to the power of a size. -/
def pw (s : Int) : Int := if s = 1 then 256 else if s = 2 then 65536 else if s = 3 then 16777216 else 4294967296
theorem pw_cases {s : Int} (h1 : 1 ≤ s) (h2 : s ≤ 4) : (s = 1 ∧ pw s = 256) ∨ (s = 2 ∧ pw s = 65536) ∨ (s = 3 ∧ pw s = 16777216) ∨ (s = 4 ∧ pw s = 4294967296) := by
  unfold pw
  have : s = 1 ∨ s = 2 ∨ s = 3 ∨ s = 4 := by omega
  rcases this with rfl | rfl | rfl | rfl <;> simp
end Go.Proofs.YtfkjgjdbjmcioaaDoor
