/- Layer 3: the texts of many numbers, both sides. -/
import Derived.Test.YtminoofghdpomaaDoorDx1
import Derived.Test.YtminoofghdpomaaDoorMK
import Derived.Test.YtminoofghdpomaaDoorMJ
namespace Go.Proofs.YtminoofghdpomaaDoor
set_option linter.unusedVariables false
set_option linter.unusedSimpArgs false
open Go.RowKit Go.PlainAid

def upS (k : Nat) (f : Nat → Int) (i : Nat) : Value := .string (if i < k then intS (f i) else ⟨#[]⟩)
theorem madeS (n : Nat) (f : Nat → Int) : (madeCells (Value.string ⟨#[]⟩).cells (n * 1)).toList = rowV (n * 1) (upS 0 f) := by
  simp only [madeCells, rowV, Array.toList_map, Array.toList_range, Value.cells]
  refine List.map_congr_left fun i _ => ?_
  simp [upS, Nat.mod_one]
def I64F (n : Nat) (f : Nat → Int) : Prop := ∀ i, i < n → -9223372036854775808 ≤ f i ∧ f i ≤ 9223372036854775807
theorem catR {a b y : ByteArray} (hc : a ++ b = y) (hs : a.size + b.size ≤ 9223372036854775807) : ∀ W, (Op.stringOp .add a b).run Tryd.prog W = .ok (.string y) W := fun W => by
  rw [run_string_add_sum W a b hs, hc]
theorem jn_first (f : Nat → Int) : jnS ⟨#[44]⟩ (itL f 1) = intS (f 0) := by
  show jnS _ [intS (f 0)] = _
  rw [jnS_one]
theorem jn_next {f : Nat → Int} {k : Nat} (h : 0 < k) : jnS ⟨#[44]⟩ (itL f (k + 1)) = jnS ⟨#[44]⟩ (itL f k) ++ ⟨#[44]⟩ ++ intS (f k) := by
  rw [itL_succ, jnS_snoc _ (fun e => by have := congrArg List.length e; rw [itL_len] at this; simp at this; omega)]
end Go.Proofs.YtminoofghdpomaaDoor
