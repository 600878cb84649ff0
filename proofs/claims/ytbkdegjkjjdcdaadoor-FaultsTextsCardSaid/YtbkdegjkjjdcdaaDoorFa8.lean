/- Layer 9: the law of codes. -/
import Derived.Test.YtbkdegjkjjdcdaaDoorFa7
namespace Go.Proofs.YtbkdegjkjjdcdaaDoor
set_option linter.unusedVariables false
set_option linter.unusedSimpArgs false
open Go.RowKit Go.PlainAid

theorem bt_name (j : Nat) (hj : j < 14) : 65 ≤ bt (cdL.getD j ⟨#[]⟩) 0 := by
  have h : j = 0 ∨ j = 1 ∨ j = 2 ∨ j = 3 ∨ j = 4 ∨ j = 5 ∨ j = 6 ∨ j = 7 ∨ j = 8 ∨ j = 9 ∨ j = 10 ∨ j = 11 ∨ j = 12 ∨ j = 13 := by omega
  rcases h with rfl | rfl | rfl | rfl | rfl | rfl | rfl | rfl | rfl | rfl | rfl | rfl | rfl | rfl <;> decide
theorem name_no_int {t : Int} (h : 14 ≤ t) (h2 : t ≤ 4294967295) (j : Nat) (hj : j < 14) : cdL.getD j ⟨#[]⟩ ≠ codeT t := fun e => by
  have h3 := bt_name j hj
  rw [e, codeT_more h h2] at h3
  have h4 := (decL_len 10 t.toNat (by omega) (by omega)).2
  have := (dec_bt t.toNat 0 (by rw [decS_size]; exact h4)).2
  omega
theorem names_two (d j : Nat) (hd : d < 14) (hj : j < d) : cdL.getD j ⟨#[]⟩ ≠ cdL.getD d ⟨#[]⟩ := by
  have h : ∀ d, d < 14 → ∀ j, j < d → cdL.getD j ⟨#[]⟩ ≠ cdL.getD d ⟨#[]⟩ := by decide
  exact h d hd j hj
theorem cd_own {t : Int} (h : 0 ≤ t) (h2 : t ≤ 4294967295) : CdR (codeT t) t true := by
  by_cases h3 : t < 14
  · obtain ⟨d, rfl⟩ : ∃ d : Nat, t = (d : Int) := ⟨t.toNat, by omega⟩
    refine cd_name (by omega) (cdL_at d (by omega)) (fun j hj => ?_)
    rw [cdL_at d (by omega)]
    exact names_two d j (by omega) hj
  · refine cd_num (fun j hj => name_no_int (by omega) h2 j hj) (by omega) h2 ?_
    exact .inl ⟨rfl, by omega, by omega, codeT_int (by omega) h2⟩
theorem codeT_pos {t : Int} (h : 0 ≤ t) (h2 : t ≤ 4294967295) : codeT t ≠ ⟨#[]⟩ := fun e => by
  by_cases h3 : t < 14
  · rw [codeT_known h h3] at e
    have : ∀ d, d < 14 → cdL.getD d ⟨#[]⟩ ≠ ⟨#[]⟩ := by decide
    exact this _ (by omega) e
  · rw [codeT_int (by omega) h2] at e
    have h4 := (intS_size (u := t) (by omega) (by omega)).1
    rw [e] at h4
    exact absurd h4 (by decide)
def Yes9 (w : World) (e : Ending) (w' : World) : Prop := e = .returned (.bool true) ∧ Below w.heap.size w w'
end Go.Proofs.YtbkdegjkjjdcdaaDoor
