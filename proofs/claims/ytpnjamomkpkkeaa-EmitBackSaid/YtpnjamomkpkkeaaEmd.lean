/- Layer 15: EmitRaws. -/
import Derived.Test.YtpnjamomkpkkeaaEmc
namespace Go.Proofs.Ytpnjamomkpkkeaa
set_option linter.unusedVariables false
set_option linter.unusedSimpArgs false
open Go.RowKit

theorem Rw5.yes {X : Fm5} {fr : Int} {yes no : Value} {w w' : World} {e : Ending} (h : Rw5 X fr yes no w e w') (hk : (fr = 0 ∨ fr = 1) ∧ X.Ok) : Below w.heap.size w w' ∧ ∃ A c, e = .returned (.tuple #[.agg #[.int .i64 fr, .int .i64 X.T, .int .i64 X.fl, .int .i64 X.st, .bool false, .slice A X.emL.length c], yes]) ∧ Rd .u8 w' A X.emL.length c (lF X.emL) := by
  obtain ⟨h1, ⟨_, h2⟩ | ⟨h2, _⟩⟩ := h
  · exact ⟨h1, h2⟩
  · exact absurd hk h2
theorem Rw5.no {X : Fm5} {fr : Int} {yes no : Value} {w w' : World} {e : Ending} (h : Rw5 X fr yes no w e w') (hk : ¬ ((fr = 0 ∨ fr = 1) ∧ X.Ok)) : Below w.heap.size w w' ∧ e = .returned (.tuple #[.agg #[.int .i64 0, .int .i64 0, .int .i64 0, .int .i64 0, .bool false, .slice none 0 0], no]) := by
  obtain ⟨h1, ⟨h2, _⟩ | ⟨_, h2⟩⟩ := h
  · exact absurd h2 hk
  · exact ⟨h1, h2⟩
end Go.Proofs.Ytpnjamomkpkkeaa
