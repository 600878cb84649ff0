/- Layer 29: two blocks of four cells that are stored to. -/
import Derived.Test.YtpohgehojmeodaaDoorTa1
namespace Go.Proofs.YtpohgehojmeodaaDoor
set_option linter.unusedVariables false
set_option linter.unusedSimpArgs false
open Go.RowKit Go.PlainAid

theorem results_cct {fn : Func} {p q u : Tmp} {t1 t2 : TypeId} (h : fn.results = #[.cell p t1, .cell q t2, .tmp u]) (tmps : Array Value) (P : Program) (w : World) :
    (results fn tmps).run P w = ((asAddr (tmps.getD p undef)).run P w).andThen fun a w₁ => ((loadVar t1 a).run P w₁).andThen fun x w₂ => ((asAddr (tmps.getD q undef)).run P w₂).andThen fun b w₃ => ((loadVar t2 b).run P w₃).andThen fun y w₄ => .ok (.tuple #[x, y, tmps.getD u undef]) w₄ := by
  simp only [results, h]
  simp [Sem.run_bind, Result.andThen]
abbrev set4 (w : World) (p : Nat) (x0 x1 x2 x3 : Value) : World := (((w.setCell ⟨p, 0, none⟩ x0).setCell ⟨p, 1, none⟩ x1).setCell ⟨p, 2, none⟩ x2).setCell ⟨p, 3, none⟩ x3
theorem heap4o {w : World} {p q : Nat} (hne : q ≠ p) (b0 b1 b2 b3 : Value) : ((((w.setCell ⟨p, 0, none⟩ b0).setCell ⟨p, 1, none⟩ b1).setCell ⟨p, 2, none⟩ b2).setCell ⟨p, 3, none⟩ b3).heap[q]? = w.heap[q]? := by
  rw [Below.heap_setCell _ ⟨p, 3, none⟩ _ _ hne, Below.heap_setCell _ ⟨p, 2, none⟩ _ _ hne, Below.heap_setCell _ ⟨p, 1, none⟩ _ _ hne, Below.heap_setCell _ ⟨p, 0, none⟩ _ _ hne]
theorem cell4 {w : World} {p b j : Nat} (hne : b ≠ p) (b0 b1 b2 b3 : Value) : ((((w.setCell ⟨p, 0, none⟩ b0).setCell ⟨p, 1, none⟩ b1).setCell ⟨p, 2, none⟩ b2).setCell ⟨p, 3, none⟩ b3).cell? ⟨b, j, none⟩ = w.cell? ⟨b, j, none⟩ := by
  have hh := heap4o (w := w) hne b0 b1 b2 b3
  unfold World.cell?
  simp only at hh ⊢
  rw [hh]
theorem cs4 {w : World} {p b j : Nat} {u : Value} (h : w.cell? ⟨b, j, none⟩ = some u) (hne : b ≠ p) (b0 b1 b2 b3 : Value) : ((((w.setCell ⟨p, 0, none⟩ b0).setCell ⟨p, 1, none⟩ b1).setCell ⟨p, 2, none⟩ b2).setCell ⟨p, 3, none⟩ b3).cell? ⟨b, j, none⟩ = some u := by
  have hh := heap4o (w := w) hne b0 b1 b2 b3
  rw [← h]
  unfold World.cell?
  simp only at hh ⊢
  rw [hh]
end Go.Proofs.YtpohgehojmeodaaDoor
