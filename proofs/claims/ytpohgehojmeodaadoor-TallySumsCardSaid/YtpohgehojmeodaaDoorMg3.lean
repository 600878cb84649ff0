/- Layer 28: what the document says of fields. -/
import Derived.Test.YtpohgehojmeodaaDoorMg2
import Derived.Deep.Cut
namespace Go.Proofs.YtpohgehojmeodaaDoor
set_option linter.unusedVariables false
set_option linter.unusedSimpArgs false
open Go.RowKit Go.PlainAid

theorem absM {p : World → Prop} (W0 : World) (R : World → Prop) (h0 : R W0) (h : ∀ W, R W → p W) : p W0 := h W0 h0
theorem heap5o {w : World} {p q : Nat} (hne : q ≠ p) (b0 b1 b2 b3 b4 : Value) : (((((w.setCell ⟨p, 0, none⟩ b0).setCell ⟨p, 1, none⟩ b1).setCell ⟨p, 2, none⟩ b2).setCell ⟨p, 3, none⟩ b3).setCell ⟨p, 4, none⟩ b4).heap[q]? = w.heap[q]? := by
  rw [Below.heap_setCell _ ⟨p, 4, none⟩ _ _ hne, Below.heap_setCell _ ⟨p, 3, none⟩ _ _ hne, Below.heap_setCell _ ⟨p, 2, none⟩ _ _ hne, Below.heap_setCell _ ⟨p, 1, none⟩ _ _ hne, Below.heap_setCell _ ⟨p, 0, none⟩ _ _ hne]
/-- Fields that lie below a block are not touched by stores to it. -/
theorem rdfd5o {w : World} {A : Option Addr} {n c p : Nat} {F : Nat → Fd} (h : RdFd w A n c F) (hp : 0 < n → ∀ a, A = some a → a.block ≠ p) (b0 b1 b2 b3 b4 : Value) : RdFd (((((w.setCell ⟨p, 0, none⟩ b0).setCell ⟨p, 1, none⟩ b1).setCell ⟨p, 2, none⟩ b2).setCell ⟨p, 3, none⟩ b3).setCell ⟨p, 4, none⟩ b4) A n c F :=
  ⟨h.1, h.2.1, h.2.2.1, fun hn => by
    obtain ⟨b, off, hA, hc⟩ := h.2.2.2.1 hn
    have hb := hp hn _ hA
    have hh := heap5o (w := w) (p := p) hb b0 b1 b2 b3 b4
    have e : ∀ j, (((((w.setCell ⟨p, 0, none⟩ b0).setCell ⟨p, 1, none⟩ b1).setCell ⟨p, 2, none⟩ b2).setCell ⟨p, 3, none⟩ b3).setCell ⟨p, 4, none⟩ b4).cell? ⟨b, j, none⟩ = w.cell? ⟨b, j, none⟩ := fun j => by
      unfold World.cell?
      simp only at hh ⊢
      rw [hh]
    exact ⟨b, off, hA, fun i hi => by rw [e, e, e]; exact hc i hi⟩, h.2.2.2.2⟩
end Go.Proofs.YtpohgehojmeodaaDoor
