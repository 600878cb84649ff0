/- Layer 22: seven cells stored one by one. -/
import Derived.Test.YtdnfhddahpmnmabDoorRp7
namespace Go.Proofs.YtdnfhddahpmnmabDoor
open Go.RowKit Go.PlainAid

set_option maxRecDepth 20000 in
theorem store7w {w w1 w2 w3 w4 w5 w6 w7 : World} {p : Nat} {T : TypeId} {a0 a1 a2 a3 a4 a5 a6 b0 b1 b2 b3 b4 b5 b6 : Value} (e1 : w1 = w.setCell ⟨p, 0, none⟩ b0) (e2 : w2 = w1.setCell ⟨p, 1, none⟩ b1) (e3 : w3 = w2.setCell ⟨p, 2, none⟩ b2) (e4 : w4 = w3.setCell ⟨p, 3, none⟩ b3) (e5 : w5 = w4.setCell ⟨p, 4, none⟩ b4) (e6 : w6 = w5.setCell ⟨p, 5, none⟩ b5) (e7 : w7 = w6.setCell ⟨p, 6, none⟩ b6) (h : w.heap[p]? = some (.cells #[a0, a1, a2, a3, a4, a5, a6] T (0, 0))) :
    (w.cell? ⟨p, 0, none⟩ = some a0 ∧ w.frozen? ⟨p, 0, none⟩ = false) ∧ (w1.cell? ⟨p, 1, none⟩ = some a1 ∧ w1.frozen? ⟨p, 1, none⟩ = false) ∧ (w2.cell? ⟨p, 2, none⟩ = some a2 ∧ w2.frozen? ⟨p, 2, none⟩ = false) ∧ (w3.cell? ⟨p, 3, none⟩ = some a3 ∧ w3.frozen? ⟨p, 3, none⟩ = false) ∧ (w4.cell? ⟨p, 4, none⟩ = some a4 ∧ w4.frozen? ⟨p, 4, none⟩ = false) ∧ (w5.cell? ⟨p, 5, none⟩ = some a5 ∧ w5.frozen? ⟨p, 5, none⟩ = false) ∧ (w6.cell? ⟨p, 6, none⟩ = some a6 ∧ w6.frozen? ⟨p, 6, none⟩ = false) ∧ w7.heap[p]? = some (.cells #[b0, b1, b2, b3, b4, b5, b6] T (0, 0)) := by
  have h1 := setRow w p 0 b0 h
  simp only [List.setIfInBounds_toArray, List.set_cons_zero, List.set_cons_succ] at h1
  rw [← e1] at h1
  have h2 := setRow w1 p 1 b1 h1
  simp only [List.setIfInBounds_toArray, List.set_cons_zero, List.set_cons_succ] at h2
  rw [← e2] at h2
  have h3 := setRow w2 p 2 b2 h2
  simp only [List.setIfInBounds_toArray, List.set_cons_zero, List.set_cons_succ] at h3
  rw [← e3] at h3
  have h4 := setRow w3 p 3 b3 h3
  simp only [List.setIfInBounds_toArray, List.set_cons_zero, List.set_cons_succ] at h4
  rw [← e4] at h4
  have h5 := setRow w4 p 4 b4 h4
  simp only [List.setIfInBounds_toArray, List.set_cons_zero, List.set_cons_succ] at h5
  rw [← e5] at h5
  have h6 := setRow w5 p 5 b5 h5
  simp only [List.setIfInBounds_toArray, List.set_cons_zero, List.set_cons_succ] at h6
  rw [← e6] at h6
  have h7 := setRow w6 p 6 b6 h6
  simp only [List.setIfInBounds_toArray, List.set_cons_zero, List.set_cons_succ] at h7
  rw [← e7] at h7
  exact ⟨⟨(row7 h).1, frozenRow h 0⟩, ⟨(row7 h1).2.1, frozenRow h1 1⟩, ⟨(row7 h2).2.2.1, frozenRow h2 2⟩, ⟨(row7 h3).2.2.2.1, frozenRow h3 3⟩, ⟨(row7 h4).2.2.2.2.1, frozenRow h4 4⟩, ⟨(row7 h5).2.2.2.2.2.1, frozenRow h5 5⟩, ⟨(row7 h6).2.2.2.2.2.2, frozenRow h6 6⟩, h7⟩
theorem store7 {w : World} {p : Nat} {T : TypeId} {a0 a1 a2 a3 a4 a5 a6 : Value} (h : w.heap[p]? = some (.cells #[a0, a1, a2, a3, a4, a5, a6] T (0, 0))) (b0 b1 b2 b3 b4 b5 b6 : Value) :
    (w.cell? ⟨p, 0, none⟩ = some a0 ∧ w.frozen? ⟨p, 0, none⟩ = false) ∧ ((w.setCell ⟨p, 0, none⟩ b0).cell? ⟨p, 1, none⟩ = some a1 ∧ (w.setCell ⟨p, 0, none⟩ b0).frozen? ⟨p, 1, none⟩ = false) ∧ (((w.setCell ⟨p, 0, none⟩ b0).setCell ⟨p, 1, none⟩ b1).cell? ⟨p, 2, none⟩ = some a2 ∧ ((w.setCell ⟨p, 0, none⟩ b0).setCell ⟨p, 1, none⟩ b1).frozen? ⟨p, 2, none⟩ = false) ∧ ((((w.setCell ⟨p, 0, none⟩ b0).setCell ⟨p, 1, none⟩ b1).setCell ⟨p, 2, none⟩ b2).cell? ⟨p, 3, none⟩ = some a3 ∧ (((w.setCell ⟨p, 0, none⟩ b0).setCell ⟨p, 1, none⟩ b1).setCell ⟨p, 2, none⟩ b2).frozen? ⟨p, 3, none⟩ = false) ∧ (((((w.setCell ⟨p, 0, none⟩ b0).setCell ⟨p, 1, none⟩ b1).setCell ⟨p, 2, none⟩ b2).setCell ⟨p, 3, none⟩ b3).cell? ⟨p, 4, none⟩ = some a4 ∧ ((((w.setCell ⟨p, 0, none⟩ b0).setCell ⟨p, 1, none⟩ b1).setCell ⟨p, 2, none⟩ b2).setCell ⟨p, 3, none⟩ b3).frozen? ⟨p, 4, none⟩ = false) ∧ ((((((w.setCell ⟨p, 0, none⟩ b0).setCell ⟨p, 1, none⟩ b1).setCell ⟨p, 2, none⟩ b2).setCell ⟨p, 3, none⟩ b3).setCell ⟨p, 4, none⟩ b4).cell? ⟨p, 5, none⟩ = some a5 ∧ (((((w.setCell ⟨p, 0, none⟩ b0).setCell ⟨p, 1, none⟩ b1).setCell ⟨p, 2, none⟩ b2).setCell ⟨p, 3, none⟩ b3).setCell ⟨p, 4, none⟩ b4).frozen? ⟨p, 5, none⟩ = false) ∧ (((((((w.setCell ⟨p, 0, none⟩ b0).setCell ⟨p, 1, none⟩ b1).setCell ⟨p, 2, none⟩ b2).setCell ⟨p, 3, none⟩ b3).setCell ⟨p, 4, none⟩ b4).setCell ⟨p, 5, none⟩ b5).cell? ⟨p, 6, none⟩ = some a6 ∧ ((((((w.setCell ⟨p, 0, none⟩ b0).setCell ⟨p, 1, none⟩ b1).setCell ⟨p, 2, none⟩ b2).setCell ⟨p, 3, none⟩ b3).setCell ⟨p, 4, none⟩ b4).setCell ⟨p, 5, none⟩ b5).frozen? ⟨p, 6, none⟩ = false) ∧ (((((((w.setCell ⟨p, 0, none⟩ b0).setCell ⟨p, 1, none⟩ b1).setCell ⟨p, 2, none⟩ b2).setCell ⟨p, 3, none⟩ b3).setCell ⟨p, 4, none⟩ b4).setCell ⟨p, 5, none⟩ b5).setCell ⟨p, 6, none⟩ b6).heap[p]? = some (.cells #[b0, b1, b2, b3, b4, b5, b6] T (0, 0)) := store7w rfl rfl rfl rfl rfl rfl rfl h
theorem below7w {B p : Nat} {w0 w w1 w2 w3 w4 w5 w6 w7 : World} {b0 b1 b2 b3 b4 b5 b6 : Value} (e1 : w1 = w.setCell ⟨p, 0, none⟩ b0) (e2 : w2 = w1.setCell ⟨p, 1, none⟩ b1) (e3 : w3 = w2.setCell ⟨p, 2, none⟩ b2) (e4 : w4 = w3.setCell ⟨p, 3, none⟩ b3) (e5 : w5 = w4.setCell ⟨p, 4, none⟩ b4) (e6 : w6 = w5.setCell ⟨p, 5, none⟩ b5) (e7 : w7 = w6.setCell ⟨p, 6, none⟩ b6) (E : Below B w0 w) (hB : B ≤ p) : Below B w0 w7 := by
  subst e1 e2 e3 e4 e5 e6 e7
  exact (((((((E.setCell (p := ⟨p, 0, none⟩) hB _).setCell (p := ⟨p, 1, none⟩) hB _).setCell (p := ⟨p, 2, none⟩) hB _).setCell (p := ⟨p, 3, none⟩) hB _).setCell (p := ⟨p, 4, none⟩) hB _).setCell (p := ⟨p, 5, none⟩) hB _).setCell (p := ⟨p, 6, none⟩) hB _)
theorem below7 {B p : Nat} {w0 w : World} (E : Below B w0 w) (hB : B ≤ p) (b0 b1 b2 b3 b4 b5 b6 : Value) : Below B w0 (((((((w.setCell ⟨p, 0, none⟩ b0).setCell ⟨p, 1, none⟩ b1).setCell ⟨p, 2, none⟩ b2).setCell ⟨p, 3, none⟩ b3).setCell ⟨p, 4, none⟩ b4).setCell ⟨p, 5, none⟩ b5).setCell ⟨p, 6, none⟩ b6) := below7w rfl rfl rfl rfl rfl rfl rfl E hB
end Go.Proofs.YtdnfhddahpmnmabDoor
