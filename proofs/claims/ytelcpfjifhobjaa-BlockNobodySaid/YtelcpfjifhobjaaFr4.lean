/- Layer 14: thirteen cells stored one by one; memories behind one another. -/
import Derived.Test.YtelcpfjifhobjaaFr3
namespace Go.Proofs.Ytelcpfjifhobjaa
set_option linter.unusedVariables false
set_option linter.unusedSimpArgs false
open Go.RowKit

set_option maxRecDepth 20000 in
theorem store13w {w w1 w2 w3 w4 w5 w6 w7 w8 w9 w10 w11 w12 w13 : World} {p : Nat} {T : TypeId} {a0 a1 a2 a3 a4 a5 a6 a7 a8 a9 a10 a11 a12 b0 b1 b2 b3 b4 b5 b6 b7 b8 b9 b10 b11 b12 : Value} (e1 : w1 = w.setCell ⟨p, 0, none⟩ b0) (e2 : w2 = w1.setCell ⟨p, 1, none⟩ b1) (e3 : w3 = w2.setCell ⟨p, 2, none⟩ b2) (e4 : w4 = w3.setCell ⟨p, 3, none⟩ b3) (e5 : w5 = w4.setCell ⟨p, 4, none⟩ b4) (e6 : w6 = w5.setCell ⟨p, 5, none⟩ b5) (e7 : w7 = w6.setCell ⟨p, 6, none⟩ b6) (e8 : w8 = w7.setCell ⟨p, 7, none⟩ b7) (e9 : w9 = w8.setCell ⟨p, 8, none⟩ b8) (e10 : w10 = w9.setCell ⟨p, 9, none⟩ b9) (e11 : w11 = w10.setCell ⟨p, 10, none⟩ b10) (e12 : w12 = w11.setCell ⟨p, 11, none⟩ b11) (e13 : w13 = w12.setCell ⟨p, 12, none⟩ b12) (h : w.heap[p]? = some (.cells #[a0, a1, a2, a3, a4, a5, a6, a7, a8, a9, a10, a11, a12] T (0, 0))) :
    (w.cell? ⟨p, 0, none⟩ = some a0 ∧ w.frozen? ⟨p, 0, none⟩ = false) ∧
    (w1.cell? ⟨p, 1, none⟩ = some a1 ∧ w1.frozen? ⟨p, 1, none⟩ = false) ∧
    (w2.cell? ⟨p, 2, none⟩ = some a2 ∧ w2.frozen? ⟨p, 2, none⟩ = false) ∧
    (w3.cell? ⟨p, 3, none⟩ = some a3 ∧ w3.frozen? ⟨p, 3, none⟩ = false) ∧
    (w4.cell? ⟨p, 4, none⟩ = some a4 ∧ w4.frozen? ⟨p, 4, none⟩ = false) ∧
    (w5.cell? ⟨p, 5, none⟩ = some a5 ∧ w5.frozen? ⟨p, 5, none⟩ = false) ∧
    (w6.cell? ⟨p, 6, none⟩ = some a6 ∧ w6.frozen? ⟨p, 6, none⟩ = false) ∧
    (w7.cell? ⟨p, 7, none⟩ = some a7 ∧ w7.frozen? ⟨p, 7, none⟩ = false) ∧
    (w8.cell? ⟨p, 8, none⟩ = some a8 ∧ w8.frozen? ⟨p, 8, none⟩ = false) ∧
    (w9.cell? ⟨p, 9, none⟩ = some a9 ∧ w9.frozen? ⟨p, 9, none⟩ = false) ∧
    (w10.cell? ⟨p, 10, none⟩ = some a10 ∧ w10.frozen? ⟨p, 10, none⟩ = false) ∧
    (w11.cell? ⟨p, 11, none⟩ = some a11 ∧ w11.frozen? ⟨p, 11, none⟩ = false) ∧
    (w12.cell? ⟨p, 12, none⟩ = some a12 ∧ w12.frozen? ⟨p, 12, none⟩ = false) ∧
    w13.heap[p]? = some (.cells #[b0, b1, b2, b3, b4, b5, b6, b7, b8, b9, b10, b11, b12] T (0, 0)) := by
  have h1 := setRow w p 0 b0 h
  simp only [List.setIfInBounds_toArray, List.set_cons_zero, List.set_cons_succ] at h1
  rw [← e1] at h1
  have h2 := setRow w1 p 1 b1 h1
  simp only [List.setIfInBounds_toArray, List.set_cons_zero, List.set_cons_succ] at h2
  rw [← e2] at h2
  have h3 := setRow w2 p 2 b2 h2
  simp only [List.setIfInBounds_toArray, List.set_cons_zero, List.set_cons_succ] at h3
  rw [← e3] at h3
  have h4 := setRow w3 p 3 b3 h3
  simp only [List.setIfInBounds_toArray, List.set_cons_zero, List.set_cons_succ] at h4
  rw [← e4] at h4
  have h5 := setRow w4 p 4 b4 h4
  simp only [List.setIfInBounds_toArray, List.set_cons_zero, List.set_cons_succ] at h5
  rw [← e5] at h5
  have h6 := setRow w5 p 5 b5 h5
  simp only [List.setIfInBounds_toArray, List.set_cons_zero, List.set_cons_succ] at h6
  rw [← e6] at h6
  have h7 := setRow w6 p 6 b6 h6
  simp only [List.setIfInBounds_toArray, List.set_cons_zero, List.set_cons_succ] at h7
  rw [← e7] at h7
  have h8 := setRow w7 p 7 b7 h7
  simp only [List.setIfInBounds_toArray, List.set_cons_zero, List.set_cons_succ] at h8
  rw [← e8] at h8
  have h9 := setRow w8 p 8 b8 h8
  simp only [List.setIfInBounds_toArray, List.set_cons_zero, List.set_cons_succ] at h9
  rw [← e9] at h9
  have h10 := setRow w9 p 9 b9 h9
  simp only [List.setIfInBounds_toArray, List.set_cons_zero, List.set_cons_succ] at h10
  rw [← e10] at h10
  have h11 := setRow w10 p 10 b10 h10
  simp only [List.setIfInBounds_toArray, List.set_cons_zero, List.set_cons_succ] at h11
  rw [← e11] at h11
  have h12 := setRow w11 p 11 b11 h11
  simp only [List.setIfInBounds_toArray, List.set_cons_zero, List.set_cons_succ] at h12
  rw [← e12] at h12
  have h13 := setRow w12 p 12 b12 h12
  simp only [List.setIfInBounds_toArray, List.set_cons_zero, List.set_cons_succ] at h13
  rw [← e13] at h13
  exact ⟨⟨(row13 h).1, frozenRow h 0⟩, ⟨(row13 h1).2.1, frozenRow h1 1⟩, ⟨(row13 h2).2.2.1, frozenRow h2 2⟩, ⟨(row13 h3).2.2.2.1, frozenRow h3 3⟩, ⟨(row13 h4).2.2.2.2.1, frozenRow h4 4⟩, ⟨(row13 h5).2.2.2.2.2.1, frozenRow h5 5⟩, ⟨(row13 h6).2.2.2.2.2.2.1, frozenRow h6 6⟩, ⟨(row13 h7).2.2.2.2.2.2.2.1, frozenRow h7 7⟩, ⟨(row13 h8).2.2.2.2.2.2.2.2.1, frozenRow h8 8⟩, ⟨(row13 h9).2.2.2.2.2.2.2.2.2.1, frozenRow h9 9⟩, ⟨(row13 h10).2.2.2.2.2.2.2.2.2.2.1, frozenRow h10 10⟩, ⟨(row13 h11).2.2.2.2.2.2.2.2.2.2.2.1, frozenRow h11 11⟩, ⟨(row13 h12).2.2.2.2.2.2.2.2.2.2.2.2, frozenRow h12 12⟩, h13⟩
theorem store13 {w : World} {p : Nat} {T : TypeId} {a0 a1 a2 a3 a4 a5 a6 a7 a8 a9 a10 a11 a12 : Value} (h : w.heap[p]? = some (.cells #[a0, a1, a2, a3, a4, a5, a6, a7, a8, a9, a10, a11, a12] T (0, 0))) (b0 b1 b2 b3 b4 b5 b6 b7 b8 b9 b10 b11 b12 : Value) :
    (w.cell? ⟨p, 0, none⟩ = some a0 ∧ w.frozen? ⟨p, 0, none⟩ = false) ∧
    ((w.setCell ⟨p, 0, none⟩ b0).cell? ⟨p, 1, none⟩ = some a1 ∧ (w.setCell ⟨p, 0, none⟩ b0).frozen? ⟨p, 1, none⟩ = false) ∧
    (((w.setCell ⟨p, 0, none⟩ b0).setCell ⟨p, 1, none⟩ b1).cell? ⟨p, 2, none⟩ = some a2 ∧ ((w.setCell ⟨p, 0, none⟩ b0).setCell ⟨p, 1, none⟩ b1).frozen? ⟨p, 2, none⟩ = false) ∧
    ((((w.setCell ⟨p, 0, none⟩ b0).setCell ⟨p, 1, none⟩ b1).setCell ⟨p, 2, none⟩ b2).cell? ⟨p, 3, none⟩ = some a3 ∧ (((w.setCell ⟨p, 0, none⟩ b0).setCell ⟨p, 1, none⟩ b1).setCell ⟨p, 2, none⟩ b2).frozen? ⟨p, 3, none⟩ = false) ∧
    (((((w.setCell ⟨p, 0, none⟩ b0).setCell ⟨p, 1, none⟩ b1).setCell ⟨p, 2, none⟩ b2).setCell ⟨p, 3, none⟩ b3).cell? ⟨p, 4, none⟩ = some a4 ∧ ((((w.setCell ⟨p, 0, none⟩ b0).setCell ⟨p, 1, none⟩ b1).setCell ⟨p, 2, none⟩ b2).setCell ⟨p, 3, none⟩ b3).frozen? ⟨p, 4, none⟩ = false) ∧
    ((((((w.setCell ⟨p, 0, none⟩ b0).setCell ⟨p, 1, none⟩ b1).setCell ⟨p, 2, none⟩ b2).setCell ⟨p, 3, none⟩ b3).setCell ⟨p, 4, none⟩ b4).cell? ⟨p, 5, none⟩ = some a5 ∧ (((((w.setCell ⟨p, 0, none⟩ b0).setCell ⟨p, 1, none⟩ b1).setCell ⟨p, 2, none⟩ b2).setCell ⟨p, 3, none⟩ b3).setCell ⟨p, 4, none⟩ b4).frozen? ⟨p, 5, none⟩ = false) ∧
    (((((((w.setCell ⟨p, 0, none⟩ b0).setCell ⟨p, 1, none⟩ b1).setCell ⟨p, 2, none⟩ b2).setCell ⟨p, 3, none⟩ b3).setCell ⟨p, 4, none⟩ b4).setCell ⟨p, 5, none⟩ b5).cell? ⟨p, 6, none⟩ = some a6 ∧ ((((((w.setCell ⟨p, 0, none⟩ b0).setCell ⟨p, 1, none⟩ b1).setCell ⟨p, 2, none⟩ b2).setCell ⟨p, 3, none⟩ b3).setCell ⟨p, 4, none⟩ b4).setCell ⟨p, 5, none⟩ b5).frozen? ⟨p, 6, none⟩ = false) ∧
    ((((((((w.setCell ⟨p, 0, none⟩ b0).setCell ⟨p, 1, none⟩ b1).setCell ⟨p, 2, none⟩ b2).setCell ⟨p, 3, none⟩ b3).setCell ⟨p, 4, none⟩ b4).setCell ⟨p, 5, none⟩ b5).setCell ⟨p, 6, none⟩ b6).cell? ⟨p, 7, none⟩ = some a7 ∧ (((((((w.setCell ⟨p, 0, none⟩ b0).setCell ⟨p, 1, none⟩ b1).setCell ⟨p, 2, none⟩ b2).setCell ⟨p, 3, none⟩ b3).setCell ⟨p, 4, none⟩ b4).setCell ⟨p, 5, none⟩ b5).setCell ⟨p, 6, none⟩ b6).frozen? ⟨p, 7, none⟩ = false) ∧
    (((((((((w.setCell ⟨p, 0, none⟩ b0).setCell ⟨p, 1, none⟩ b1).setCell ⟨p, 2, none⟩ b2).setCell ⟨p, 3, none⟩ b3).setCell ⟨p, 4, none⟩ b4).setCell ⟨p, 5, none⟩ b5).setCell ⟨p, 6, none⟩ b6).setCell ⟨p, 7, none⟩ b7).cell? ⟨p, 8, none⟩ = some a8 ∧ ((((((((w.setCell ⟨p, 0, none⟩ b0).setCell ⟨p, 1, none⟩ b1).setCell ⟨p, 2, none⟩ b2).setCell ⟨p, 3, none⟩ b3).setCell ⟨p, 4, none⟩ b4).setCell ⟨p, 5, none⟩ b5).setCell ⟨p, 6, none⟩ b6).setCell ⟨p, 7, none⟩ b7).frozen? ⟨p, 8, none⟩ = false) ∧
    ((((((((((w.setCell ⟨p, 0, none⟩ b0).setCell ⟨p, 1, none⟩ b1).setCell ⟨p, 2, none⟩ b2).setCell ⟨p, 3, none⟩ b3).setCell ⟨p, 4, none⟩ b4).setCell ⟨p, 5, none⟩ b5).setCell ⟨p, 6, none⟩ b6).setCell ⟨p, 7, none⟩ b7).setCell ⟨p, 8, none⟩ b8).cell? ⟨p, 9, none⟩ = some a9 ∧ (((((((((w.setCell ⟨p, 0, none⟩ b0).setCell ⟨p, 1, none⟩ b1).setCell ⟨p, 2, none⟩ b2).setCell ⟨p, 3, none⟩ b3).setCell ⟨p, 4, none⟩ b4).setCell ⟨p, 5, none⟩ b5).setCell ⟨p, 6, none⟩ b6).setCell ⟨p, 7, none⟩ b7).setCell ⟨p, 8, none⟩ b8).frozen? ⟨p, 9, none⟩ = false) ∧
    (((((((((((w.setCell ⟨p, 0, none⟩ b0).setCell ⟨p, 1, none⟩ b1).setCell ⟨p, 2, none⟩ b2).setCell ⟨p, 3, none⟩ b3).setCell ⟨p, 4, none⟩ b4).setCell ⟨p, 5, none⟩ b5).setCell ⟨p, 6, none⟩ b6).setCell ⟨p, 7, none⟩ b7).setCell ⟨p, 8, none⟩ b8).setCell ⟨p, 9, none⟩ b9).cell? ⟨p, 10, none⟩ = some a10 ∧ ((((((((((w.setCell ⟨p, 0, none⟩ b0).setCell ⟨p, 1, none⟩ b1).setCell ⟨p, 2, none⟩ b2).setCell ⟨p, 3, none⟩ b3).setCell ⟨p, 4, none⟩ b4).setCell ⟨p, 5, none⟩ b5).setCell ⟨p, 6, none⟩ b6).setCell ⟨p, 7, none⟩ b7).setCell ⟨p, 8, none⟩ b8).setCell ⟨p, 9, none⟩ b9).frozen? ⟨p, 10, none⟩ = false) ∧
    ((((((((((((w.setCell ⟨p, 0, none⟩ b0).setCell ⟨p, 1, none⟩ b1).setCell ⟨p, 2, none⟩ b2).setCell ⟨p, 3, none⟩ b3).setCell ⟨p, 4, none⟩ b4).setCell ⟨p, 5, none⟩ b5).setCell ⟨p, 6, none⟩ b6).setCell ⟨p, 7, none⟩ b7).setCell ⟨p, 8, none⟩ b8).setCell ⟨p, 9, none⟩ b9).setCell ⟨p, 10, none⟩ b10).cell? ⟨p, 11, none⟩ = some a11 ∧ (((((((((((w.setCell ⟨p, 0, none⟩ b0).setCell ⟨p, 1, none⟩ b1).setCell ⟨p, 2, none⟩ b2).setCell ⟨p, 3, none⟩ b3).setCell ⟨p, 4, none⟩ b4).setCell ⟨p, 5, none⟩ b5).setCell ⟨p, 6, none⟩ b6).setCell ⟨p, 7, none⟩ b7).setCell ⟨p, 8, none⟩ b8).setCell ⟨p, 9, none⟩ b9).setCell ⟨p, 10, none⟩ b10).frozen? ⟨p, 11, none⟩ = false) ∧
    (((((((((((((w.setCell ⟨p, 0, none⟩ b0).setCell ⟨p, 1, none⟩ b1).setCell ⟨p, 2, none⟩ b2).setCell ⟨p, 3, none⟩ b3).setCell ⟨p, 4, none⟩ b4).setCell ⟨p, 5, none⟩ b5).setCell ⟨p, 6, none⟩ b6).setCell ⟨p, 7, none⟩ b7).setCell ⟨p, 8, none⟩ b8).setCell ⟨p, 9, none⟩ b9).setCell ⟨p, 10, none⟩ b10).setCell ⟨p, 11, none⟩ b11).cell? ⟨p, 12, none⟩ = some a12 ∧ ((((((((((((w.setCell ⟨p, 0, none⟩ b0).setCell ⟨p, 1, none⟩ b1).setCell ⟨p, 2, none⟩ b2).setCell ⟨p, 3, none⟩ b3).setCell ⟨p, 4, none⟩ b4).setCell ⟨p, 5, none⟩ b5).setCell ⟨p, 6, none⟩ b6).setCell ⟨p, 7, none⟩ b7).setCell ⟨p, 8, none⟩ b8).setCell ⟨p, 9, none⟩ b9).setCell ⟨p, 10, none⟩ b10).setCell ⟨p, 11, none⟩ b11).frozen? ⟨p, 12, none⟩ = false) ∧
    (((((((((((((w.setCell ⟨p, 0, none⟩ b0).setCell ⟨p, 1, none⟩ b1).setCell ⟨p, 2, none⟩ b2).setCell ⟨p, 3, none⟩ b3).setCell ⟨p, 4, none⟩ b4).setCell ⟨p, 5, none⟩ b5).setCell ⟨p, 6, none⟩ b6).setCell ⟨p, 7, none⟩ b7).setCell ⟨p, 8, none⟩ b8).setCell ⟨p, 9, none⟩ b9).setCell ⟨p, 10, none⟩ b10).setCell ⟨p, 11, none⟩ b11).setCell ⟨p, 12, none⟩ b12).heap[p]? = some (.cells #[b0, b1, b2, b3, b4, b5, b6, b7, b8, b9, b10, b11, b12] T (0, 0)) := store13w rfl rfl rfl rfl rfl rfl rfl rfl rfl rfl rfl rfl rfl h
theorem FrS.set13w {B p : Nat} {S : Nat → Prop} {w w1 w2 w3 w4 w5 w6 w7 w8 w9 w10 w11 w12 w13 : World} {b0 b1 b2 b3 b4 b5 b6 b7 b8 b9 b10 b11 b12 : Value} (e1 : w1 = w.setCell ⟨p, 0, none⟩ b0) (e2 : w2 = w1.setCell ⟨p, 1, none⟩ b1) (e3 : w3 = w2.setCell ⟨p, 2, none⟩ b2) (e4 : w4 = w3.setCell ⟨p, 3, none⟩ b3) (e5 : w5 = w4.setCell ⟨p, 4, none⟩ b4) (e6 : w6 = w5.setCell ⟨p, 5, none⟩ b5) (e7 : w7 = w6.setCell ⟨p, 6, none⟩ b6) (e8 : w8 = w7.setCell ⟨p, 7, none⟩ b7) (e9 : w9 = w8.setCell ⟨p, 8, none⟩ b8) (e10 : w10 = w9.setCell ⟨p, 9, none⟩ b9) (e11 : w11 = w10.setCell ⟨p, 10, none⟩ b10) (e12 : w12 = w11.setCell ⟨p, 11, none⟩ b11) (e13 : w13 = w12.setCell ⟨p, 12, none⟩ b12) (hB : B ≤ p) (hg : p < w.heap.size) (hS : S p) : FrS B S w w13 := by
  have g0 : p < w.heap.size := by exact hg
  have k0 : FrS B S w w1 := by rw [e1]; exact FrS.set hB g0 hS
  have g1 : p < w1.heap.size := by rw [e1]; simpa using g0
  have k1 : FrS B S w1 w2 := by rw [e2]; exact FrS.set hB g1 hS
  have g2 : p < w2.heap.size := by rw [e2]; simpa using g1
  have k2 : FrS B S w2 w3 := by rw [e3]; exact FrS.set hB g2 hS
  have g3 : p < w3.heap.size := by rw [e3]; simpa using g2
  have k3 : FrS B S w3 w4 := by rw [e4]; exact FrS.set hB g3 hS
  have g4 : p < w4.heap.size := by rw [e4]; simpa using g3
  have k4 : FrS B S w4 w5 := by rw [e5]; exact FrS.set hB g4 hS
  have g5 : p < w5.heap.size := by rw [e5]; simpa using g4
  have k5 : FrS B S w5 w6 := by rw [e6]; exact FrS.set hB g5 hS
  have g6 : p < w6.heap.size := by rw [e6]; simpa using g5
  have k6 : FrS B S w6 w7 := by rw [e7]; exact FrS.set hB g6 hS
  have g7 : p < w7.heap.size := by rw [e7]; simpa using g6
  have k7 : FrS B S w7 w8 := by rw [e8]; exact FrS.set hB g7 hS
  have g8 : p < w8.heap.size := by rw [e8]; simpa using g7
  have k8 : FrS B S w8 w9 := by rw [e9]; exact FrS.set hB g8 hS
  have g9 : p < w9.heap.size := by rw [e9]; simpa using g8
  have k9 : FrS B S w9 w10 := by rw [e10]; exact FrS.set hB g9 hS
  have g10 : p < w10.heap.size := by rw [e10]; simpa using g9
  have k10 : FrS B S w10 w11 := by rw [e11]; exact FrS.set hB g10 hS
  have g11 : p < w11.heap.size := by rw [e11]; simpa using g10
  have k11 : FrS B S w11 w12 := by rw [e12]; exact FrS.set hB g11 hS
  have g12 : p < w12.heap.size := by rw [e12]; simpa using g11
  have k12 : FrS B S w12 w13 := by rw [e13]; exact FrS.set hB g12 hS
  exact ((((((((((((k0.trans k1).trans k2).trans k3).trans k4).trans k5).trans k6).trans k7).trans k8).trans k9).trans k10).trans k11).trans k12)
theorem FrS.set13 {B p : Nat} {S : Nat → Prop} {w : World} (hB : B ≤ p) (hg : p < w.heap.size) (hS : S p) (b0 b1 b2 b3 b4 b5 b6 b7 b8 b9 b10 b11 b12 : Value) : FrS B S w (((((((((((((w.setCell ⟨p, 0, none⟩ b0).setCell ⟨p, 1, none⟩ b1).setCell ⟨p, 2, none⟩ b2).setCell ⟨p, 3, none⟩ b3).setCell ⟨p, 4, none⟩ b4).setCell ⟨p, 5, none⟩ b5).setCell ⟨p, 6, none⟩ b6).setCell ⟨p, 7, none⟩ b7).setCell ⟨p, 8, none⟩ b8).setCell ⟨p, 9, none⟩ b9).setCell ⟨p, 10, none⟩ b10).setCell ⟨p, 11, none⟩ b11).setCell ⟨p, 12, none⟩ b12) := FrS.set13w rfl rfl rfl rfl rfl rfl rfl rfl rfl rfl rfl rfl rfl hB hg hS
theorem FrS.rows {B p q r : Nat} {w W W' : World} (h : FrS B (PQ p q) w W) (k : FrS B (PQR p q r) W W') (hr : w.heap.size ≤ r) : FrS B (PQ p q) w W' :=
  ⟨h.bel.trans k.bel, fun i hi a => (k.keep i (Nat.lt_of_lt_of_le hi h.bel.size) (fun s => s.elim (fun e => a (.inl e)) (fun s => s.elim (fun e => a (.inr e)) (fun e => by omega)))).trans (h.keep i hi a)⟩
end Go.Proofs.Ytelcpfjifhobjaa
