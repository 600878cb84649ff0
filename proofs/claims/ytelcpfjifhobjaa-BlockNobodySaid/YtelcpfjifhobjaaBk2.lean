/- Layer 30: what may come now; taking a frame. -/
import Derived.Test.YtelcpfjifhobjaaBk1
import Derived.Deep.RegionLaw
namespace Go.Proofs.Ytelcpfjifhobjaa
set_option linter.unusedVariables false
set_option linter.unusedSimpArgs false
open Go.RowKit


theorem Below.drewZ {B : Nat} {w w' : World} (h : Below B w w') (n : Nat) : Below B w (w'.drewN n) := h.trans (drawn_below (Drawn.of _ _) _)
set_option maxHeartbeats 1600000 in
theorem takes30 (T fl st pd : Int) (A : Option Addr) (n c : Nat) (A2 : Option Addr) (n2 c2 : Nat) (wt pa : Int) (al : Bool) (pm la co sp : Int) (B : Nat) (p : Nat) (fp : Nat → Prop) (most : Int) (X : BS) (w : World) (h : AsOk B w p fp most X) : Calls Try.prog 23 #[.pointer (some ⟨p, 0, none⟩), .agg #[.int .i64 T, .int .i64 fl, .int .i64 st, .int .i64 pd, .slice A n c, .slice A2 n2 c2, .int .i64 wt, .int .i64 pa, .bool al, .int .i64 pm, .int .i64 la, .int .i64 co, .int .i64 sp]] w fun e w' => e = .returned (.bool (takesB X T st)) ∧ Below w.heap.size w w' := by
  have R0 := hide (heap_alloc_new w (.cells #[.int .i64 T, .int .i64 fl, .int .i64 st, .int .i64 pd, .slice A n c, .slice A2 n2 c2, .int .i64 wt, .int .i64 pa, .bool al, .int .i64 pm, .int .i64 la, .int .i64 co, .int .i64 sp] 28))
  have e0 := (Below.refl w.heap.size w).alloc (Nat.le_refl _) (.cells #[.int .i64 T, .int .i64 fl, .int .i64 st, .int .i64 pd, .slice A n c, .slice A2 n2 c2, .int .i64 wt, .int .i64 pa, .bool al, .int .i64 pm, .int .i64 la, .int .i64 co, .int .i64 sp] 28)
  obtain ⟨v, B2, d2, h1, _⟩ := (h.below e0).ex
  have P0 := hide h1
  have E0 := hide e0
  clear h1 e0 h
  obtain ⟨f0_, f1_, f2_, f3_, f4_, f5_, f6_, f7_, f8_, f9_, f10_, f11_, f12_⟩ := row13 R0.out
  obtain ⟨c0_, c1_, c2_, c3_, c4_, c5_, c6_, c7_, c8_, c9_, c10_, c11_, c12_, c13_, c14_⟩ := row15 P0.out
  obtain ⟨b9, h9⟩ : ∃ b, (T == 9) = b := ⟨_, rfl⟩
  obtain ⟨bs, hs⟩ : ∃ b, (st == X.st) = b := ⟨_, rfl⟩
  have h9n : (T != 9) = !b9 := by rw [← h9]; rfl
  have HW : Hid (takesB X T st = if X.begun = true then b9 && bs else !b9) := by show _ = _; unfold takesB; rw [h9, hs, h9n]
  cases hb : X.begun with
  | false =>
    rw [hb] at c1_ HW
    go_enter Try.func23, Try.ntmps23
    go_wp2_with fail
    go_ret
    exact ⟨by rw [HW.out]; rfl, E0.out⟩
  | true =>
    rw [hb] at c1_ HW
    cases b9 with
    | false =>
      go_enter Try.func23, Try.ntmps23
      go_wp2_with fail
      go_quiet (fail)
      go_wp2_with fail
      go_ret
      exact ⟨by rw [HW.out]; rfl, Below.drewZ E0.out _⟩
    | true =>
      go_enter Try.func23, Try.ntmps23
      go_wp2_with fail
      go_quiet (fail)
      go_wp2_with fail
      go_ret
      exact ⟨by rw [HW.out]; rfl, Below.drewZ E0.out _⟩
set_option maxHeartbeats 1600000 in
theorem open30 (B : Nat) (p : Nat) (fp : Nat → Prop) (most : Int) (X : BS) (w : World) (h : AsOk B w p fp most X) : Calls Try.prog 27 #[.pointer (some ⟨p, 0, none⟩)] w fun e w' => e = .returned (.tuple #[.int .i64 (if X.begun = true then X.st else 0), .bool X.begun]) ∧ w = w' := by
  obtain ⟨v, B2, d2, h1, _⟩ := h.ex
  have P0 := hide h1
  clear h1 h
  obtain ⟨c0_, c1_, c2_, c3_, c4_, c5_, c6_, c7_, c8_, c9_, c10_, c11_, c12_, c13_, c14_⟩ := row15 P0.out
  cases hb : X.begun with
  | false =>
    rw [hb] at c1_
    go_enter Try.func27, Try.ntmps27
    go_wp2_with fail
    go_ret2
    exact ⟨rfl, rfl⟩
  | true =>
    rw [hb] at c1_
    go_enter Try.func27, Try.ntmps27
    go_wp2_with fail
    go_ret2
    exact ⟨rfl, rfl⟩

abbrev set14z (w : World) (p : Nat) (b0 b1 b2 b3 b4 b5 b6 b7 b8 b9 b10 b11 b12 : Value) : World := ((((((((((((((w.setCell ⟨p, 1, none⟩ (.bool true)).setCell ⟨p, 2, none⟩ b0).setCell ⟨p, 3, none⟩ b1).setCell ⟨p, 4, none⟩ b2).setCell ⟨p, 5, none⟩ b3).setCell ⟨p, 6, none⟩ b4).setCell ⟨p, 7, none⟩ b5).setCell ⟨p, 8, none⟩ b6).setCell ⟨p, 9, none⟩ b7).setCell ⟨p, 10, none⟩ b8).setCell ⟨p, 11, none⟩ b9).setCell ⟨p, 12, none⟩ b10).setCell ⟨p, 13, none⟩ b11).setCell ⟨p, 14, none⟩ b12)
theorem heap14z {w : World} {p q : Nat} (hne : q ≠ p) (b0 b1 b2 b3 b4 b5 b6 b7 b8 b9 b10 b11 b12 : Value) : ((((((((((((((w.setCell ⟨p, 1, none⟩ (.bool true)).setCell ⟨p, 2, none⟩ b0).setCell ⟨p, 3, none⟩ b1).setCell ⟨p, 4, none⟩ b2).setCell ⟨p, 5, none⟩ b3).setCell ⟨p, 6, none⟩ b4).setCell ⟨p, 7, none⟩ b5).setCell ⟨p, 8, none⟩ b6).setCell ⟨p, 9, none⟩ b7).setCell ⟨p, 10, none⟩ b8).setCell ⟨p, 11, none⟩ b9).setCell ⟨p, 12, none⟩ b10).setCell ⟨p, 13, none⟩ b11).setCell ⟨p, 14, none⟩ b12).heap[q]? = w.heap[q]? := by
  rw [Below.heap_setCell _ ⟨p, 14, none⟩ _ _ hne, Below.heap_setCell _ ⟨p, 13, none⟩ _ _ hne, Below.heap_setCell _ ⟨p, 12, none⟩ _ _ hne, Below.heap_setCell _ ⟨p, 11, none⟩ _ _ hne, Below.heap_setCell _ ⟨p, 10, none⟩ _ _ hne, Below.heap_setCell _ ⟨p, 9, none⟩ _ _ hne, Below.heap_setCell _ ⟨p, 8, none⟩ _ _ hne, Below.heap_setCell _ ⟨p, 7, none⟩ _ _ hne, Below.heap_setCell _ ⟨p, 6, none⟩ _ _ hne, Below.heap_setCell _ ⟨p, 5, none⟩ _ _ hne, Below.heap_setCell _ ⟨p, 4, none⟩ _ _ hne, Below.heap_setCell _ ⟨p, 3, none⟩ _ _ hne, Below.heap_setCell _ ⟨p, 2, none⟩ _ _ hne, Below.heap_setCell _ ⟨p, 1, none⟩ _ _ hne]
theorem cell14z {w : World} {p b j : Nat} (hne : b ≠ p) (b0 b1 b2 b3 b4 b5 b6 b7 b8 b9 b10 b11 b12 : Value) : ((((((((((((((w.setCell ⟨p, 1, none⟩ (.bool true)).setCell ⟨p, 2, none⟩ b0).setCell ⟨p, 3, none⟩ b1).setCell ⟨p, 4, none⟩ b2).setCell ⟨p, 5, none⟩ b3).setCell ⟨p, 6, none⟩ b4).setCell ⟨p, 7, none⟩ b5).setCell ⟨p, 8, none⟩ b6).setCell ⟨p, 9, none⟩ b7).setCell ⟨p, 10, none⟩ b8).setCell ⟨p, 11, none⟩ b9).setCell ⟨p, 12, none⟩ b10).setCell ⟨p, 13, none⟩ b11).setCell ⟨p, 14, none⟩ b12).cell? ⟨b, j, none⟩ = w.cell? ⟨b, j, none⟩ := by
  have hh := heap14z (w := w) hne b0 b1 b2 b3 b4 b5 b6 b7 b8 b9 b10 b11 b12
  unfold World.cell?
  simp only at hh ⊢
  rw [hh]

set_option maxRecDepth 20000 in
theorem store14w {w w1 w2 w3 w4 w5 w6 w7 w8 w9 w10 w11 w12 w13 w14 : World} {p : Nat} {T : TypeId} {a0 a1 a2 a3 a4 a5 a6 a7 a8 a9 a10 a11 a12 a13 a14 b0 b1 b2 b3 b4 b5 b6 b7 b8 b9 b10 b11 b12 : Value} (e1 : w1 = w.setCell ⟨p, 1, none⟩ (.bool true)) (e2 : w2 = w1.setCell ⟨p, 2, none⟩ b0) (e3 : w3 = w2.setCell ⟨p, 3, none⟩ b1) (e4 : w4 = w3.setCell ⟨p, 4, none⟩ b2) (e5 : w5 = w4.setCell ⟨p, 5, none⟩ b3) (e6 : w6 = w5.setCell ⟨p, 6, none⟩ b4) (e7 : w7 = w6.setCell ⟨p, 7, none⟩ b5) (e8 : w8 = w7.setCell ⟨p, 8, none⟩ b6) (e9 : w9 = w8.setCell ⟨p, 9, none⟩ b7) (e10 : w10 = w9.setCell ⟨p, 10, none⟩ b8) (e11 : w11 = w10.setCell ⟨p, 11, none⟩ b9) (e12 : w12 = w11.setCell ⟨p, 12, none⟩ b10) (e13 : w13 = w12.setCell ⟨p, 13, none⟩ b11) (e14 : w14 = w13.setCell ⟨p, 14, none⟩ b12) (h : w.heap[p]? = some (.cells #[a0, a1, a2, a3, a4, a5, a6, a7, a8, a9, a10, a11, a12, a13, a14] T (0, 0))) :
    (w.cell? ⟨p, 1, none⟩ = some a1 ∧ w.frozen? ⟨p, 1, none⟩ = false) ∧ (w1.cell? ⟨p, 2, none⟩ = some a2 ∧ w1.frozen? ⟨p, 2, none⟩ = false) ∧ (w2.cell? ⟨p, 3, none⟩ = some a3 ∧ w2.frozen? ⟨p, 3, none⟩ = false) ∧ (w3.cell? ⟨p, 4, none⟩ = some a4 ∧ w3.frozen? ⟨p, 4, none⟩ = false) ∧ (w4.cell? ⟨p, 5, none⟩ = some a5 ∧ w4.frozen? ⟨p, 5, none⟩ = false) ∧ (w5.cell? ⟨p, 6, none⟩ = some a6 ∧ w5.frozen? ⟨p, 6, none⟩ = false) ∧ (w6.cell? ⟨p, 7, none⟩ = some a7 ∧ w6.frozen? ⟨p, 7, none⟩ = false) ∧ (w7.cell? ⟨p, 8, none⟩ = some a8 ∧ w7.frozen? ⟨p, 8, none⟩ = false) ∧ (w8.cell? ⟨p, 9, none⟩ = some a9 ∧ w8.frozen? ⟨p, 9, none⟩ = false) ∧ (w9.cell? ⟨p, 10, none⟩ = some a10 ∧ w9.frozen? ⟨p, 10, none⟩ = false) ∧ (w10.cell? ⟨p, 11, none⟩ = some a11 ∧ w10.frozen? ⟨p, 11, none⟩ = false) ∧ (w11.cell? ⟨p, 12, none⟩ = some a12 ∧ w11.frozen? ⟨p, 12, none⟩ = false) ∧ (w12.cell? ⟨p, 13, none⟩ = some a13 ∧ w12.frozen? ⟨p, 13, none⟩ = false) ∧ (w13.cell? ⟨p, 14, none⟩ = some a14 ∧ w13.frozen? ⟨p, 14, none⟩ = false) ∧ w14.heap[p]? = some (.cells #[a0, .bool true, b0, b1, b2, b3, b4, b5, b6, b7, b8, b9, b10, b11, b12] T (0, 0)) := by
  have h1 := setRow w p 1 (.bool true) h
  simp only [List.setIfInBounds_toArray, List.set_cons_zero, List.set_cons_succ] at h1
  rw [← e1] at h1
  have h2 := setRow w1 p 2 b0 h1
  simp only [List.setIfInBounds_toArray, List.set_cons_zero, List.set_cons_succ] at h2
  rw [← e2] at h2
  have h3 := setRow w2 p 3 b1 h2
  simp only [List.setIfInBounds_toArray, List.set_cons_zero, List.set_cons_succ] at h3
  rw [← e3] at h3
  have h4 := setRow w3 p 4 b2 h3
  simp only [List.setIfInBounds_toArray, List.set_cons_zero, List.set_cons_succ] at h4
  rw [← e4] at h4
  have h5 := setRow w4 p 5 b3 h4
  simp only [List.setIfInBounds_toArray, List.set_cons_zero, List.set_cons_succ] at h5
  rw [← e5] at h5
  have h6 := setRow w5 p 6 b4 h5
  simp only [List.setIfInBounds_toArray, List.set_cons_zero, List.set_cons_succ] at h6
  rw [← e6] at h6
  have h7 := setRow w6 p 7 b5 h6
  simp only [List.setIfInBounds_toArray, List.set_cons_zero, List.set_cons_succ] at h7
  rw [← e7] at h7
  have h8 := setRow w7 p 8 b6 h7
  simp only [List.setIfInBounds_toArray, List.set_cons_zero, List.set_cons_succ] at h8
  rw [← e8] at h8
  have h9 := setRow w8 p 9 b7 h8
  simp only [List.setIfInBounds_toArray, List.set_cons_zero, List.set_cons_succ] at h9
  rw [← e9] at h9
  have h10 := setRow w9 p 10 b8 h9
  simp only [List.setIfInBounds_toArray, List.set_cons_zero, List.set_cons_succ] at h10
  rw [← e10] at h10
  have h11 := setRow w10 p 11 b9 h10
  simp only [List.setIfInBounds_toArray, List.set_cons_zero, List.set_cons_succ] at h11
  rw [← e11] at h11
  have h12 := setRow w11 p 12 b10 h11
  simp only [List.setIfInBounds_toArray, List.set_cons_zero, List.set_cons_succ] at h12
  rw [← e12] at h12
  have h13 := setRow w12 p 13 b11 h12
  simp only [List.setIfInBounds_toArray, List.set_cons_zero, List.set_cons_succ] at h13
  rw [← e13] at h13
  have h14 := setRow w13 p 14 b12 h13
  simp only [List.setIfInBounds_toArray, List.set_cons_zero, List.set_cons_succ] at h14
  rw [← e14] at h14
  exact ⟨⟨by rw [cell_of_row _ p _ _ _ _ h]; rfl, frozenRow h 1⟩, ⟨by rw [cell_of_row _ p _ _ _ _ h1]; rfl, frozenRow h1 2⟩, ⟨by rw [cell_of_row _ p _ _ _ _ h2]; rfl, frozenRow h2 3⟩, ⟨by rw [cell_of_row _ p _ _ _ _ h3]; rfl, frozenRow h3 4⟩, ⟨by rw [cell_of_row _ p _ _ _ _ h4]; rfl, frozenRow h4 5⟩, ⟨by rw [cell_of_row _ p _ _ _ _ h5]; rfl, frozenRow h5 6⟩, ⟨by rw [cell_of_row _ p _ _ _ _ h6]; rfl, frozenRow h6 7⟩, ⟨by rw [cell_of_row _ p _ _ _ _ h7]; rfl, frozenRow h7 8⟩, ⟨by rw [cell_of_row _ p _ _ _ _ h8]; rfl, frozenRow h8 9⟩, ⟨by rw [cell_of_row _ p _ _ _ _ h9]; rfl, frozenRow h9 10⟩, ⟨by rw [cell_of_row _ p _ _ _ _ h10]; rfl, frozenRow h10 11⟩, ⟨by rw [cell_of_row _ p _ _ _ _ h11]; rfl, frozenRow h11 12⟩, ⟨by rw [cell_of_row _ p _ _ _ _ h12]; rfl, frozenRow h12 13⟩, ⟨by rw [cell_of_row _ p _ _ _ _ h13]; rfl, frozenRow h13 14⟩, h14⟩
theorem store14 {w : World} {p : Nat} {T : TypeId} {a0 a1 a2 a3 a4 a5 a6 a7 a8 a9 a10 a11 a12 a13 a14 : Value} (h : w.heap[p]? = some (.cells #[a0, a1, a2, a3, a4, a5, a6, a7, a8, a9, a10, a11, a12, a13, a14] T (0, 0))) (b0 b1 b2 b3 b4 b5 b6 b7 b8 b9 b10 b11 b12 : Value) :
    (w.cell? ⟨p, 1, none⟩ = some a1 ∧ w.frozen? ⟨p, 1, none⟩ = false) ∧ ((w.setCell ⟨p, 1, none⟩ (.bool true)).cell? ⟨p, 2, none⟩ = some a2 ∧ (w.setCell ⟨p, 1, none⟩ (.bool true)).frozen? ⟨p, 2, none⟩ = false) ∧ (((w.setCell ⟨p, 1, none⟩ (.bool true)).setCell ⟨p, 2, none⟩ b0).cell? ⟨p, 3, none⟩ = some a3 ∧ ((w.setCell ⟨p, 1, none⟩ (.bool true)).setCell ⟨p, 2, none⟩ b0).frozen? ⟨p, 3, none⟩ = false) ∧ ((((w.setCell ⟨p, 1, none⟩ (.bool true)).setCell ⟨p, 2, none⟩ b0).setCell ⟨p, 3, none⟩ b1).cell? ⟨p, 4, none⟩ = some a4 ∧ (((w.setCell ⟨p, 1, none⟩ (.bool true)).setCell ⟨p, 2, none⟩ b0).setCell ⟨p, 3, none⟩ b1).frozen? ⟨p, 4, none⟩ = false) ∧ (((((w.setCell ⟨p, 1, none⟩ (.bool true)).setCell ⟨p, 2, none⟩ b0).setCell ⟨p, 3, none⟩ b1).setCell ⟨p, 4, none⟩ b2).cell? ⟨p, 5, none⟩ = some a5 ∧ ((((w.setCell ⟨p, 1, none⟩ (.bool true)).setCell ⟨p, 2, none⟩ b0).setCell ⟨p, 3, none⟩ b1).setCell ⟨p, 4, none⟩ b2).frozen? ⟨p, 5, none⟩ = false) ∧ ((((((w.setCell ⟨p, 1, none⟩ (.bool true)).setCell ⟨p, 2, none⟩ b0).setCell ⟨p, 3, none⟩ b1).setCell ⟨p, 4, none⟩ b2).setCell ⟨p, 5, none⟩ b3).cell? ⟨p, 6, none⟩ = some a6 ∧ (((((w.setCell ⟨p, 1, none⟩ (.bool true)).setCell ⟨p, 2, none⟩ b0).setCell ⟨p, 3, none⟩ b1).setCell ⟨p, 4, none⟩ b2).setCell ⟨p, 5, none⟩ b3).frozen? ⟨p, 6, none⟩ = false) ∧ (((((((w.setCell ⟨p, 1, none⟩ (.bool true)).setCell ⟨p, 2, none⟩ b0).setCell ⟨p, 3, none⟩ b1).setCell ⟨p, 4, none⟩ b2).setCell ⟨p, 5, none⟩ b3).setCell ⟨p, 6, none⟩ b4).cell? ⟨p, 7, none⟩ = some a7 ∧ ((((((w.setCell ⟨p, 1, none⟩ (.bool true)).setCell ⟨p, 2, none⟩ b0).setCell ⟨p, 3, none⟩ b1).setCell ⟨p, 4, none⟩ b2).setCell ⟨p, 5, none⟩ b3).setCell ⟨p, 6, none⟩ b4).frozen? ⟨p, 7, none⟩ = false) ∧ ((((((((w.setCell ⟨p, 1, none⟩ (.bool true)).setCell ⟨p, 2, none⟩ b0).setCell ⟨p, 3, none⟩ b1).setCell ⟨p, 4, none⟩ b2).setCell ⟨p, 5, none⟩ b3).setCell ⟨p, 6, none⟩ b4).setCell ⟨p, 7, none⟩ b5).cell? ⟨p, 8, none⟩ = some a8 ∧ (((((((w.setCell ⟨p, 1, none⟩ (.bool true)).setCell ⟨p, 2, none⟩ b0).setCell ⟨p, 3, none⟩ b1).setCell ⟨p, 4, none⟩ b2).setCell ⟨p, 5, none⟩ b3).setCell ⟨p, 6, none⟩ b4).setCell ⟨p, 7, none⟩ b5).frozen? ⟨p, 8, none⟩ = false) ∧ (((((((((w.setCell ⟨p, 1, none⟩ (.bool true)).setCell ⟨p, 2, none⟩ b0).setCell ⟨p, 3, none⟩ b1).setCell ⟨p, 4, none⟩ b2).setCell ⟨p, 5, none⟩ b3).setCell ⟨p, 6, none⟩ b4).setCell ⟨p, 7, none⟩ b5).setCell ⟨p, 8, none⟩ b6).cell? ⟨p, 9, none⟩ = some a9 ∧ ((((((((w.setCell ⟨p, 1, none⟩ (.bool true)).setCell ⟨p, 2, none⟩ b0).setCell ⟨p, 3, none⟩ b1).setCell ⟨p, 4, none⟩ b2).setCell ⟨p, 5, none⟩ b3).setCell ⟨p, 6, none⟩ b4).setCell ⟨p, 7, none⟩ b5).setCell ⟨p, 8, none⟩ b6).frozen? ⟨p, 9, none⟩ = false) ∧ ((((((((((w.setCell ⟨p, 1, none⟩ (.bool true)).setCell ⟨p, 2, none⟩ b0).setCell ⟨p, 3, none⟩ b1).setCell ⟨p, 4, none⟩ b2).setCell ⟨p, 5, none⟩ b3).setCell ⟨p, 6, none⟩ b4).setCell ⟨p, 7, none⟩ b5).setCell ⟨p, 8, none⟩ b6).setCell ⟨p, 9, none⟩ b7).cell? ⟨p, 10, none⟩ = some a10 ∧ (((((((((w.setCell ⟨p, 1, none⟩ (.bool true)).setCell ⟨p, 2, none⟩ b0).setCell ⟨p, 3, none⟩ b1).setCell ⟨p, 4, none⟩ b2).setCell ⟨p, 5, none⟩ b3).setCell ⟨p, 6, none⟩ b4).setCell ⟨p, 7, none⟩ b5).setCell ⟨p, 8, none⟩ b6).setCell ⟨p, 9, none⟩ b7).frozen? ⟨p, 10, none⟩ = false) ∧ (((((((((((w.setCell ⟨p, 1, none⟩ (.bool true)).setCell ⟨p, 2, none⟩ b0).setCell ⟨p, 3, none⟩ b1).setCell ⟨p, 4, none⟩ b2).setCell ⟨p, 5, none⟩ b3).setCell ⟨p, 6, none⟩ b4).setCell ⟨p, 7, none⟩ b5).setCell ⟨p, 8, none⟩ b6).setCell ⟨p, 9, none⟩ b7).setCell ⟨p, 10, none⟩ b8).cell? ⟨p, 11, none⟩ = some a11 ∧ ((((((((((w.setCell ⟨p, 1, none⟩ (.bool true)).setCell ⟨p, 2, none⟩ b0).setCell ⟨p, 3, none⟩ b1).setCell ⟨p, 4, none⟩ b2).setCell ⟨p, 5, none⟩ b3).setCell ⟨p, 6, none⟩ b4).setCell ⟨p, 7, none⟩ b5).setCell ⟨p, 8, none⟩ b6).setCell ⟨p, 9, none⟩ b7).setCell ⟨p, 10, none⟩ b8).frozen? ⟨p, 11, none⟩ = false) ∧ ((((((((((((w.setCell ⟨p, 1, none⟩ (.bool true)).setCell ⟨p, 2, none⟩ b0).setCell ⟨p, 3, none⟩ b1).setCell ⟨p, 4, none⟩ b2).setCell ⟨p, 5, none⟩ b3).setCell ⟨p, 6, none⟩ b4).setCell ⟨p, 7, none⟩ b5).setCell ⟨p, 8, none⟩ b6).setCell ⟨p, 9, none⟩ b7).setCell ⟨p, 10, none⟩ b8).setCell ⟨p, 11, none⟩ b9).cell? ⟨p, 12, none⟩ = some a12 ∧ (((((((((((w.setCell ⟨p, 1, none⟩ (.bool true)).setCell ⟨p, 2, none⟩ b0).setCell ⟨p, 3, none⟩ b1).setCell ⟨p, 4, none⟩ b2).setCell ⟨p, 5, none⟩ b3).setCell ⟨p, 6, none⟩ b4).setCell ⟨p, 7, none⟩ b5).setCell ⟨p, 8, none⟩ b6).setCell ⟨p, 9, none⟩ b7).setCell ⟨p, 10, none⟩ b8).setCell ⟨p, 11, none⟩ b9).frozen? ⟨p, 12, none⟩ = false) ∧ (((((((((((((w.setCell ⟨p, 1, none⟩ (.bool true)).setCell ⟨p, 2, none⟩ b0).setCell ⟨p, 3, none⟩ b1).setCell ⟨p, 4, none⟩ b2).setCell ⟨p, 5, none⟩ b3).setCell ⟨p, 6, none⟩ b4).setCell ⟨p, 7, none⟩ b5).setCell ⟨p, 8, none⟩ b6).setCell ⟨p, 9, none⟩ b7).setCell ⟨p, 10, none⟩ b8).setCell ⟨p, 11, none⟩ b9).setCell ⟨p, 12, none⟩ b10).cell? ⟨p, 13, none⟩ = some a13 ∧ ((((((((((((w.setCell ⟨p, 1, none⟩ (.bool true)).setCell ⟨p, 2, none⟩ b0).setCell ⟨p, 3, none⟩ b1).setCell ⟨p, 4, none⟩ b2).setCell ⟨p, 5, none⟩ b3).setCell ⟨p, 6, none⟩ b4).setCell ⟨p, 7, none⟩ b5).setCell ⟨p, 8, none⟩ b6).setCell ⟨p, 9, none⟩ b7).setCell ⟨p, 10, none⟩ b8).setCell ⟨p, 11, none⟩ b9).setCell ⟨p, 12, none⟩ b10).frozen? ⟨p, 13, none⟩ = false) ∧ ((((((((((((((w.setCell ⟨p, 1, none⟩ (.bool true)).setCell ⟨p, 2, none⟩ b0).setCell ⟨p, 3, none⟩ b1).setCell ⟨p, 4, none⟩ b2).setCell ⟨p, 5, none⟩ b3).setCell ⟨p, 6, none⟩ b4).setCell ⟨p, 7, none⟩ b5).setCell ⟨p, 8, none⟩ b6).setCell ⟨p, 9, none⟩ b7).setCell ⟨p, 10, none⟩ b8).setCell ⟨p, 11, none⟩ b9).setCell ⟨p, 12, none⟩ b10).setCell ⟨p, 13, none⟩ b11).cell? ⟨p, 14, none⟩ = some a14 ∧ (((((((((((((w.setCell ⟨p, 1, none⟩ (.bool true)).setCell ⟨p, 2, none⟩ b0).setCell ⟨p, 3, none⟩ b1).setCell ⟨p, 4, none⟩ b2).setCell ⟨p, 5, none⟩ b3).setCell ⟨p, 6, none⟩ b4).setCell ⟨p, 7, none⟩ b5).setCell ⟨p, 8, none⟩ b6).setCell ⟨p, 9, none⟩ b7).setCell ⟨p, 10, none⟩ b8).setCell ⟨p, 11, none⟩ b9).setCell ⟨p, 12, none⟩ b10).setCell ⟨p, 13, none⟩ b11).frozen? ⟨p, 14, none⟩ = false) ∧ ((((((((((((((w.setCell ⟨p, 1, none⟩ (.bool true)).setCell ⟨p, 2, none⟩ b0).setCell ⟨p, 3, none⟩ b1).setCell ⟨p, 4, none⟩ b2).setCell ⟨p, 5, none⟩ b3).setCell ⟨p, 6, none⟩ b4).setCell ⟨p, 7, none⟩ b5).setCell ⟨p, 8, none⟩ b6).setCell ⟨p, 9, none⟩ b7).setCell ⟨p, 10, none⟩ b8).setCell ⟨p, 11, none⟩ b9).setCell ⟨p, 12, none⟩ b10).setCell ⟨p, 13, none⟩ b11).setCell ⟨p, 14, none⟩ b12).heap[p]? = some (.cells #[a0, .bool true, b0, b1, b2, b3, b4, b5, b6, b7, b8, b9, b10, b11, b12] T (0, 0)) :=
  store14w rfl rfl rfl rfl rfl rfl rfl rfl rfl rfl rfl rfl rfl rfl h
end Go.Proofs.Ytelcpfjifhobjaa