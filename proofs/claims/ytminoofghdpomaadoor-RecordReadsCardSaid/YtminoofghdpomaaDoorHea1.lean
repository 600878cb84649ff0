/- Layer 7: the contracts of heads: which may be, their bytes, and back; and the reference's. -/
import Derived.Test.YtminoofghdpomaaDoorMA
namespace Go.Proofs.YtminoofghdpomaaDoor
set_option linter.unusedVariables false
set_option linter.unusedSimpArgs false
open Go.RowKit

theorem within_yes (n m : Int) (w : World) (h0 : 0 ≤ n) (h1 : n ≤ m) : Calls Tryd.prog 39 #[.int .i64 n, .int .i64 m] w fun e w' => e = .returned (.bool true) ∧ w = w' := by
  have hd : decide (0 ≤ n) = true := by simpa using h0
  have hd1 : decide (n ≤ m) = true := by simpa using h1
  go_enter Tryd.func39, Tryd.ntmps39
  go_wp2
  go_ret
  exact ⟨rfl, rfl⟩
theorem within_no (n m : Int) (w : World) (h : n < 0 ∨ m < n) : Calls Tryd.prog 39 #[.int .i64 n, .int .i64 m] w fun e w' => e = .returned (.bool false) ∧ w = w' := by
  by_cases h0 : 0 ≤ n
  · have hd : decide (0 ≤ n) = true := by simpa using h0
    have hd1 : decide (n ≤ m) = false := by simp; omega
    clear h
    go_enter Tryd.func39, Tryd.ntmps39
    go_wp2
    go_ret
    exact ⟨rfl, rfl⟩
  · have hd : decide (0 ≤ n) = false := by simpa using h0
    clear h
    go_enter Tryd.func39, Tryd.ntmps39
    go_wp2
    go_ret
    exact ⟨rfl, rfl⟩

/-- May a head be? -/
def HdR (l t f s : Int) : Prop := (0 ≤ l ∧ l ≤ 16777215) ∧ (0 ≤ t ∧ t ≤ 255) ∧ (0 ≤ f ∧ f ≤ 255) ∧ (0 ≤ s ∧ s ≤ 2147483647)
abbrev hdV (l t f s : Int) (r : Bool) : Value := .agg #[.int .i64 l, .int .i64 t, .int .i64 f, .int .i64 s, .bool r]

set_option maxHeartbeats 400000 in
theorem hright_yesX (l t f s : Int) (r : Bool) (w : World) (h : HdR l t f s) : Calls Tryd.prog 20 #[.agg #[.int .i64 l, .int .i64 t, .int .i64 f, .int .i64 s, .bool r]] w fun e w' => e = .returned (.bool true) ∧ w.alloc (.cells #[.int .i64 l, .int .i64 t, .int .i64 f, .int .i64 s, .bool r] 50) = w' := by
  obtain ⟨⟨a0, a1⟩, ⟨b0, b1⟩, ⟨c0, c1⟩, ⟨d0, d1⟩⟩ := h
  go_enter Tryd.func20, Tryd.ntmps20
  go_wp2_with (go_at_call 39; refine (within_yes _ _ _ (by omega) (by omega)).mono ?_; rintro e w' ⟨rfl, rfl⟩)
  go_ret
  exact ⟨rfl, rfl⟩
set_option maxHeartbeats 400000 in
theorem hright_noX (l t f s : Int) (r : Bool) (w : World) (h : ¬ HdR l t f s) : Calls Tryd.prog 20 #[.agg #[.int .i64 l, .int .i64 t, .int .i64 f, .int .i64 s, .bool r]] w fun e w' => e = .returned (.bool false) ∧ w.alloc (.cells #[.int .i64 l, .int .i64 t, .int .i64 f, .int .i64 s, .bool r] 50) = w' := by
  have key : (l < 0 ∨ 16777215 < l) ∨ ((0 ≤ l ∧ l ≤ 16777215) ∧ (t < 0 ∨ 255 < t)) ∨ ((0 ≤ l ∧ l ≤ 16777215) ∧ (0 ≤ t ∧ t ≤ 255) ∧ (f < 0 ∨ 255 < f)) ∨ ((0 ≤ l ∧ l ≤ 16777215) ∧ (0 ≤ t ∧ t ≤ 255) ∧ (0 ≤ f ∧ f ≤ 255) ∧ (s < 0 ∨ 2147483647 < s)) := by unfold HdR at h; omega
  clear h
  rcases key with h4 | ⟨⟨a0, a1⟩, h4⟩ | ⟨⟨a0, a1⟩, ⟨b0, b1⟩, h4⟩ | ⟨⟨a0, a1⟩, ⟨b0, b1⟩, ⟨c0, c1⟩, h4⟩
  all_goals
    have H4 := hide h4
    clear h4
    go_enter Tryd.func20, Tryd.ntmps20
    go_wp2_with (first | (go_at_call 39; refine (within_yes _ _ _ (by omega) (by omega)).mono ?_; rintro e w' ⟨rfl, rfl⟩) | (go_at_call 39; refine (within_no _ _ _ H4.out).mono ?_; rintro e w' ⟨rfl, rfl⟩))
    go_ret
    exact ⟨rfl, rfl⟩
set_option maxHeartbeats 400000 in
theorem rright_yesX (l t f s : Int) (r : Bool) (w : World) (h : HdR l t f s) : Calls Tryd.prog 21 #[.agg #[.int .i64 l, .int .i64 t, .int .i64 f, .int .i64 s, .bool r]] w fun e w' => e = .returned (.bool true) ∧ w.alloc (.cells #[.int .i64 l, .int .i64 t, .int .i64 f, .int .i64 s, .bool r] 52) = w' := by
  obtain ⟨⟨a0, a1⟩, ⟨b0, b1⟩, ⟨c0, c1⟩, ⟨d0, d1⟩⟩ := h
  have q0 : decide (0 ≤ l) = true := by simp; omega
  have q1 : decide (l < 16777216) = true := by simp; omega
  have q2 : decide (0 ≤ t) = true := by simp; omega
  have q3 : decide (t < 256) = true := by simp; omega
  have q4 : decide (0 ≤ f) = true := by simp; omega
  have q5 : decide (f < 256) = true := by simp; omega
  have q6 : decide (0 ≤ s) = true := by simp; omega
  have q7 : decide (s < 2147483648) = true := by simp; omega
  go_enter Tryd.func21, Tryd.ntmps21
  go_wp2
  go_ret
  exact ⟨rfl, rfl⟩
set_option maxHeartbeats 400000 in
theorem rright_noX (l t f s : Int) (r : Bool) (w : World) (h : ¬ HdR l t f s) : Calls Tryd.prog 21 #[.agg #[.int .i64 l, .int .i64 t, .int .i64 f, .int .i64 s, .bool r]] w fun e w' => e = .returned (.bool false) ∧ w.alloc (.cells #[.int .i64 l, .int .i64 t, .int .i64 f, .int .i64 s, .bool r] 52) = w' := by
  have key : (l < 0) ∨ (0 ≤ l ∧ 16777216 ≤ l) ∨ (0 ≤ l ∧ l < 16777216 ∧ t < 0) ∨ (0 ≤ l ∧ l < 16777216 ∧ 0 ≤ t ∧ 256 ≤ t) ∨ (0 ≤ l ∧ l < 16777216 ∧ 0 ≤ t ∧ t < 256 ∧ f < 0) ∨ (0 ≤ l ∧ l < 16777216 ∧ 0 ≤ t ∧ t < 256 ∧ 0 ≤ f ∧ 256 ≤ f) ∨ (0 ≤ l ∧ l < 16777216 ∧ 0 ≤ t ∧ t < 256 ∧ 0 ≤ f ∧ f < 256 ∧ s < 0) ∨ (0 ≤ l ∧ l < 16777216 ∧ 0 ≤ t ∧ t < 256 ∧ 0 ≤ f ∧ f < 256 ∧ 0 ≤ s ∧ 2147483648 ≤ s) := by unfold HdR at h; omega
  clear h
  rcases key with h0 | ⟨h0, h1⟩ | ⟨h0, h1, h2⟩ | ⟨h0, h1, h2, h3⟩ | ⟨h0, h1, h2, h3, h4⟩ | ⟨h0, h1, h2, h3, h4, h5⟩ | ⟨h0, h1, h2, h3, h4, h5, h6⟩ | ⟨h0, h1, h2, h3, h4, h5, h6, h7⟩
  · have q0 : decide (0 ≤ l) = false := by simp; omega
    go_enter Tryd.func21, Tryd.ntmps21
    go_wp2
    go_ret
    exact ⟨rfl, rfl⟩
  · have q0 : decide (0 ≤ l) = true := by simp; omega
    have q1 : decide (l < 16777216) = false := by simp; omega
    go_enter Tryd.func21, Tryd.ntmps21
    go_wp2
    go_ret
    exact ⟨rfl, rfl⟩
  · have q0 : decide (0 ≤ l) = true := by simp; omega
    have q1 : decide (l < 16777216) = true := by simp; omega
    have q2 : decide (0 ≤ t) = false := by simp; omega
    go_enter Tryd.func21, Tryd.ntmps21
    go_wp2
    go_ret
    exact ⟨rfl, rfl⟩
  · have q0 : decide (0 ≤ l) = true := by simp; omega
    have q1 : decide (l < 16777216) = true := by simp; omega
    have q2 : decide (0 ≤ t) = true := by simp; omega
    have q3 : decide (t < 256) = false := by simp; omega
    go_enter Tryd.func21, Tryd.ntmps21
    go_wp2
    go_ret
    exact ⟨rfl, rfl⟩
  · have q0 : decide (0 ≤ l) = true := by simp; omega
    have q1 : decide (l < 16777216) = true := by simp; omega
    have q2 : decide (0 ≤ t) = true := by simp; omega
    have q3 : decide (t < 256) = true := by simp; omega
    have q4 : decide (0 ≤ f) = false := by simp; omega
    go_enter Tryd.func21, Tryd.ntmps21
    go_wp2
    go_ret
    exact ⟨rfl, rfl⟩
  · have q0 : decide (0 ≤ l) = true := by simp; omega
    have q1 : decide (l < 16777216) = true := by simp; omega
    have q2 : decide (0 ≤ t) = true := by simp; omega
    have q3 : decide (t < 256) = true := by simp; omega
    have q4 : decide (0 ≤ f) = true := by simp; omega
    have q5 : decide (f < 256) = false := by simp; omega
    go_enter Tryd.func21, Tryd.ntmps21
    go_wp2
    go_ret
    exact ⟨rfl, rfl⟩
  · have q0 : decide (0 ≤ l) = true := by simp; omega
    have q1 : decide (l < 16777216) = true := by simp; omega
    have q2 : decide (0 ≤ t) = true := by simp; omega
    have q3 : decide (t < 256) = true := by simp; omega
    have q4 : decide (0 ≤ f) = true := by simp; omega
    have q5 : decide (f < 256) = true := by simp; omega
    have q6 : decide (0 ≤ s) = false := by simp; omega
    go_enter Tryd.func21, Tryd.ntmps21
    go_wp2
    go_ret
    exact ⟨rfl, rfl⟩
  · have q0 : decide (0 ≤ l) = true := by simp; omega
    have q1 : decide (l < 16777216) = true := by simp; omega
    have q2 : decide (0 ≤ t) = true := by simp; omega
    have q3 : decide (t < 256) = true := by simp; omega
    have q4 : decide (0 ≤ f) = true := by simp; omega
    have q5 : decide (f < 256) = true := by simp; omega
    have q6 : decide (0 ≤ s) = true := by simp; omega
    have q7 : decide (s < 2147483648) = false := by simp; omega
    go_enter Tryd.func21, Tryd.ntmps21
    go_wp2
    go_ret
    exact ⟨rfl, rfl⟩
theorem hright_yes (l t f s : Int) (r : Bool) (w : World) (h : HdR l t f s) : Calls Tryd.prog 20 #[.agg #[.int .i64 l, .int .i64 t, .int .i64 f, .int .i64 s, .bool r]] w fun e w' => e = .returned (.bool true) ∧ Below w.heap.size w w' :=
  (hright_yesX l t f s r w h).mono fun e w' ⟨h1, h2⟩ => ⟨h1, by subst h2; exact (Below.refl _ _).alloc (Nat.le_refl _) _⟩
theorem hright_no (l t f s : Int) (r : Bool) (w : World) (h : ¬ HdR l t f s) : Calls Tryd.prog 20 #[.agg #[.int .i64 l, .int .i64 t, .int .i64 f, .int .i64 s, .bool r]] w fun e w' => e = .returned (.bool false) ∧ Below w.heap.size w w' :=
  (hright_noX l t f s r w h).mono fun e w' ⟨h1, h2⟩ => ⟨h1, by subst h2; exact (Below.refl _ _).alloc (Nat.le_refl _) _⟩
theorem rright_yes (l t f s : Int) (r : Bool) (w : World) (h : HdR l t f s) : Calls Tryd.prog 21 #[.agg #[.int .i64 l, .int .i64 t, .int .i64 f, .int .i64 s, .bool r]] w fun e w' => e = .returned (.bool true) ∧ Below w.heap.size w w' :=
  (rright_yesX l t f s r w h).mono fun e w' ⟨h1, h2⟩ => ⟨h1, by subst h2; exact (Below.refl _ _).alloc (Nat.le_refl _) _⟩
theorem rright_no (l t f s : Int) (r : Bool) (w : World) (h : ¬ HdR l t f s) : Calls Tryd.prog 21 #[.agg #[.int .i64 l, .int .i64 t, .int .i64 f, .int .i64 s, .bool r]] w fun e w' => e = .returned (.bool false) ∧ Below w.heap.size w w' :=
  (rright_noX l t f s r w h).mono fun e w' ⟨h1, h2⟩ => ⟨h1, by subst h2; exact (Below.refl _ _).alloc (Nat.le_refl _) _⟩
end Go.Proofs.YtminoofghdpomaaDoor
