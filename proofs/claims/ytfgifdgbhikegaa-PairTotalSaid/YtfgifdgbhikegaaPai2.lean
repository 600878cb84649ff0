/- The contracts of layer 6, more: what is an amount, a pair, a side; a pair's making. -/
import Derived.Test.YtfgifdgbhikegaaPai1
namespace Go.Proofs.Ytfgifdgbhikegaa
open Ieee

/-- The number may be an amount. -/
def AmP (a : Int) : Prop := -4503599627370496 ≤ a ∧ a ≤ 4503599627370496
instance (a : Int) : Decidable (AmP a) := inferInstanceAs (Decidable (_ ∧ _))
theorem AmP.wide {a : Int} (h : AmP a) : a.natAbs ≤ 9007199254740992 := by unfold AmP at h; omega
theorem order_yes {x : Nat} {a : Int} (h : Val x a) (ha : AmP a) : FloatKind.f64.format.order (x % 9223372036854775808) 4841369599423283200 = some .lt ∨ FloatKind.f64.format.order (x % 9223372036854775808) 4841369599423283200 = some .eq := by
  have e := order_val (abs_val h) val_max
  unfold AmP at ha
  rcases Int.lt_trichotomy (a.natAbs : Int) 4503599627370496 with h1 | h1 | h1
  · simp only [compare, compareOfLessAndEq, h1, if_true] at e
    exact Or.inl e
  · rw [h1] at e
    exact Or.inr e
  · omega
theorem order_no {x : Nat} {a : Int} (h : Val x a) (ha : ¬ AmP a) : FloatKind.f64.format.order (x % 9223372036854775808) 4841369599423283200 = some .gt := by
  refine (order_val (abs_val h) val_max).trans ?_
  unfold AmP at ha
  have n1 : ¬ (a.natAbs : Int) < 4503599627370496 := by omega
  have n2 : ¬ (a.natAbs : Int) = 4503599627370496 := by omega
  simp only [compare, compareOfLessAndEq, n1, n2, if_false]
theorem order_same {x y : Nat} {a : Int} (h : Val x a) (k : Val y a) : FloatKind.f64.format.order x y = some .eq := by
  refine (order_val h k).trans ?_
  have n1 : ¬ a < a := by omega
  simp only [compare, compareOfLessAndEq, n1, if_false, if_true]

theorem isAm_yes {x : Nat} {a : Int} (h : Val x a) (ha : AmP a) (w : World) : Calls Try.prog 79 #[.float .f64 x] w fun e w' => e = .returned (.bool true) ∧ w = w' := by
  obtain ⟨r, hr, ht⟩ := trunc_any h ha.wide w
  have h2 := order_same h hr
  rcases order_yes h ha with h1 | h1
  all_goals
    go_enter Try.func79, Try.ntmps79
    go_wp2_with (go_at_call 86; refine (abs_any x w).mono ?_; rintro e w' ⟨rfl, rfl⟩)
    go_wp2_with (go_at_call 87; refine ht.mono ?_; rintro e w' ⟨rfl, rfl⟩)
    go_ret
    exact ⟨rfl, rfl⟩
theorem isAm_no {x : Nat} (h1 : FloatKind.f64.format.order (x % 9223372036854775808) 4841369599423283200 = some .gt) (w : World) : Calls Try.prog 79 #[.float .f64 x] w fun e w' => e = .returned (.bool false) ∧ w = w' := by
  have g1 : (FloatKind.f64.format.order (x % 9223372036854775808) 4841369599423283200 == some .lt) = false := by rw [h1]; rfl
  have g2 : (FloatKind.f64.format.order (x % 9223372036854775808) 4841369599423283200 == some .eq) = false := by rw [h1]; rfl
  clear h1
  go_enter Try.func79, Try.ntmps79
  go_wp2_with (go_at_call 86; refine (abs_any x w).mono ?_; rintro e w' ⟨rfl, rfl⟩)
  go_ret
  exact ⟨rfl, rfl⟩
/-- A word is an amount's, or is none's. -/
def AmW (x : Nat) (a : Int) : Prop := Val x a ∧ AmP a
def NotW (x : Nat) : Prop := FloatKind.f64.format.order (x % 9223372036854775808) 4841369599423283200 = some .gt
theorem isPair_yes {x y : Nat} {a b : Int} (h : AmW x a) (k : AmW y b) (w : World) : Calls Try.prog 56 #[.complex .f64 x y] w fun e w' => e = .returned (.bool true) ∧ w = w' := by
  have h1 := isAm_yes h.1 h.2 w
  have h2 := isAm_yes k.1 k.2 w
  clear h k
  go_enter Try.func56, Try.ntmps56
  go_wp2_with fail
  refine h1.mono ?_
  rintro e w' ⟨rfl, rfl⟩
  go_wp2_with fail
  refine h2.mono ?_
  rintro e w' ⟨rfl, rfl⟩
  go_wp2_with fail
  go_ret
  exact ⟨rfl, rfl⟩
theorem isPair_no1 {x y : Nat} (h1 : ∀ w, Calls Try.prog 79 #[.float .f64 x] w fun e w' => e = .returned (.bool false) ∧ w = w') (w : World) : Calls Try.prog 56 #[.complex .f64 x y] w fun e w' => e = .returned (.bool false) ∧ w = w' := by
  go_enter Try.func56, Try.ntmps56
  go_wp2_with fail
  refine (h1 _).mono ?_
  rintro e w' ⟨rfl, rfl⟩
  go_wp2_with fail
  go_ret
  exact ⟨rfl, rfl⟩
theorem isPair_no2 {x y : Nat} {a : Int} (h : AmW x a) (h2 : ∀ w, Calls Try.prog 79 #[.float .f64 y] w fun e w' => e = .returned (.bool false) ∧ w = w') (w : World) : Calls Try.prog 56 #[.complex .f64 x y] w fun e w' => e = .returned (.bool false) ∧ w = w' := by
  have h1 := isAm_yes h.1 h.2 w
  clear h
  go_enter Try.func56, Try.ntmps56
  go_wp2_with fail
  refine h1.mono ?_
  rintro e w' ⟨rfl, rfl⟩
  go_wp2_with fail
  refine (h2 _).mono ?_
  rintro e w' ⟨rfl, rfl⟩
  go_wp2_with fail
  go_ret
  exact ⟨rfl, rfl⟩
theorem isSide_any (n : Int) (w : World) : Calls Try.prog 57 #[.int .i64 n] w fun e w' => e = .returned (.bool (decide (n = 0 ∨ n = 1))) ∧ w = w' := by
  by_cases h0 : n = 0
  · subst h0
    go_enter Try.func57, Try.ntmps57
    go_wp2
    go_ret
    exact ⟨rfl, rfl⟩
  · by_cases h1 : n = 1
    · subst h1
      go_enter Try.func57, Try.ntmps57
      go_wp2
      go_ret
      exact ⟨rfl, rfl⟩
    · have d0 : (n == 0) = false := by simpa using h0
      have d1 : (n == 1) = false := by simpa using h1
      have d2 : decide (n = 0 ∨ n = 1) = false := decide_eq_false (by omega)
      rw [d2]
      go_enter Try.func57, Try.ntmps57
      go_wp2
      go_ret
      exact ⟨rfl, rfl⟩
end Go.Proofs.Ytfgifdgbhikegaa
