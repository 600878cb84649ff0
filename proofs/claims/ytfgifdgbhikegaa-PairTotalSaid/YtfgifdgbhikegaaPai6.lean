/- Layer 6's reference, and the law's own test of a pair; the chapter's example. -/
import Derived.Test.YtfgifdgbhikegaaPai5
namespace Go.Proofs.Ytfgifdgbhikegaa
open Go.RowKit

def B6 (w : World) (b : Bool) (e : Ending) (w' : World) : Prop := e = .returned (.bool b) ∧ Below w.heap.size w w'
theorem amount_any (n : Int) (w : World) : Calls Try.prog 59 #[.int .i64 n] w fun e w' => e = .returned (.bool (decide (AmP n))) ∧ w = w' := by
  by_cases h1 : -4503599627370496 ≤ n
  · have d1 : decide (-4503599627370496 ≤ n) = true := decide_eq_true h1
    by_cases h2 : n ≤ 4503599627370496
    · have d2 : decide (n ≤ 4503599627370496) = true := decide_eq_true h2
      rw [decide_eq_true (show AmP n from ⟨h1, h2⟩)]
      clear h1 h2
      go_enter Try.func59, Try.ntmps59
      go_wp2
      go_ret
      exact ⟨rfl, rfl⟩
    · have d2 : decide (n ≤ 4503599627370496) = false := decide_eq_false h2
      rw [decide_eq_false (show ¬ AmP n from fun h => h2 h.2)]
      clear h1 h2
      go_enter Try.func59, Try.ntmps59
      go_wp2
      go_ret
      exact ⟨rfl, rfl⟩
  · have d1 : decide (-4503599627370496 ≤ n) = false := decide_eq_false h1
    rw [decide_eq_false (show ¬ AmP n from fun h => h1 h.1)]
    clear h1
    go_enter Try.func59, Try.ntmps59
    go_wp2
    go_ret
    exact ⟨rfl, rfl⟩
theorem boxed (w : World) (a b : Int) : Below w.heap.size w (w.alloc (.cells #[.int .i64 a, .int .i64 b] 29)) := (Below.refl _ _).alloc (Nat.le_refl _) _
theorem right_any (a b : Int) (w : World) : Calls Try.prog 60 #[.agg #[.int .i64 a, .int .i64 b]] w (B6 w (decide (AmP a ∧ AmP b))) := by
  have ha := amount_any a
  have hb := amount_any b
  have Hx := hide (boxed w a b)
  by_cases h1 : AmP a
  · rw [decide_eq_true h1] at ha
    by_cases h2 : AmP b
    · rw [decide_eq_true (show AmP a ∧ AmP b from ⟨h1, h2⟩)]
      rw [decide_eq_true h2] at hb
      clear h1 h2
      go_enter Try.func60, Try.ntmps60
      go_wp2_with fail
      refine (ha _).mono ?_
      rintro e w' ⟨rfl, rfl⟩
      go_wp2_with fail
      refine (hb _).mono ?_
      rintro e w' ⟨rfl, rfl⟩
      go_wp2_with fail
      go_ret
      exact ⟨rfl, Hx.out⟩
    · rw [decide_eq_false (show ¬ (AmP a ∧ AmP b) from fun h => h2 h.2)]
      rw [decide_eq_false h2] at hb
      clear h1 h2
      go_enter Try.func60, Try.ntmps60
      go_wp2_with fail
      refine (ha _).mono ?_
      rintro e w' ⟨rfl, rfl⟩
      go_wp2_with fail
      refine (hb _).mono ?_
      rintro e w' ⟨rfl, rfl⟩
      go_wp2_with fail
      go_ret
      exact ⟨rfl, Hx.out⟩
  · rw [decide_eq_false (show ¬ (AmP a ∧ AmP b) from fun h => h1 h.1)]
    rw [decide_eq_false h1] at ha
    clear h1
    go_enter Try.func60, Try.ntmps60
    go_wp2_with fail
    refine (ha _).mono ?_
    rintro e w' ⟨rfl, rfl⟩
    go_wp2_with fail
    go_ret
    exact ⟨rfl, Hx.out⟩
theorem is_yes {v : Value} {a b : Int} (h : PV v a b) (w : World) : Calls Try.prog 20 #[v, .agg #[.int .i64 a, .int .i64 b]] w (B6 w true) := by
  have ha := side_0 h
  have hb := side_1 h
  have Hx := hide (boxed w a b)
  clear h
  go_enter Try.func20, Try.ntmps20
  go_wp2_with fail
  refine (ha _).mono ?_
  rintro e w' ⟨rfl, rfl⟩
  go_wp2_with fail
  refine (hb _).mono ?_
  rintro e w' ⟨rfl, rfl⟩
  go_wp2_with fail
  go_ret
  exact ⟨rfl, Hx.out⟩
end Go.Proofs.Ytfgifdgbhikegaa
