/- The contracts of layer 6, more: of, side, swapped. -/
import Derived.Test.YtfgifdgbhikegaaPai2
namespace Go.Proofs.Ytfgifdgbhikegaa
open Ieee

theorem int_word {a : Int} (h : AmP a) : AmW (floatOfInt .f64 a) a := by
  refine ⟨of_int a ?_ ?_, h⟩
  · unfold AmP at h; omega
  · unfold AmP at h; omega
theorem int_not {a : Int} (h : ¬ AmP a) (h1 : -9223372036854775808 ≤ a) (h2 : a ≤ 9223372036854775807) : NotW (floatOfInt .f64 a) := by
  by_cases hb : a.natAbs ≤ 9007199254740992
  · exact order_no (of_int a (by omega) (by omega)) h
  · exact big_above a (by omega) (by omega)

theorem of_ok {a b : Int} (ha : AmP a) (hb : AmP b) (w : World) : Calls Try.prog 16 #[.int .i64 a, .int .i64 b] w fun e w' =>
    e = .returned (.tuple #[.complex .f64 (floatOfInt .f64 a) (floatOfInt .f64 b), .int .i64 0]) ∧ w = w' := by
  have h1 := isPair_yes (int_word ha) (int_word hb)
  have c1 := fun w => run_convert_int_float (P := Try.prog) w 3 40 .i64 .f64 a (by kernel_rfl) (by kernel_rfl)
  have c2 := fun w => run_convert_int_float (P := Try.prog) w 3 40 .i64 .f64 b (by kernel_rfl) (by kernel_rfl)
  generalize floatOfInt .f64 a = x at *
  generalize floatOfInt .f64 b = y at *
  clear ha hb
  go_enter Try.func16, Try.ntmps16
  go_wp2_with fail
  refine (h1 _).mono ?_
  rintro e w' ⟨rfl, rfl⟩
  go_wp2_with fail
  go_ret2
  exact ⟨rfl, rfl⟩
theorem isPair_int {a b : Int} (h : ¬ (AmP a ∧ AmP b)) (h1 : -9223372036854775808 ≤ a) (h2 : a ≤ 9223372036854775807) (k1 : -9223372036854775808 ≤ b) (k2 : b ≤ 9223372036854775807) (w : World) :
    Calls Try.prog 56 #[.complex .f64 (floatOfInt .f64 a) (floatOfInt .f64 b)] w fun e w' => e = .returned (.bool false) ∧ w = w' := by
  by_cases ha : AmP a
  · exact isPair_no2 (int_word ha) (isAm_no (int_not (fun hb => h ⟨ha, hb⟩) k1 k2)) w
  · exact isPair_no1 (isAm_no (int_not ha h1 h2)) w
theorem of_no {a b : Int} (h : ¬ (AmP a ∧ AmP b)) (h1 : -9223372036854775808 ≤ a) (h2 : a ≤ 9223372036854775807) (k1 : -9223372036854775808 ≤ b) (k2 : b ≤ 9223372036854775807) (w : World) : Calls Try.prog 16 #[.int .i64 a, .int .i64 b] w fun e w' =>
    e = .returned (.tuple #[.complex .f64 0 0, .int .i64 5]) ∧ w = w' := by
  have p1 := isPair_int h h1 h2 k1 k2
  have c1 := fun w => run_convert_int_float (P := Try.prog) w 3 40 .i64 .f64 a (by kernel_rfl) (by kernel_rfl)
  have c2 := fun w => run_convert_int_float (P := Try.prog) w 3 40 .i64 .f64 b (by kernel_rfl) (by kernel_rfl)
  generalize floatOfInt .f64 a = x at *
  generalize floatOfInt .f64 b = y at *
  clear h h1 h2 k1 k2
  go_enter Try.func16, Try.ntmps16
  go_wp2_with fail
  refine (p1 _).mono ?_
  rintro e w' ⟨rfl, rfl⟩
  go_wp2_with fail
  go_ret2
  exact ⟨rfl, rfl⟩

/-- A value is the pair of a and b. -/
def PV (v : Value) (a b : Int) : Prop := ∃ x y, v = .complex .f64 x y ∧ AmW x a ∧ AmW y b
theorem side_bad (v : Value) (n : Int) (h : ¬ (n = 0 ∨ n = 1)) (w : World) : Calls Try.prog 23 #[v, .int .i64 n] w fun e w' => e = .returned (.tuple #[.int .i64 0, .int .i64 1]) ∧ w = w' := by
  have h1 := isSide_any n
  rw [decide_eq_false h] at h1
  clear h
  go_enter Try.func23, Try.ntmps23
  go_wp2_with fail
  refine (h1 _).mono ?_
  rintro e w' ⟨rfl, rfl⟩
  go_wp2_with fail
  go_ret2
  exact ⟨rfl, rfl⟩
theorem side_form (v : Value) (n : Int) (h : n = 0 ∨ n = 1) (hv : ∀ w, Calls Try.prog 56 #[v] w fun e w' => e = .returned (.bool false) ∧ w = w') (w : World) : Calls Try.prog 23 #[v, .int .i64 n] w fun e w' => e = .returned (.tuple #[.int .i64 0, .int .i64 4]) ∧ w = w' := by
  have h1 := isSide_any n
  rw [decide_eq_true h] at h1
  clear h
  go_enter Try.func23, Try.ntmps23
  go_wp2_with fail
  refine (h1 _).mono ?_
  rintro e w' ⟨rfl, rfl⟩
  go_wp2_with fail
  refine (hv _).mono ?_
  rintro e w' ⟨rfl, rfl⟩
  go_wp2_with fail
  go_ret2
  exact ⟨rfl, rfl⟩
theorem AmW.int {x : Nat} {a : Int} (h : AmW x a) (w : World) : (convert 40 3 (.float .f64 x)).run Try.prog w = .ok (.int .i64 a) w :=
  run_convert_float_int (P := Try.prog) w 40 3 .f64 .i64 x a (by kernel_rfl) (by kernel_rfl) (toInt_val h.1 (by have := h.2; unfold AmP at this; omega) (by have := h.2; unfold AmP at this; omega))
theorem side_0 {v : Value} {a b : Int} (h : PV v a b) (w : World) : Calls Try.prog 23 #[v, .int .i64 0] w fun e w' => e = .returned (.tuple #[.int .i64 a, .int .i64 0]) ∧ w = w' := by
  obtain ⟨x, y, rfl, hx, hy⟩ := h
  have h1 := isSide_any 0
  rw [decide_eq_true (by omega)] at h1
  have h2 := isPair_yes hx hy
  have c1 := hx.int
  clear hx hy
  go_enter Try.func23, Try.ntmps23
  go_wp2_with fail
  refine (h1 _).mono ?_
  rintro e w' ⟨rfl, rfl⟩
  go_wp2_with fail
  refine (h2 _).mono ?_
  rintro e w' ⟨rfl, rfl⟩
  go_wp2_with fail
  go_ret2
  exact ⟨rfl, rfl⟩
theorem side_1 {v : Value} {a b : Int} (h : PV v a b) (w : World) : Calls Try.prog 23 #[v, .int .i64 1] w fun e w' => e = .returned (.tuple #[.int .i64 b, .int .i64 0]) ∧ w = w' := by
  obtain ⟨x, y, rfl, hx, hy⟩ := h
  have h1 := isSide_any 1
  rw [decide_eq_true (by omega)] at h1
  have h2 := isPair_yes hx hy
  have c1 := hy.int
  clear hx hy
  go_enter Try.func23, Try.ntmps23
  go_wp2_with fail
  refine (h1 _).mono ?_
  rintro e w' ⟨rfl, rfl⟩
  go_wp2_with fail
  refine (h2 _).mono ?_
  rintro e w' ⟨rfl, rfl⟩
  go_wp2_with fail
  go_ret2
  exact ⟨rfl, rfl⟩
end Go.Proofs.Ytfgifdgbhikegaa
