/- The contracts of layer 6, more: moved. -/
import Derived.Test.YtfgifdgbhikegaaPai4
namespace Go.Proofs.Ytfgifdgbhikegaa
open Ieee

theorem move_bad (v : Value) (s n : Int) (h : ¬ (s = 0 ∨ s = 1)) (w : World) : Calls Try.prog 18 #[v, .int .i64 s, .int .i64 n] w fun e w' => e = .returned (.tuple #[.complex .f64 0 0, .int .i64 1]) ∧ w = w' := by
  have h1 := isSide_any s
  rw [decide_eq_false h] at h1
  clear h
  go_enter Try.func18, Try.ntmps18
  go_wp2_with fail
  refine (h1 _).mono ?_
  rintro e w' ⟨rfl, rfl⟩
  go_wp2_with fail
  go_ret2
  exact ⟨rfl, rfl⟩
theorem move_form (v : Value) (s n : Int) (h : s = 0 ∨ s = 1) (hv : ∀ w, Calls Try.prog 56 #[v] w fun e w' => e = .returned (.bool false) ∧ w = w') (w : World) : Calls Try.prog 18 #[v, .int .i64 s, .int .i64 n] w fun e w' => e = .returned (.tuple #[.complex .f64 0 0, .int .i64 4]) ∧ w = w' := by
  have h1 := isSide_any s
  rw [decide_eq_true h] at h1
  clear h
  go_enter Try.func18, Try.ntmps18
  go_wp2_with fail
  refine (h1 _).mono ?_
  rintro e w' ⟨rfl, rfl⟩
  go_wp2_with fail
  refine (hv _).mono ?_
  rintro e w' ⟨rfl, rfl⟩
  go_wp2_with fail
  go_ret2
  exact ⟨rfl, rfl⟩
theorem am0 : AmP 0 := by unfold AmP; omega
theorem move0_far {v : Value} {a b : Int} (n : Int) (h : PV v a b) (hn : ¬ AmP n) (h1 : -9223372036854775808 ≤ n) (h2 : n ≤ 9223372036854775807) (w : World) :
    Calls Try.prog 18 #[v, .int .i64 0, .int .i64 n] w fun e w' => e = .returned (.tuple #[.complex .f64 0 0, .int .i64 5]) ∧ w = w' := by
  obtain ⟨x, y, rfl, hx, hy⟩ := h
  have s1 := isSide_any 0
  rw [decide_eq_true (by omega)] at s1
  have p1 := isPair_yes hx hy
  have o1 := of_no (a := n) (b := 0) (fun h => hn h.1) h1 h2 (by omega) (by omega)
  clear hx hy hn h1 h2
  go_enter Try.func18, Try.ntmps18
  go_wp2_with fail
  refine (s1 _).mono ?_
  rintro e w' ⟨rfl, rfl⟩
  go_wp2_with fail
  refine (p1 _).mono ?_
  rintro e w' ⟨rfl, rfl⟩
  go_wp2_with fail
  refine (o1 _).mono ?_
  rintro e w' ⟨rfl, rfl⟩
  go_wp2_with fail
  go_ret2
  exact ⟨rfl, rfl⟩
theorem move1_far {v : Value} {a b : Int} (n : Int) (h : PV v a b) (hn : ¬ AmP n) (h1 : -9223372036854775808 ≤ n) (h2 : n ≤ 9223372036854775807) (w : World) :
    Calls Try.prog 18 #[v, .int .i64 1, .int .i64 n] w fun e w' => e = .returned (.tuple #[.complex .f64 0 0, .int .i64 5]) ∧ w = w' := by
  obtain ⟨x, y, rfl, hx, hy⟩ := h
  have s1 := isSide_any 1
  rw [decide_eq_true (by omega)] at s1
  have p1 := isPair_yes hx hy
  have o1 := of_no (a := n) (b := 0) (fun h => hn h.1) h1 h2 (by omega) (by omega)
  have o2 := of_no (a := 0) (b := n) (fun h => hn h.2) (by omega) (by omega) h1 h2
  clear hx hy hn h1 h2
  go_enter Try.func18, Try.ntmps18
  go_wp2_with fail
  refine (s1 _).mono ?_
  rintro e w' ⟨rfl, rfl⟩
  go_wp2_with fail
  refine (p1 _).mono ?_
  rintro e w' ⟨rfl, rfl⟩
  go_wp2_with fail
  refine (o1 _).mono ?_
  rintro e w' ⟨rfl, rfl⟩
  go_wp2_with fail
  refine (o2 _).mono ?_
  rintro e w' ⟨rfl, rfl⟩
  go_wp2_with fail
  go_ret2
  exact ⟨rfl, rfl⟩
/-- What the move gives, where the amount that comes is one. -/
def MoveV (v' : Value) (k : Int) (a b : Int) : Prop := (AmP a ∧ AmP b ∧ PV v' a b ∧ k = 0) ∨ (¬ (AmP a ∧ AmP b) ∧ v' = .complex .f64 0 0 ∧ k = 5)
theorem move0_any {v : Value} {a b : Int} (n : Int) (h : PV v a b) (hn : AmP n) (w : World) :
    ∃ v' k, MoveV v' k (a + n) b ∧ Calls Try.prog 18 #[v, .int .i64 0, .int .i64 n] w fun e w' => e = .returned (.tuple #[v', .int .i64 k]) ∧ w = w' := by
  obtain ⟨x, y, rfl, hx, hy⟩ := h
  have s1 := isSide_any 0
  rw [decide_eq_true (by omega)] at s1
  have p1 := isPair_yes hx hy
  have o1 := of_ok (a := n) (b := 0) hn am0
  have f1 := int_word hn
  have f2 := int_word am0
  obtain ⟨re, im, hs, v1, v2⟩ := sum_pv hx hy f1 f2
  rw [Int.add_zero] at v2
  have c1 := fun w => run_complex_sum (P := Try.prog) w .add (Or.inl rfl) 24 .f64 x y _ _ re im hs
  have p2 := isPair_dec v1 v2
  generalize floatOfInt .f64 n = fx at *
  generalize floatOfInt .f64 0 = fy at *
  by_cases hz : AmP (a + n) ∧ AmP b
  · refine ⟨.complex .f64 re im, 0, Or.inl ⟨hz.1, hz.2, ⟨re, im, rfl, ⟨v1, hz.1⟩, ⟨v2, hz.2⟩⟩, rfl⟩, ?_⟩
    rw [decide_eq_true hz] at p2
    clear hx hy hn f1 f2 hs v1 v2 hz
    go_enter Try.func18, Try.ntmps18
    go_wp2_with fail
    refine (s1 _).mono ?_
    rintro e w' ⟨rfl, rfl⟩
    go_wp2_with fail
    refine (p1 _).mono ?_
    rintro e w' ⟨rfl, rfl⟩
    go_wp2_with fail
    refine (o1 _).mono ?_
    rintro e w' ⟨rfl, rfl⟩
    go_wp2_with fail
    refine (p2 _).mono ?_
    rintro e w' ⟨rfl, rfl⟩
    go_wp2_with fail
    go_ret2
    exact ⟨rfl, rfl⟩
  · refine ⟨.complex .f64 0 0, 5, Or.inr ⟨hz, rfl, rfl⟩, ?_⟩
    rw [decide_eq_false hz] at p2
    clear hx hy hn f1 f2 hs v1 v2 hz
    go_enter Try.func18, Try.ntmps18
    go_wp2_with fail
    refine (s1 _).mono ?_
    rintro e w' ⟨rfl, rfl⟩
    go_wp2_with fail
    refine (p1 _).mono ?_
    rintro e w' ⟨rfl, rfl⟩
    go_wp2_with fail
    refine (o1 _).mono ?_
    rintro e w' ⟨rfl, rfl⟩
    go_wp2_with fail
    refine (p2 _).mono ?_
    rintro e w' ⟨rfl, rfl⟩
    go_wp2_with fail
    go_ret2
    exact ⟨rfl, rfl⟩
theorem move1_any {v : Value} {a b : Int} (n : Int) (h : PV v a b) (hn : AmP n) (w : World) :
    ∃ v' k, MoveV v' k a (b + n) ∧ Calls Try.prog 18 #[v, .int .i64 1, .int .i64 n] w fun e w' => e = .returned (.tuple #[v', .int .i64 k]) ∧ w = w' := by
  obtain ⟨x, y, rfl, hx, hy⟩ := h
  have s1 := isSide_any 1
  rw [decide_eq_true (by omega)] at s1
  have p1 := isPair_yes hx hy
  have o1 := of_ok (a := n) (b := 0) hn am0
  have o2 := of_ok (a := 0) (b := n) am0 hn
  have f1 := int_word hn
  have f2 := int_word am0
  obtain ⟨re, im, hs, v1, v2⟩ := sum_pv hx hy f2 f1
  rw [Int.add_zero] at v1
  have c1 := fun w => run_complex_sum (P := Try.prog) w .add (Or.inl rfl) 24 .f64 x y _ _ re im hs
  have p2 := isPair_dec v1 v2
  generalize floatOfInt .f64 n = fx at *
  generalize floatOfInt .f64 0 = fy at *
  by_cases hz : AmP a ∧ AmP (b + n)
  · refine ⟨.complex .f64 re im, 0, Or.inl ⟨hz.1, hz.2, ⟨re, im, rfl, ⟨v1, hz.1⟩, ⟨v2, hz.2⟩⟩, rfl⟩, ?_⟩
    rw [decide_eq_true hz] at p2
    clear hx hy hn f1 f2 hs v1 v2 hz
    go_enter Try.func18, Try.ntmps18
    go_wp2_with fail
    refine (s1 _).mono ?_
    rintro e w' ⟨rfl, rfl⟩
    go_wp2_with fail
    refine (p1 _).mono ?_
    rintro e w' ⟨rfl, rfl⟩
    go_wp2_with fail
    refine (o1 _).mono ?_
    rintro e w' ⟨rfl, rfl⟩
    go_wp2_with fail
    refine (o2 _).mono ?_
    rintro e w' ⟨rfl, rfl⟩
    go_wp2_with fail
    refine (p2 _).mono ?_
    rintro e w' ⟨rfl, rfl⟩
    go_wp2_with fail
    go_ret2
    exact ⟨rfl, rfl⟩
  · refine ⟨.complex .f64 0 0, 5, Or.inr ⟨hz, rfl, rfl⟩, ?_⟩
    rw [decide_eq_false hz] at p2
    clear hx hy hn f1 f2 hs v1 v2 hz
    go_enter Try.func18, Try.ntmps18
    go_wp2_with fail
    refine (s1 _).mono ?_
    rintro e w' ⟨rfl, rfl⟩
    go_wp2_with fail
    refine (p1 _).mono ?_
    rintro e w' ⟨rfl, rfl⟩
    go_wp2_with fail
    refine (o1 _).mono ?_
    rintro e w' ⟨rfl, rfl⟩
    go_wp2_with fail
    refine (o2 _).mono ?_
    rintro e w' ⟨rfl, rfl⟩
    go_wp2_with fail
    refine (p2 _).mono ?_
    rintro e w' ⟨rfl, rfl⟩
    go_wp2_with fail
    go_ret2
    exact ⟨rfl, rfl⟩
end Go.Proofs.Ytfgifdgbhikegaa
