/- Layer 6: the walk of the law on a pair's parts. -/
import Derived.Test.YtgjnmjakpiceiabPai7
namespace Go.Proofs.Ytgjnmjakpiceiab
open Go.RowKit

theorem order00 : FloatKind.f64.format.order 0 0 = some .eq := by decide
set_option maxHeartbeats 1000000 in
theorem parts_no (a b s : Int) (hab : ¬ (AmP a ∧ AmP b)) (h1 : -9223372036854775808 ≤ a) (h2 : a ≤ 9223372036854775807) (k1 : -9223372036854775808 ≤ b) (k2 : b ≤ 9223372036854775807) (w : World) :
    Calls Try.prog 6 #[.int .i64 a, .int .i64 b, .int .i64 s] w (B6 w true) := by
  have o1 := of_no hab h1 h2 k1 k2
  have z := order00
  have r1 := right_any a b
  rw [decide_eq_false hab] at r1
  have Hx := hide (boxed w a b)
  clear hab h1 h2 k1 k2
  go_enter Try.func6, Try.ntmps6
  go_wp2_with fail
  refine (o1 _).mono ?_
  rintro e w' ⟨rfl, rfl⟩
  go_wp2_with fail
  refine (r1 _).mono ?_
  rintro e w1 ⟨rfl, hb1⟩
  have Hb1 := hide hb1
  clear hb1
  go_wp2_with fail
  refine (alive6 _).mono ?_
  rintro e w2 ⟨rfl, hb2⟩
  have Hb2 := hide hb2
  clear hb2
  go_wp2_with fail
  go_ret
  exact ⟨rfl, below_of (below_of Hx.out Hb1.out) Hb2.out⟩
set_option maxHeartbeats 1000000 in
theorem parts_ok (a b s : Int) (ha : AmP a) (hb : AmP b) (w : World) :
    Calls Try.prog 6 #[.int .i64 a, .int .i64 b, .int .i64 s] w (B6 w true) := by
  have o1 := of_ok ha hb
  have p := pv_of ha hb
  have sd := side_any s p
  have rs := rside_any s ha hb
  have iy := is_yes p
  have r1 := right_any a b
  rw [decide_eq_true (show AmP a ∧ AmP b from ⟨ha, hb⟩)] at r1
  have Hx := hide (boxed w a b)
  have hh := heap_alloc_new w (.cells #[.int .i64 a, .int .i64 b] 54)
  have hsz : w.heap.size < (w.alloc (.cells #[.int .i64 a, .int .i64 b] 54)).heap.size := by simp
  have Hh := hide hh
  have Hsz := hide hsz
  clear ha hb p hh hsz
  generalize floatOfInt .f64 a = x at *
  generalize floatOfInt .f64 b = y at *
  generalize sideN a b s = sn at *
  generalize sideE s = se at *
  go_enter Try.func6, Try.ntmps6
  go_wp2_with fail
  refine (o1 _).mono ?_
  rintro e w' ⟨rfl, rfl⟩
  go_wp2_with fail
  refine (r1 _).mono ?_
  rintro e w1 ⟨rfl, hb1⟩
  have g1 := (hb1.block _ Hsz.out).trans Hh.out
  have c0 := cell_of_row w1 _ 0 _ _ _ g1
  have c1 := cell_of_row w1 _ 1 _ _ _ g1
  simp at c0 c1
  have s1 := Nat.lt_of_lt_of_le Hsz.out hb1.size
  have Hb1 := hide hb1
  have G1 := hide g1
  have S1 := hide s1
  clear hb1 g1 s1
  go_wp2_with fail
  refine (sd _).mono ?_
  rintro e w' ⟨rfl, rfl⟩
  go_wp2_with fail
  refine (rs _).mono ?_
  rintro e w2 ⟨rfl, hb2⟩
  have g2 := (hb2.block _ S1.out).trans G1.out
  have d0 := cell_of_row w2 _ 0 _ _ _ g2
  have d1 := cell_of_row w2 _ 1 _ _ _ g2
  simp at d0 d1
  have Hb2 := hide hb2
  clear hb2 g2
  go_wp2_with fail
  refine (iy _).mono ?_
  rintro e w3 ⟨rfl, hb3⟩
  have Hb3 := hide hb3
  clear hb3
  go_wp2_with fail
  refine (alive6 _).mono ?_
  rintro e w4 ⟨rfl, hb4⟩
  have Hb4 := hide hb4
  clear hb4
  go_wp2_with fail
  go_ret
  exact ⟨rfl, below_of (below_of (below_of (below_of Hx.out Hb1.out) Hb2.out) Hb3.out) Hb4.out⟩
theorem wf64 {n : Int} (h : (Lit.int .i64 n).wf = true) : -9223372036854775808 ≤ n ∧ n ≤ 9223372036854775807 := by simpa [Lit.wf, IntKind.min, IntKind.max, IntKind.bits, IntKind.signed] using h
theorem parts_walk (a b s : Int) (h1 : -9223372036854775808 ≤ a) (h2 : a ≤ 9223372036854775807) (k1 : -9223372036854775808 ≤ b) (k2 : b ≤ 9223372036854775807) (w : World) :
    Calls Try.prog 6 #[.int .i64 a, .int .i64 b, .int .i64 s] w (B6 w true) := by
  by_cases h : AmP a ∧ AmP b
  · exact parts_ok a b s h.1 h.2 w
  · exact parts_no a b s h h1 h2 k1 k2 w
end Go.Proofs.Ytgjnmjakpiceiab
