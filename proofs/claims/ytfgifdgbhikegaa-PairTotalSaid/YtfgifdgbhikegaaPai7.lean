/- The chapter's example of layer 6, the reference's side, and the walk of the law on a pair's parts. -/
import Derived.Test.YtfgifdgbhikegaaPai6
namespace Go.Proofs.Ytfgifdgbhikegaa
open Go.RowKit

theorem pv_of {a b : Int} (ha : AmP a) (hb : AmP b) : PV (.complex .f64 (floatOfInt .f64 a) (floatOfInt .f64 b)) a b := ⟨_, _, rfl, int_word ha, int_word hb⟩
theorem MoveV.ok {v : Value} {k a b : Int} (h : MoveV v k a b) (ha : AmP a) (hb : AmP b) : PV v a b ∧ k = 0 := by
  rcases h with ⟨_, _, h1, h2⟩ | ⟨h1, _⟩
  · exact ⟨h1, h2⟩
  · exact absurd ⟨ha, hb⟩ h1
theorem amN {a : Int} (h1 : -4503599627370496 ≤ a) (h2 : a ≤ 4503599627370496) : AmP a := ⟨h1, h2⟩
theorem below_of {w w1 w' : World} (h : Below w.heap.size w w1) (k : Below w1.heap.size w1 w') : Below w.heap.size w w' := h.trans (k.mono h.size)
theorem alive6 (w : World) : Calls Try.prog 15 #[] w (B6 w true) := by
  have a5 : AmP 5 := amN (by omega) (by omega)
  have am2 : AmP (-2) := amN (by omega) (by omega)
  have o1 := of_ok a5 am2 w
  obtain ⟨v, k, hm, m1⟩ := move1_any 3 (pv_of a5 am2) (amN (by omega) (by omega)) w
  obtain ⟨hp, rfl⟩ := hm.ok a5 (amN (by omega) (by omega))
  obtain ⟨v2, hp2, s1⟩ := swap_ok hp w
  have i1 := is_yes hp2 w
  rw [show (-2 : Int) + 3 = 1 from rfl] at i1
  generalize floatOfInt .f64 5 = x at *
  generalize floatOfInt .f64 (-2) = y at *
  clear a5 am2 hm hp hp2
  go_enter Try.func15, Try.ntmps15
  go_wp2_with fail
  refine o1.mono ?_
  rintro e w' ⟨rfl, rfl⟩
  go_wp2_with fail
  refine m1.mono ?_
  rintro e w' ⟨rfl, rfl⟩
  go_wp2_with fail
  refine s1.mono ?_
  rintro e w' ⟨rfl, rfl⟩
  go_wp2_with fail
  refine i1.mono ?_
  rintro e w' ⟨rfl, hb⟩
  go_wp2_with fail
  go_ret
  exact ⟨rfl, hb⟩

/-- What the reference's side answers. -/
def sideN (a b s : Int) : Int := if s = 0 then a else if s = 1 then b else 0
def sideE (s : Int) : Int := if s = 0 then 0 else if s = 1 then 0 else 1
theorem side_any {v : Value} {a b : Int} (s : Int) (h : PV v a b) (w : World) : Calls Try.prog 23 #[v, .int .i64 s] w fun e w' => e = .returned (.tuple #[.int .i64 (sideN a b s), .int .i64 (sideE s)]) ∧ w = w' := by
  unfold sideN sideE
  by_cases h0 : s = 0
  · subst h0
    exact side_0 h w
  · by_cases h1 : s = 1
    · subst h1
      exact side_1 h w
    · rw [if_neg h0, if_neg h1, if_neg h0, if_neg h1]
      exact side_bad v s (by omega) w
theorem rside_any {a b : Int} (s : Int) (ha : AmP a) (hb : AmP b) (w : World) : Calls Try.prog 58 #[.agg #[.int .i64 a, .int .i64 b], .int .i64 s] w fun e w' => e = .returned (.tuple #[.int .i64 (sideN a b s), .int .i64 (sideE s)]) ∧ Below w.heap.size w w' := by
  have r1 := right_any a b (w.alloc (.cells #[.int .i64 a, .int .i64 b] 29))
  rw [decide_eq_true (show AmP a ∧ AmP b from ⟨ha, hb⟩)] at r1
  clear ha hb
  have Hx := hide (boxed w a b)
  have hh := heap_alloc_new w (.cells #[.int .i64 a, .int .i64 b] 29)
  have hsz : w.heap.size < (w.alloc (.cells #[.int .i64 a, .int .i64 b] 29)).heap.size := by simp
  have Hh := hide hh
  have Hsz := hide hsz
  clear hh hsz
  unfold sideN sideE
  by_cases h0 : s = 0
  · subst h0
    go_enter Try.func58, Try.ntmps58
    go_wp2_with fail
    refine r1.mono ?_
    rintro e w' ⟨rfl, hbl⟩
    have h2 := (hbl.block _ Hsz.out).trans Hh.out
    have c0 := cell_of_row w' w.heap.size 0 _ _ _ h2
    simp at c0
    have Hbl := hide hbl
    clear hbl h2
    go_wp2_with fail
    go_ret2
    exact ⟨rfl, below_of Hx.out Hbl.out⟩
  · have d0 : (s == 0) = false := by simpa using h0
    by_cases h1 : s = 1
    · subst h1
      go_enter Try.func58, Try.ntmps58
      go_wp2_with fail
      refine r1.mono ?_
      rintro e w' ⟨rfl, hbl⟩
      have h2 := (hbl.block _ Hsz.out).trans Hh.out
      have c0 := cell_of_row w' w.heap.size 1 _ _ _ h2
      simp at c0
      have Hbl := hide hbl
      clear hbl h2
      go_wp2_with fail
      go_ret2
      exact ⟨rfl, below_of Hx.out Hbl.out⟩
    · have d1 : (s == 1) = false := by simpa using h1
      have e0 : (s != 0) = true := by simpa using h0
      have e1 : (s != 1) = true := by simpa using h1
      rw [if_neg h0, if_neg h1, if_neg h0, if_neg h1]
      clear h0 h1
      go_enter Try.func58, Try.ntmps58
      go_wp2_with fail
      go_ret2
      exact ⟨rfl, Hx.out⟩
end Go.Proofs.Ytfgifdgbhikegaa
