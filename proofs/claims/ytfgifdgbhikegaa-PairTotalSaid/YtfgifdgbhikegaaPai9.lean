/- Layer 6: the reference's Move. -/
import Derived.Test.YtfgifdgbhikegaaPai8
import Derived.Laws.ResultCell
namespace Go.Proofs.Ytfgifdgbhikegaa
open Go.RowKit

theorem boxed2 (w : World) (a b c d : Int) : Below w.heap.size w ((w.alloc (.cells #[.int .i64 a, .int .i64 b] 29)).alloc (.cells #[.int .i64 c, .int .i64 d] 29)) :=
  ((Below.refl _ _).alloc (Nat.le_refl _) _).alloc (by simp) _
set_option maxHeartbeats 400000 in
theorem rmove_bad {a b : Int} (s n : Int) (h : ¬ (s = 0 ∨ s = 1)) (ha : AmP a) (hb : AmP b) (w : World) : Calls Try.prog 19 #[.agg #[.int .i64 a, .int .i64 b], .int .i64 s, .int .i64 n] w fun e w' =>
    e = .returned (.tuple #[.agg #[.int .i64 0, .int .i64 0], .int .i64 1]) ∧ Below w.heap.size w w' := by
  have r1 := rside_any s ha hb
  have e1 : sideE s = 1 := by unfold sideE; rw [if_neg (by omega), if_neg (by omega)]
  have e2 : sideN a b s = 0 := by unfold sideN; rw [if_neg (by omega), if_neg (by omega)]
  rw [e1, e2] at r1
  have Hx := hide (boxed2 w a b 0 0)
  have hh : ((w.alloc (.cells #[.int .i64 a, .int .i64 b] 29)).alloc (.cells #[.int .i64 0, .int .i64 0] 29)).heap[w.heap.size + 1]? = some (.cells #[.int .i64 0, .int .i64 0] 29) := by
    have := heap_alloc_new (w.alloc (.cells #[.int .i64 a, .int .i64 b] 29)) (.cells #[.int .i64 0, .int .i64 0] 29)
    simpa using this
  have hsz : w.heap.size + 1 < ((w.alloc (.cells #[.int .i64 a, .int .i64 b] 29)).alloc (.cells #[.int .i64 0, .int .i64 0] 29)).heap.size := by simp
  have Hh := hide hh
  have Hsz := hide hsz
  clear hh hsz
  clear h ha hb e1 e2
  go_enter Try.func19, Try.ntmps19
  go_wp2_with fail
  refine (r1 _).mono ?_
  rintro e w1 ⟨rfl, hb1⟩
  have g1 := (hb1.block _ Hsz.out).trans Hh.out
  have c0 := cell_of_row w1 _ 0 _ _ _ g1
  have c1 := cell_of_row w1 _ 1 _ _ _ g1
  have f0 := frozen_of_row w1 _ 0 _ _ g1
  have f1 := frozen_of_row w1 _ 1 _ _ g1
  simp at c0 c1
  have Hb1 := hide hb1
  have G1 := hide g1
  clear hb1 g1
  go_wp2_with fail
  (try simp only [Exit.inBlock, Exit.then])
  refine bodyPost_ret (v := .tuple #[.agg #[.int .i64 0, .int .i64 0], .int .i64 1]) ?_ rfl ⟨rfl, ?_⟩
  · rw [results_cell_tmp rfl]
    go_simp
  · exact ((below_of Hx.out Hb1.out).setCell (by simp) _).setCell (by simp) _
set_option maxHeartbeats 400000 in
theorem rmove_far0 {a b : Int} (n : Int) (hn : ¬ AmP n) (ha : AmP a) (hb : AmP b) (w : World) : Calls Try.prog 19 #[.agg #[.int .i64 a, .int .i64 b], .int .i64 0, .int .i64 n] w fun e w' =>
    e = .returned (.tuple #[.agg #[.int .i64 0, .int .i64 0], .int .i64 5]) ∧ Below w.heap.size w w' := by
  have r1 := rside_any 0 ha hb
  rw [show sideN a b 0 = a from rfl, show sideE 0 = 0 from rfl] at r1
  have m1 := amount_any n
  rw [decide_eq_false hn] at m1
  clear hn ha hb
  have Hx := hide (boxed2 w a b 0 0)
  have hh : ((w.alloc (.cells #[.int .i64 a, .int .i64 b] 29)).alloc (.cells #[.int .i64 0, .int .i64 0] 29)).heap[w.heap.size + 1]? = some (.cells #[.int .i64 0, .int .i64 0] 29) := by
    have := heap_alloc_new (w.alloc (.cells #[.int .i64 a, .int .i64 b] 29)) (.cells #[.int .i64 0, .int .i64 0] 29)
    simpa using this
  have hsz : w.heap.size + 1 < ((w.alloc (.cells #[.int .i64 a, .int .i64 b] 29)).alloc (.cells #[.int .i64 0, .int .i64 0] 29)).heap.size := by simp
  have h0' : ((w.alloc (.cells #[.int .i64 a, .int .i64 b] 29)).alloc (.cells #[.int .i64 0, .int .i64 0] 29)).heap[w.heap.size]? = some (.cells #[.int .i64 a, .int .i64 b] 29) := (((Below.refl _ _).alloc (Nat.le_refl _) _ : Below (w.alloc (.cells #[.int .i64 a, .int .i64 b] 29)).heap.size _ _).block _ (by simp)).trans (heap_alloc_new w _)
  have H0 := hide h0'
  clear h0'
  have Hh := hide hh
  have Hsz := hide hsz
  clear hh hsz
  go_enter Try.func19, Try.ntmps19
  go_wp2_with fail
  refine (r1 _).mono ?_
  rintro e w1 ⟨rfl, hb1⟩
  have g1 := (hb1.block _ Hsz.out).trans Hh.out
  have c0 := cell_of_row w1 _ 0 _ _ _ g1
  have c1 := cell_of_row w1 _ 1 _ _ _ g1
  have f0 := frozen_of_row w1 _ 0 _ _ g1
  have f1 := frozen_of_row w1 _ 1 _ _ g1
  have g2 := (hb1.block _ (Nat.lt_of_succ_lt Hsz.out)).trans H0.out
  have d0 := cell_of_row w1 _ 0 _ _ _ g2
  have d1 := cell_of_row w1 _ 1 _ _ _ g2
  simp at c0 c1 d0 d1
  have Hb1 := hide hb1
  clear hb1 g1 g2
  go_wp2_with fail
  refine (m1 _).mono ?_
  rintro e w' ⟨rfl, rfl⟩
  go_wp2_with fail
  (try simp only [Exit.inBlock, Exit.then])
  refine bodyPost_ret (v := .tuple #[.agg #[.int .i64 0, .int .i64 0], .int .i64 5]) ?_ rfl ⟨rfl, ?_⟩
  · rw [results_cell_tmp rfl]
    go_simp
  · exact ((below_of Hx.out Hb1.out).setCell (by simp) _).setCell (by simp) _
set_option maxHeartbeats 400000 in
theorem rmove_over0 {a b : Int} (n : Int) (hn : AmP n) (hs : ¬ AmP (a + n)) (ha : AmP a) (hb : AmP b) (w : World) : Calls Try.prog 19 #[.agg #[.int .i64 a, .int .i64 b], .int .i64 0, .int .i64 n] w fun e w' =>
    e = .returned (.tuple #[.agg #[.int .i64 0, .int .i64 0], .int .i64 5]) ∧ Below w.heap.size w w' := by
  have r1 := rside_any 0 ha hb
  rw [show sideN a b 0 = a from rfl, show sideE 0 = 0 from rfl] at r1
  have m1 := amount_any n
  have m2 := amount_any (a + n)
  have hw : IntKind.i64.wrap (a + n) = a + n := IntWalk.i64_in _ (by unfold AmP at ha hb hn; omega)
  rw [decide_eq_true hn] at m1
  rw [decide_eq_false hs] at m2
  clear hn hs ha hb
  have Hx := hide (boxed2 w a b 0 0)
  have hh : ((w.alloc (.cells #[.int .i64 a, .int .i64 b] 29)).alloc (.cells #[.int .i64 0, .int .i64 0] 29)).heap[w.heap.size + 1]? = some (.cells #[.int .i64 0, .int .i64 0] 29) := by
    have := heap_alloc_new (w.alloc (.cells #[.int .i64 a, .int .i64 b] 29)) (.cells #[.int .i64 0, .int .i64 0] 29)
    simpa using this
  have hsz : w.heap.size + 1 < ((w.alloc (.cells #[.int .i64 a, .int .i64 b] 29)).alloc (.cells #[.int .i64 0, .int .i64 0] 29)).heap.size := by simp
  have h0' : ((w.alloc (.cells #[.int .i64 a, .int .i64 b] 29)).alloc (.cells #[.int .i64 0, .int .i64 0] 29)).heap[w.heap.size]? = some (.cells #[.int .i64 a, .int .i64 b] 29) := (((Below.refl _ _).alloc (Nat.le_refl _) _ : Below (w.alloc (.cells #[.int .i64 a, .int .i64 b] 29)).heap.size _ _).block _ (by simp)).trans (heap_alloc_new w _)
  have H0 := hide h0'
  clear h0'
  have Hh := hide hh
  have Hsz := hide hsz
  clear hh hsz
  go_enter Try.func19, Try.ntmps19
  go_wp2_with fail
  refine (r1 _).mono ?_
  rintro e w1 ⟨rfl, hb1⟩
  have g1 := (hb1.block _ Hsz.out).trans Hh.out
  have c0 := cell_of_row w1 _ 0 _ _ _ g1
  have c1 := cell_of_row w1 _ 1 _ _ _ g1
  have f0 := frozen_of_row w1 _ 0 _ _ g1
  have f1 := frozen_of_row w1 _ 1 _ _ g1
  have g2 := (hb1.block _ (Nat.lt_of_succ_lt Hsz.out)).trans H0.out
  have d0 := cell_of_row w1 _ 0 _ _ _ g2
  have d1 := cell_of_row w1 _ 1 _ _ _ g2
  simp at c0 c1 d0 d1
  have Hb1 := hide hb1
  clear hb1 g1 g2
  go_wp2_with fail
  refine (m1 _).mono ?_
  rintro e w' ⟨rfl, rfl⟩
  go_wp2_with fail
  refine (m2 _).mono ?_
  rintro e w' ⟨rfl, rfl⟩
  go_wp2_with fail
  (try simp only [Exit.inBlock, Exit.then])
  refine bodyPost_ret (v := .tuple #[.agg #[.int .i64 0, .int .i64 0], .int .i64 5]) ?_ rfl ⟨rfl, ?_⟩
  · rw [results_cell_tmp rfl]
    go_simp
  · exact ((below_of Hx.out Hb1.out).setCell (by simp) _).setCell (by simp) _
set_option maxHeartbeats 400000 in
theorem rmove_ok0 {a b : Int} (n : Int) (hn : AmP n) (hs : AmP (a + n)) (ha : AmP a) (hb : AmP b) (w : World) : Calls Try.prog 19 #[.agg #[.int .i64 a, .int .i64 b], .int .i64 0, .int .i64 n] w fun e w' =>
    e = .returned (.tuple #[.agg #[.int .i64 (a + n), .int .i64 b], .int .i64 0]) ∧ Below w.heap.size w w' := by
  have r1 := rside_any 0 ha hb
  rw [show sideN a b 0 = a from rfl, show sideE 0 = 0 from rfl] at r1
  have m1 := amount_any n
  have m2 := amount_any (a + n)
  have hw : IntKind.i64.wrap (a + n) = a + n := IntWalk.i64_in _ (by unfold AmP at ha hb hn; omega)
  rw [decide_eq_true hn] at m1
  rw [decide_eq_true hs] at m2
  clear hn hs ha hb
  have Hx := hide (boxed2 w a b 0 0)
  have hh : ((w.alloc (.cells #[.int .i64 a, .int .i64 b] 29)).alloc (.cells #[.int .i64 0, .int .i64 0] 29)).heap[w.heap.size + 1]? = some (.cells #[.int .i64 0, .int .i64 0] 29) := by
    have := heap_alloc_new (w.alloc (.cells #[.int .i64 a, .int .i64 b] 29)) (.cells #[.int .i64 0, .int .i64 0] 29)
    simpa using this
  have hsz : w.heap.size + 1 < ((w.alloc (.cells #[.int .i64 a, .int .i64 b] 29)).alloc (.cells #[.int .i64 0, .int .i64 0] 29)).heap.size := by simp
  have h0' : ((w.alloc (.cells #[.int .i64 a, .int .i64 b] 29)).alloc (.cells #[.int .i64 0, .int .i64 0] 29)).heap[w.heap.size]? = some (.cells #[.int .i64 a, .int .i64 b] 29) := (((Below.refl _ _).alloc (Nat.le_refl _) _ : Below (w.alloc (.cells #[.int .i64 a, .int .i64 b] 29)).heap.size _ _).block _ (by simp)).trans (heap_alloc_new w _)
  have H0 := hide h0'
  clear h0'
  have Hh := hide hh
  have Hsz := hide hsz
  clear hh hsz
  go_enter Try.func19, Try.ntmps19
  go_wp2_with fail
  refine (r1 _).mono ?_
  rintro e w1 ⟨rfl, hb1⟩
  have g1 := (hb1.block _ Hsz.out).trans Hh.out
  have c0 := cell_of_row w1 _ 0 _ _ _ g1
  have c1 := cell_of_row w1 _ 1 _ _ _ g1
  have f0 := frozen_of_row w1 _ 0 _ _ g1
  have f1 := frozen_of_row w1 _ 1 _ _ g1
  have g2 := (hb1.block _ (Nat.lt_of_succ_lt Hsz.out)).trans H0.out
  have d0 := cell_of_row w1 _ 0 _ _ _ g2
  have d1 := cell_of_row w1 _ 1 _ _ _ g2
  simp at c0 c1 d0 d1
  have Hb1 := hide hb1
  clear hb1 g1 g2
  go_wp2_with fail
  refine (m1 _).mono ?_
  rintro e w' ⟨rfl, rfl⟩
  go_wp2_with fail
  refine (m2 _).mono ?_
  rintro e w' ⟨rfl, rfl⟩
  go_wp2_with fail
  (try simp only [Exit.inBlock, Exit.then])
  refine bodyPost_ret (v := .tuple #[.agg #[.int .i64 (a + n), .int .i64 b], .int .i64 0]) ?_ rfl ⟨rfl, ?_⟩
  · rw [results_cell_tmp rfl]
    go_simp
  · exact ((below_of Hx.out Hb1.out).setCell (by simp) _).setCell (by simp) _
set_option maxHeartbeats 400000 in
theorem rmove_far1 {a b : Int} (n : Int) (hn : ¬ AmP n) (ha : AmP a) (hb : AmP b) (w : World) : Calls Try.prog 19 #[.agg #[.int .i64 a, .int .i64 b], .int .i64 1, .int .i64 n] w fun e w' =>
    e = .returned (.tuple #[.agg #[.int .i64 0, .int .i64 0], .int .i64 5]) ∧ Below w.heap.size w w' := by
  have r1 := rside_any 1 ha hb
  rw [show sideN a b 1 = b from rfl, show sideE 1 = 0 from rfl] at r1
  have m1 := amount_any n
  rw [decide_eq_false hn] at m1
  clear hn ha hb
  have Hx := hide (boxed2 w a b 0 0)
  have hh : ((w.alloc (.cells #[.int .i64 a, .int .i64 b] 29)).alloc (.cells #[.int .i64 0, .int .i64 0] 29)).heap[w.heap.size + 1]? = some (.cells #[.int .i64 0, .int .i64 0] 29) := by
    have := heap_alloc_new (w.alloc (.cells #[.int .i64 a, .int .i64 b] 29)) (.cells #[.int .i64 0, .int .i64 0] 29)
    simpa using this
  have hsz : w.heap.size + 1 < ((w.alloc (.cells #[.int .i64 a, .int .i64 b] 29)).alloc (.cells #[.int .i64 0, .int .i64 0] 29)).heap.size := by simp
  have h0' : ((w.alloc (.cells #[.int .i64 a, .int .i64 b] 29)).alloc (.cells #[.int .i64 0, .int .i64 0] 29)).heap[w.heap.size]? = some (.cells #[.int .i64 a, .int .i64 b] 29) := (((Below.refl _ _).alloc (Nat.le_refl _) _ : Below (w.alloc (.cells #[.int .i64 a, .int .i64 b] 29)).heap.size _ _).block _ (by simp)).trans (heap_alloc_new w _)
  have H0 := hide h0'
  clear h0'
  have Hh := hide hh
  have Hsz := hide hsz
  clear hh hsz
  go_enter Try.func19, Try.ntmps19
  go_wp2_with fail
  refine (r1 _).mono ?_
  rintro e w1 ⟨rfl, hb1⟩
  have g1 := (hb1.block _ Hsz.out).trans Hh.out
  have c0 := cell_of_row w1 _ 0 _ _ _ g1
  have c1 := cell_of_row w1 _ 1 _ _ _ g1
  have f0 := frozen_of_row w1 _ 0 _ _ g1
  have f1 := frozen_of_row w1 _ 1 _ _ g1
  have g2 := (hb1.block _ (Nat.lt_of_succ_lt Hsz.out)).trans H0.out
  have d0 := cell_of_row w1 _ 0 _ _ _ g2
  have d1 := cell_of_row w1 _ 1 _ _ _ g2
  simp at c0 c1 d0 d1
  have Hb1 := hide hb1
  clear hb1 g1 g2
  go_wp2_with fail
  refine (m1 _).mono ?_
  rintro e w' ⟨rfl, rfl⟩
  go_wp2_with fail
  (try simp only [Exit.inBlock, Exit.then])
  refine bodyPost_ret (v := .tuple #[.agg #[.int .i64 0, .int .i64 0], .int .i64 5]) ?_ rfl ⟨rfl, ?_⟩
  · rw [results_cell_tmp rfl]
    go_simp
  · exact ((below_of Hx.out Hb1.out).setCell (by simp) _).setCell (by simp) _
set_option maxHeartbeats 400000 in
theorem rmove_over1 {a b : Int} (n : Int) (hn : AmP n) (hs : ¬ AmP (b + n)) (ha : AmP a) (hb : AmP b) (w : World) : Calls Try.prog 19 #[.agg #[.int .i64 a, .int .i64 b], .int .i64 1, .int .i64 n] w fun e w' =>
    e = .returned (.tuple #[.agg #[.int .i64 0, .int .i64 0], .int .i64 5]) ∧ Below w.heap.size w w' := by
  have r1 := rside_any 1 ha hb
  rw [show sideN a b 1 = b from rfl, show sideE 1 = 0 from rfl] at r1
  have m1 := amount_any n
  have m2 := amount_any (b + n)
  have hw : IntKind.i64.wrap (b + n) = b + n := IntWalk.i64_in _ (by unfold AmP at ha hb hn; omega)
  rw [decide_eq_true hn] at m1
  rw [decide_eq_false hs] at m2
  clear hn hs ha hb
  have Hx := hide (boxed2 w a b 0 0)
  have hh : ((w.alloc (.cells #[.int .i64 a, .int .i64 b] 29)).alloc (.cells #[.int .i64 0, .int .i64 0] 29)).heap[w.heap.size + 1]? = some (.cells #[.int .i64 0, .int .i64 0] 29) := by
    have := heap_alloc_new (w.alloc (.cells #[.int .i64 a, .int .i64 b] 29)) (.cells #[.int .i64 0, .int .i64 0] 29)
    simpa using this
  have hsz : w.heap.size + 1 < ((w.alloc (.cells #[.int .i64 a, .int .i64 b] 29)).alloc (.cells #[.int .i64 0, .int .i64 0] 29)).heap.size := by simp
  have h0' : ((w.alloc (.cells #[.int .i64 a, .int .i64 b] 29)).alloc (.cells #[.int .i64 0, .int .i64 0] 29)).heap[w.heap.size]? = some (.cells #[.int .i64 a, .int .i64 b] 29) := (((Below.refl _ _).alloc (Nat.le_refl _) _ : Below (w.alloc (.cells #[.int .i64 a, .int .i64 b] 29)).heap.size _ _).block _ (by simp)).trans (heap_alloc_new w _)
  have H0 := hide h0'
  clear h0'
  have Hh := hide hh
  have Hsz := hide hsz
  clear hh hsz
  go_enter Try.func19, Try.ntmps19
  go_wp2_with fail
  refine (r1 _).mono ?_
  rintro e w1 ⟨rfl, hb1⟩
  have g1 := (hb1.block _ Hsz.out).trans Hh.out
  have c0 := cell_of_row w1 _ 0 _ _ _ g1
  have c1 := cell_of_row w1 _ 1 _ _ _ g1
  have f0 := frozen_of_row w1 _ 0 _ _ g1
  have f1 := frozen_of_row w1 _ 1 _ _ g1
  have g2 := (hb1.block _ (Nat.lt_of_succ_lt Hsz.out)).trans H0.out
  have d0 := cell_of_row w1 _ 0 _ _ _ g2
  have d1 := cell_of_row w1 _ 1 _ _ _ g2
  simp at c0 c1 d0 d1
  have Hb1 := hide hb1
  clear hb1 g1 g2
  go_wp2_with fail
  refine (m1 _).mono ?_
  rintro e w' ⟨rfl, rfl⟩
  go_wp2_with fail
  refine (m2 _).mono ?_
  rintro e w' ⟨rfl, rfl⟩
  go_wp2_with fail
  (try simp only [Exit.inBlock, Exit.then])
  refine bodyPost_ret (v := .tuple #[.agg #[.int .i64 0, .int .i64 0], .int .i64 5]) ?_ rfl ⟨rfl, ?_⟩
  · rw [results_cell_tmp rfl]
    go_simp
  · exact ((below_of Hx.out Hb1.out).setCell (by simp) _).setCell (by simp) _
set_option maxHeartbeats 400000 in
theorem rmove_ok1 {a b : Int} (n : Int) (hn : AmP n) (hs : AmP (b + n)) (ha : AmP a) (hb : AmP b) (w : World) : Calls Try.prog 19 #[.agg #[.int .i64 a, .int .i64 b], .int .i64 1, .int .i64 n] w fun e w' =>
    e = .returned (.tuple #[.agg #[.int .i64 a, .int .i64 (b + n)], .int .i64 0]) ∧ Below w.heap.size w w' := by
  have r1 := rside_any 1 ha hb
  rw [show sideN a b 1 = b from rfl, show sideE 1 = 0 from rfl] at r1
  have m1 := amount_any n
  have m2 := amount_any (b + n)
  have hw : IntKind.i64.wrap (b + n) = b + n := IntWalk.i64_in _ (by unfold AmP at ha hb hn; omega)
  rw [decide_eq_true hn] at m1
  rw [decide_eq_true hs] at m2
  clear hn hs ha hb
  have Hx := hide (boxed2 w a b 0 0)
  have hh : ((w.alloc (.cells #[.int .i64 a, .int .i64 b] 29)).alloc (.cells #[.int .i64 0, .int .i64 0] 29)).heap[w.heap.size + 1]? = some (.cells #[.int .i64 0, .int .i64 0] 29) := by
    have := heap_alloc_new (w.alloc (.cells #[.int .i64 a, .int .i64 b] 29)) (.cells #[.int .i64 0, .int .i64 0] 29)
    simpa using this
  have hsz : w.heap.size + 1 < ((w.alloc (.cells #[.int .i64 a, .int .i64 b] 29)).alloc (.cells #[.int .i64 0, .int .i64 0] 29)).heap.size := by simp
  have h0' : ((w.alloc (.cells #[.int .i64 a, .int .i64 b] 29)).alloc (.cells #[.int .i64 0, .int .i64 0] 29)).heap[w.heap.size]? = some (.cells #[.int .i64 a, .int .i64 b] 29) := (((Below.refl _ _).alloc (Nat.le_refl _) _ : Below (w.alloc (.cells #[.int .i64 a, .int .i64 b] 29)).heap.size _ _).block _ (by simp)).trans (heap_alloc_new w _)
  have H0 := hide h0'
  clear h0'
  have Hh := hide hh
  have Hsz := hide hsz
  clear hh hsz
  go_enter Try.func19, Try.ntmps19
  go_wp2_with fail
  refine (r1 _).mono ?_
  rintro e w1 ⟨rfl, hb1⟩
  have g1 := (hb1.block _ Hsz.out).trans Hh.out
  have c0 := cell_of_row w1 _ 0 _ _ _ g1
  have c1 := cell_of_row w1 _ 1 _ _ _ g1
  have f0 := frozen_of_row w1 _ 0 _ _ g1
  have f1 := frozen_of_row w1 _ 1 _ _ g1
  have g2 := (hb1.block _ (Nat.lt_of_succ_lt Hsz.out)).trans H0.out
  have d0 := cell_of_row w1 _ 0 _ _ _ g2
  have d1 := cell_of_row w1 _ 1 _ _ _ g2
  simp at c0 c1 d0 d1
  have Hb1 := hide hb1
  clear hb1 g1 g2
  go_wp2_with fail
  refine (m1 _).mono ?_
  rintro e w' ⟨rfl, rfl⟩
  go_wp2_with fail
  refine (m2 _).mono ?_
  rintro e w' ⟨rfl, rfl⟩
  go_wp2_with fail
  (try simp only [Exit.inBlock, Exit.then])
  refine bodyPost_ret (v := .tuple #[.agg #[.int .i64 a, .int .i64 (b + n)], .int .i64 0]) ?_ rfl ⟨rfl, ?_⟩
  · rw [results_cell_tmp rfl]
    go_simp
  · exact ((below_of Hx.out Hb1.out).setCell (by simp) _).setCell (by simp) _
end Go.Proofs.Ytfgifdgbhikegaa
