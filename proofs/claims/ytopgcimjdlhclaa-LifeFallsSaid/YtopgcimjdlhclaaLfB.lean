/- Layer 33: the reference's Ends; the example. -/
import Derived.Test.YtopgcimjdlhclaaLfA
namespace Go.Proofs.Ytopgcimjdlhclaa
open Go.RowKit

set_option maxRecDepth 100000 in
set_option maxHeartbeats 3200000 in
theorem rends_any (k o : Int) (x y : Bool) (b d : Int) (w : World) : Calls Try.prog 22 #[.agg (StL k o x y b), .int .i64 d] w fun e w' => e = .returned (.agg (enL ⟨k, o, x, y, b⟩ d).v) ∧ Below w.heap.size w w' := by
  by_cases hk : k = 3
  · subst hk
    cases hsd : sdB d with
    | false =>
      rw [enL_not (by simp [hsd])]
      have hs0 : d ≠ 0 ∧ d ≠ 1 := by unfold sdB at hsd; simpa using hsd
      have d0 : (d != 0) = true := by simpa using hs0.1
      have d1 : (d != 1) = true := by simpa using hs0.2
      clear hsd hs0
      unfold LSt.v StL at *
      simp only
      go_enter Try.func22, Try.ntmps22
      go_wp2_with fail
      refine bodyPost_ret (v := .agg #[.int .i64 3, .int .i64 o, .bool x, .bool y, .int .i64 b]) ?_ rfl ⟨rfl, ?_⟩
      · rw [results_cellL rfl]
        go_simp
      · go_grown
    | true =>
      have hd := sdB_or hsd
      clear hsd
      unfold enL LSt.v StL at *
      rcases hd with rfl | rfl <;> cases x <;> cases y
      · simp [sdB]
        go_enter Try.func22, Try.ntmps22
        go_wp2_with fail
        refine bodyPost_ret (v := .agg #[.int .i64 3, .int .i64 o, .bool true, .bool false, .int .i64 b]) ?_ rfl ⟨rfl, ?_⟩
        · rw [results_cellL rfl]
          go_simp
        · go_grown
      · simp [sdB]
        go_enter Try.func22, Try.ntmps22
        go_wp2_with fail
        refine bodyPost_ret (v := .agg #[.int .i64 4, .int .i64 o, .bool false, .bool false, .int .i64 2]) ?_ rfl ⟨rfl, ?_⟩
        · rw [results_cellL rfl]
          go_simp
        · go_grown
      · simp [sdB]
        go_enter Try.func22, Try.ntmps22
        go_wp2_with fail
        refine bodyPost_ret (v := .agg #[.int .i64 3, .int .i64 o, .bool true, .bool false, .int .i64 b]) ?_ rfl ⟨rfl, ?_⟩
        · rw [results_cellL rfl]
          go_simp
        · go_grown
      · simp [sdB]
        go_enter Try.func22, Try.ntmps22
        go_wp2_with fail
        refine bodyPost_ret (v := .agg #[.int .i64 4, .int .i64 o, .bool false, .bool false, .int .i64 2]) ?_ rfl ⟨rfl, ?_⟩
        · rw [results_cellL rfl]
          go_simp
        · go_grown
      · simp [sdB]
        go_enter Try.func22, Try.ntmps22
        go_wp2_with fail
        refine bodyPost_ret (v := .agg #[.int .i64 3, .int .i64 o, .bool false, .bool true, .int .i64 b]) ?_ rfl ⟨rfl, ?_⟩
        · rw [results_cellL rfl]
          go_simp
        · go_grown
      · simp [sdB]
        go_enter Try.func22, Try.ntmps22
        go_wp2_with fail
        refine bodyPost_ret (v := .agg #[.int .i64 3, .int .i64 o, .bool false, .bool true, .int .i64 b]) ?_ rfl ⟨rfl, ?_⟩
        · rw [results_cellL rfl]
          go_simp
        · go_grown
      · simp [sdB]
        go_enter Try.func22, Try.ntmps22
        go_wp2_with fail
        refine bodyPost_ret (v := .agg #[.int .i64 4, .int .i64 o, .bool false, .bool false, .int .i64 2]) ?_ rfl ⟨rfl, ?_⟩
        · rw [results_cellL rfl]
          go_simp
        · go_grown
      · simp [sdB]
        go_enter Try.func22, Try.ntmps22
        go_wp2_with fail
        refine bodyPost_ret (v := .agg #[.int .i64 4, .int .i64 o, .bool false, .bool false, .int .i64 2]) ?_ rfl ⟨rfl, ?_⟩
        · rw [results_cellL rfl]
          go_simp
        · go_grown
  · rw [enL_not (by simp [hk])]
    unfold LSt.v StL at *
    have d3 : (k != 3) = true := by simpa using hk
    clear hk
    simp only
    go_enter Try.func22, Try.ntmps22
    go_wp2_with fail
    refine bodyPost_ret (v := .agg #[.int .i64 k, .int .i64 o, .bool x, .bool y, .int .i64 b]) ?_ rfl ⟨rfl, ?_⟩
    · rw [results_cellL rfl]
      go_simp
    · go_grown
set_option maxRecDepth 100000 in
set_option maxHeartbeats 1600000 in
theorem alive33 (w : World) : Calls Try.prog 20 #[] w (Yes w) := by
  have a1 := fun W => ask_any 3 0 true false 0 0 1 false W
  have a2 := fun W => ask_any 3 0 true false 0 1 1 false W
  have q0 := eqArrS false false
  have a3 := fun W => ends_any 3 0 true false 0 1 W
  rw [show askP 3 0 true false 0 0 1 false = (3, 13) by decide] at a1
  rw [show askP 3 0 true false 0 1 1 false = (1, 0) by decide] at a2
  have e3 : enL ⟨3, 0, true, false, 0⟩ 1 = ⟨4, 0, false, false, 2⟩ := by simp [enL, sdB]
  rw [e3] at a3
  unfold LSt.v StL at *
  simp only at a1 a2 a3
  clear e3
  have R0 := hide (heap_alloc_new w (.cells #[.int .i64 3, .int .i64 0, .bool true, .bool false, .int .i64 0] 27))
  have E0 : Hid (Below w.heap.size w (w.alloc (.cells #[.int .i64 3, .int .i64 0, .bool true, .bool false, .int .i64 0] 27))) := (Below.refl w.heap.size w).alloc (Nat.le_refl _) _
  go_enter Try.func20, Try.ntmps20
  go_wp2_with fail
  refine (a1 _).mono ?_
  rintro e w1 ⟨rfl, hb1⟩
  have HB1 := hide (E0.out.of hb1)
  have R1 := hide (keepRow R0.out hb1)
  obtain ⟨c0, c1, c2, c3, c4⟩ := row5 R1.out
  clear hb1
  go_wp2_with fail
  refine (a2 _).mono ?_
  rintro e w2 ⟨rfl, hb2⟩
  have HB2 := hide (HB1.out.of hb2)
  have R2 := hide (keepRow R1.out hb2)
  clear hb2 c0 c1 c2 c3 c4
  obtain ⟨c0, c1, c2, c3, c4⟩ := row5 R2.out
  go_wp2_with fail
  refine (a3 _).mono ?_
  rintro e w3 ⟨rfl, hb3⟩
  have HB3 := hide (HB2.out.of hb3)
  clear hb3
  go_wp2_with fail
  go_ret
  exact ⟨rfl, HB3.out⟩
end Go.Proofs.Ytopgcimjdlhclaa
