import Derived.Test.YteikpdolickkaaaSetA
import Derived.StillTailTactics
namespace Go.Proofs.Yteikpdolickkaaa
open Go.RowKit
set_option maxRecDepth 100000 in
set_option maxHeartbeats 3200000 in
theorem rapply_any (A : Option Addr) (n c : Nat) (F G : Nat → Int) (v0 v1 v2 v3 v4 v5 : Int) (w : World) (ha : Rd2 w A n c F G) (hn : n ≤ 100000) :
    Calls Try.prog 144 #[.agg #[.int .i64 v0, .int .i64 v1, .int .i64 v2, .int .i64 v3, .int .i64 v4, .int .i64 v5], .slice A n c] w fun e w' => e = .returned (.agg #[.int .i64 (lsv F G 1 v0 n), .int .i64 (lsv F G 2 v1 n), .int .i64 (lsv F G 3 v2 n), .int .i64 (lsv F G 4 v3 n), .int .i64 (lsv F G 5 v4 n), .int .i64 (lsv F G 6 v5 n)]) ∧ Below w.heap.size w w' := by
  have Ha := hide ha
  clear ha
  obtain ⟨W0, hW0⟩ : ∃ W0, W0 = (w.alloc (.cells #[.int .i64 v0, .int .i64 v1, .int .i64 v2, .int .i64 v3, .int .i64 v4, .int .i64 v5] 113)).alloc (.cells #[.int .i64 0, .int .i64 0, .int .i64 0, .int .i64 0, .int .i64 0, .int .i64 0] 113) := ⟨_, rfl⟩
  have R2 : Hid (W0.heap[w.heap.size]? = some (.cells #[.int .i64 v0, .int .i64 v1, .int .i64 v2, .int .i64 v3, .int .i64 v4, .int .i64 v5] 113 (0, 0))) := by
    rw [hW0]
    exact keepRow (heap_alloc_new w _) ((Below.refl _ _).alloc (Nat.le_refl _) _)
  have R4 : Hid (W0.heap[w.heap.size + 1]? = some (.cells #[.int .i64 0, .int .i64 0, .int .i64 0, .int .i64 0, .int .i64 0, .int .i64 0] 113 (0, 0))) := by
    rw [hW0]
    have := heap_alloc_new (w.alloc (.cells #[.int .i64 v0, .int .i64 v1, .int .i64 v2, .int .i64 v3, .int .i64 v4, .int .i64 v5] 113)) (.cells #[.int .i64 0, .int .i64 0, .int .i64 0, .int .i64 0, .int .i64 0, .int .i64 0] 113)
    rw [show (w.alloc (.cells #[.int .i64 v0, .int .i64 v1, .int .i64 v2, .int .i64 v3, .int .i64 v4, .int .i64 v5] 113)).heap.size = w.heap.size + 1 by simp] at this
    exact this
  have B0 : Hid (Below w.heap.size w W0) := by
    rw [hW0]
    exact ((Below.refl _ _).alloc (Nat.le_refl _) _).alloc (by simp) _
  have HW0 := hide hW0
  have HD : Hid (Rd2 W0.drew A n c F G) := Ha.out.below (B0.out.trans ((Below.refl _ _).drew))
  have l1 : Hid (Calls Try.prog 153 #[.slice A n c, .int .i64 1, .int .i64 v0] W0.drew fun e w' => e = .returned (.int .i64 (lsv F G 1 v0 n)) ∧ w' = W0.drew) := (last_any A n c F G 1 v0 W0.drew HD.out hn).mono fun _ _ h => ⟨h.1, h.2.symm⟩
  have l2 : Hid (Calls Try.prog 153 #[.slice A n c, .int .i64 2, .int .i64 v1] W0.drew fun e w' => e = .returned (.int .i64 (lsv F G 2 v1 n)) ∧ w' = W0.drew) := (last_any A n c F G 2 v1 W0.drew HD.out hn).mono fun _ _ h => ⟨h.1, h.2.symm⟩
  have l3 : Hid (Calls Try.prog 153 #[.slice A n c, .int .i64 3, .int .i64 v2] W0.drew fun e w' => e = .returned (.int .i64 (lsv F G 3 v2 n)) ∧ w' = W0.drew) := (last_any A n c F G 3 v2 W0.drew HD.out hn).mono fun _ _ h => ⟨h.1, h.2.symm⟩
  have l4 : Hid (Calls Try.prog 153 #[.slice A n c, .int .i64 4, .int .i64 v3] W0.drew fun e w' => e = .returned (.int .i64 (lsv F G 4 v3 n)) ∧ w' = W0.drew) := (last_any A n c F G 4 v3 W0.drew HD.out hn).mono fun _ _ h => ⟨h.1, h.2.symm⟩
  have l5 : Hid (Calls Try.prog 153 #[.slice A n c, .int .i64 5, .int .i64 v4] W0.drew fun e w' => e = .returned (.int .i64 (lsv F G 5 v4 n)) ∧ w' = W0.drew) := (last_any A n c F G 5 v4 W0.drew HD.out hn).mono fun _ _ h => ⟨h.1, h.2.symm⟩
  have l6 : Hid (Calls Try.prog 153 #[.slice A n c, .int .i64 6, .int .i64 v5] W0.drew fun e w' => e = .returned (.int .i64 (lsv F G 6 v5 n)) ∧ w' = W0.drew) := (last_any A n c F G 6 v5 W0.drew HD.out hn).mono fun _ _ h => ⟨h.1, h.2.symm⟩
  clear hW0
  go_enter Try.func144, Try.ntmps144
  go_wp2_with fail
  rw [← HW0.out]
  obtain ⟨q0, q1, q2, q3, q4, q5⟩ := row6 R2.out
  go_still_tail 25, (by kernel_rfl)
  still_call l1.out
  repeat still_step
  still_call l2.out
  repeat still_step
  still_call l3.out
  repeat still_step
  still_call l4.out
  repeat still_step
  still_call l5.out
  repeat still_step
  still_call l6.out
  repeat still_step
  refine wpStill_nil ?_
  change wpList _ _ _ _ _ W0.drew
  have D4 : W0.drew.heap[w.heap.size + 1]? = some (.cells #[.int .i64 0, .int .i64 0, .int .i64 0, .int .i64 0, .int .i64 0, .int .i64 0] 113 (0, 0)) := R4.out
  have DB : Below w.heap.size w W0.drew := B0.out.trans ((Below.refl _ _).drew)
  generalize W0.drew = w2 at *
  obtain ⟨p0, p1, p2, p3, p4, p5⟩ := row6 D4
  have z0 := frozenRow D4 0
  have z1 := frozenRow D4 1
  have z2 := frozenRow D4 2
  have z3 := frozenRow D4 3
  have z4 := frozenRow D4 4
  have z5 := frozenRow D4 5
  go_wp2_with fail
  refine bodyPost_ret (v := .agg #[.int .i64 (lsv F G 1 v0 n), .int .i64 (lsv F G 2 v1 n), .int .i64 (lsv F G 3 v2 n), .int .i64 (lsv F G 4 v3 n), .int .i64 (lsv F G 5 v4 n), .int .i64 (lsv F G 6 v5 n)]) ?_ rfl ⟨rfl, ?_⟩
  · rw [results_cellS rfl]
    go_simp
  · exact (((((DB.setCell (by simp) _).setCell (by simp) _).setCell (by simp) _).setCell (by simp) _).setCell (by simp) _).setCell (by simp) _
end Go.Proofs.Yteikpdolickkaaa
