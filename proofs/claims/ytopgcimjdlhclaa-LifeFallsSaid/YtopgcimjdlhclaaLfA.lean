/- Layer 33: what a stream is when a side has ended it. -/
import Derived.Test.YtopgcimjdlhclaaLf9
namespace Go.Proofs.Ytopgcimjdlhclaa
open Go.RowKit

theorem absW {p : World → Prop} (W0 : World) (R : World → Prop) (h0 : R W0) (h : ∀ W, R W → p W) : p W0 := h W0 h0
theorem enL_not {s : LSt} {d : Int} (h : ¬ (s.k = 3 ∧ sdB d = true)) : enL s d = s := by unfold enL; rw [if_neg h]
set_option maxRecDepth 100000 in
set_option maxHeartbeats 3200000 in
theorem ends_any (k o : Int) (x y : Bool) (b d : Int) (w : World) : Calls Try.prog 21 #[.agg (StL k o x y b), .int .i64 d] w fun e w' => e = .returned (.agg (enL ⟨k, o, x, y, b⟩ d).v) ∧ Below w.heap.size w w' := by
  by_cases hk : k = 3
  · subst hk
    have h1 := fun W => lside_any d W
    cases hsd : sdB d with
    | false =>
      rw [enL_not (by simp [hsd])]
      rw [hsd] at h1
      clear hsd
      unfold LSt.v StL at *
      simp only
      go_enter Try.func21, Try.ntmps21
      go_wp2_with (go_at_call 61; refine (h1 _).mono ?_; rintro e w1 ⟨rfl, rfl⟩)
      refine bodyPost_ret (v := .agg #[.int .i64 3, .int .i64 o, .bool x, .bool y, .int .i64 b]) ?_ rfl ⟨rfl, ?_⟩
      · rw [results_cellL rfl]
        go_simp
      · go_grown
    | true =>
      rw [hsd] at h1
      have hd := sdB_or hsd
      clear hsd
      rcases hd with rfl | rfl
      · have h2 := fun W => closed33_any 3 o true y b 2 W
        have q2 := eqArr1 true y
        have E1 : Hid (Below w.heap.size w ((w.alloc (.cells #[.int .i64 3, .int .i64 o, .bool true, .bool y, .int .i64 b] 27)).alloc (.cells #[.int .i64 0, .int .i64 0, .bool false, .bool false, .int .i64 0] 27))) := ((Below.refl w.heap.size w).alloc (Nat.le_refl _) _).alloc (by simp) _
        have Rz := hide (heap_alloc_newL (n := w.heap.size + 1) (w.alloc (.cells #[.int .i64 3, .int .i64 o, .bool true, .bool y, .int .i64 b] 27)) (.cells #[.int .i64 0, .int .i64 0, .bool false, .bool false, .int .i64 0] 27) (by simp))
        unfold enL LSt.v StL at *
        cases y
        · simp [sdB]
          go_enter Try.func21, Try.ntmps21
          go_wp2_with fail
          refine (h1 _).mono ?_
          rintro e w1 ⟨rfl, rfl⟩
          go_wp2_with fail
          go_region_held3 (fun w' : World => w'.cell? ⟨w.heap.size, 2, none⟩ = some (.bool true) ∧ w'.cell? ⟨w.heap.size, 3, none⟩ = some (.bool false))
            ((go_keep; done))
            ((go_at_call 67; (with_reducible refine (ended_any _).mono ?_); rintro e w6 ⟨rfl, rfl⟩))
          refine absW _ (fun w1 => w1.heap[w.heap.size]? = some (.cells #[.int .i64 3, .int .i64 o, .bool true, .bool false, .int .i64 b] 27 (0, 0)) ∧ w1.heap[w.heap.size + 1]? = some (.cells #[.int .i64 0, .int .i64 0, .bool false, .bool false, .int .i64 0] 27 (0, 0)) ∧ Below w.heap.size w w1) ⟨?_, ?_, ?_⟩ ?_
          · exact keepRow (keepRow (heap_alloc_new w _) ((Below.refl _ _).alloc (Nat.le_refl _) _)) ((Below.refl _ _).alloc (Nat.le_refl _) _).drew
          · exact keepRow Rz.out ((Below.refl _ _).alloc (Nat.le_refl _) _).drew
          · exact (E1.out.alloc (by simp; omega) _).drew
          rintro w2 ⟨hS, hZ, hB⟩
          have HS := hide hS
          have HZ := hide hZ
          have HB := hide hB
          clear hS hZ hB
          obtain ⟨s0, s1, s2, s3, s4⟩ := row5 HS.out
          obtain ⟨⟨c0, f0⟩, ⟨c1, f1⟩, ⟨c2, f2⟩, ⟨c3, f3⟩, ⟨c4, f4⟩, r5⟩ := store5 HZ.out (.int .i64 3) (.int .i64 o) (.bool true) (.bool false) (.int .i64 b)
          have HB5 := hide (below5 HB.out (p := w.heap.size + 1) (by omega) (.int .i64 3) (.int .i64 o) (.bool true) (.bool false) (.int .i64 b))
          have R5 := hide r5
          clear r5
          go_wp2_with fail
          obtain ⟨d0, d1, d2, d3, d4⟩ := row5 R5.out
          refine bodyPost_ret (v := .agg #[.int .i64 3, .int .i64 o, .bool true, .bool false, .int .i64 b]) ?_ rfl ⟨rfl, HB5.out⟩
          rw [results_cellL rfl]
          go_simp
        · simp [sdB]
          go_enter Try.func21, Try.ntmps21
          go_wp2_with fail
          refine (h1 _).mono ?_
          rintro e w1 ⟨rfl, rfl⟩
          go_wp2_with fail
          go_region_held3 (fun w' : World => w'.cell? ⟨w.heap.size, 2, none⟩ = some (.bool true) ∧ w'.cell? ⟨w.heap.size, 3, none⟩ = some (.bool true))
            ((go_keep; done))
            ((go_at_call 67; (with_reducible refine (ended_any _).mono ?_); rintro e w6 ⟨rfl, rfl⟩))
          refine absW _ (fun w1 => w1.heap[w.heap.size]? = some (.cells #[.int .i64 3, .int .i64 o, .bool true, .bool true, .int .i64 b] 27 (0, 0)) ∧ w1.heap[w.heap.size + 1]? = some (.cells #[.int .i64 0, .int .i64 0, .bool false, .bool false, .int .i64 0] 27 (0, 0)) ∧ Below w.heap.size w w1) ⟨?_, ?_, ?_⟩ ?_
          · exact keepRow (keepRow (heap_alloc_new w _) ((Below.refl _ _).alloc (Nat.le_refl _) _)) ((Below.refl _ _).alloc (Nat.le_refl _) _).drew
          · exact keepRow Rz.out ((Below.refl _ _).alloc (Nat.le_refl _) _).drew
          · exact (E1.out.alloc (by simp; omega) _).drew
          rintro w2 ⟨hS, hZ, hB⟩
          have HS := hide hS
          have HZ := hide hZ
          have HB := hide hB
          clear hS hZ hB
          obtain ⟨s0, s1, s2, s3, s4⟩ := row5 HS.out
          go_wp2_with fail
          refine (h2 _).mono ?_
          rintro e w3 ⟨rfl, hb3⟩
          obtain ⟨⟨c0, f0⟩, ⟨c1, f1⟩, ⟨c2, f2⟩, ⟨c3, f3⟩, ⟨c4, f4⟩, r5⟩ := store5 (keepRow HZ.out hb3) (.int .i64 4) (.int .i64 o) (.bool false) (.bool false) (.int .i64 2)
          have HB5 := hide (below5 (HB.out.of hb3) (p := w.heap.size + 1) (by omega) (.int .i64 4) (.int .i64 o) (.bool false) (.bool false) (.int .i64 2))
          have R5 := hide r5
          clear r5 hb3
          go_wp2_with fail
          obtain ⟨d0, d1, d2, d3, d4⟩ := row5 R5.out
          refine bodyPost_ret (v := .agg #[.int .i64 4, .int .i64 o, .bool false, .bool false, .int .i64 2]) ?_ rfl ⟨rfl, HB5.out⟩
          rw [results_cellL rfl]
          go_simp
      · have h2 := fun W => closed33_any 3 o x true b 2 W
        have q2 := eqArr1 x true
        have E1 : Hid (Below w.heap.size w ((w.alloc (.cells #[.int .i64 3, .int .i64 o, .bool x, .bool true, .int .i64 b] 27)).alloc (.cells #[.int .i64 0, .int .i64 0, .bool false, .bool false, .int .i64 0] 27))) := ((Below.refl w.heap.size w).alloc (Nat.le_refl _) _).alloc (by simp) _
        have Rz := hide (heap_alloc_newL (n := w.heap.size + 1) (w.alloc (.cells #[.int .i64 3, .int .i64 o, .bool x, .bool true, .int .i64 b] 27)) (.cells #[.int .i64 0, .int .i64 0, .bool false, .bool false, .int .i64 0] 27) (by simp))
        unfold enL LSt.v StL at *
        cases x
        · simp [sdB]
          go_enter Try.func21, Try.ntmps21
          go_wp2_with fail
          refine (h1 _).mono ?_
          rintro e w1 ⟨rfl, rfl⟩
          go_wp2_with fail
          go_region_held3 (fun w' : World => w'.cell? ⟨w.heap.size, 2, none⟩ = some (.bool false) ∧ w'.cell? ⟨w.heap.size, 3, none⟩ = some (.bool true))
            ((go_keep; done))
            ((go_at_call 67; (with_reducible refine (ended_any _).mono ?_); rintro e w6 ⟨rfl, rfl⟩))
          refine absW _ (fun w1 => w1.heap[w.heap.size]? = some (.cells #[.int .i64 3, .int .i64 o, .bool false, .bool true, .int .i64 b] 27 (0, 0)) ∧ w1.heap[w.heap.size + 1]? = some (.cells #[.int .i64 0, .int .i64 0, .bool false, .bool false, .int .i64 0] 27 (0, 0)) ∧ Below w.heap.size w w1) ⟨?_, ?_, ?_⟩ ?_
          · exact keepRow (keepRow (heap_alloc_new w _) ((Below.refl _ _).alloc (Nat.le_refl _) _)) ((Below.refl _ _).alloc (Nat.le_refl _) _).drew
          · exact keepRow Rz.out ((Below.refl _ _).alloc (Nat.le_refl _) _).drew
          · exact (E1.out.alloc (by simp; omega) _).drew
          rintro w2 ⟨hS, hZ, hB⟩
          have HS := hide hS
          have HZ := hide hZ
          have HB := hide hB
          clear hS hZ hB
          obtain ⟨s0, s1, s2, s3, s4⟩ := row5 HS.out
          obtain ⟨⟨c0, f0⟩, ⟨c1, f1⟩, ⟨c2, f2⟩, ⟨c3, f3⟩, ⟨c4, f4⟩, r5⟩ := store5 HZ.out (.int .i64 3) (.int .i64 o) (.bool false) (.bool true) (.int .i64 b)
          have HB5 := hide (below5 HB.out (p := w.heap.size + 1) (by omega) (.int .i64 3) (.int .i64 o) (.bool false) (.bool true) (.int .i64 b))
          have R5 := hide r5
          clear r5
          go_wp2_with fail
          obtain ⟨d0, d1, d2, d3, d4⟩ := row5 R5.out
          refine bodyPost_ret (v := .agg #[.int .i64 3, .int .i64 o, .bool false, .bool true, .int .i64 b]) ?_ rfl ⟨rfl, HB5.out⟩
          rw [results_cellL rfl]
          go_simp
        · simp [sdB]
          go_enter Try.func21, Try.ntmps21
          go_wp2_with fail
          refine (h1 _).mono ?_
          rintro e w1 ⟨rfl, rfl⟩
          go_wp2_with fail
          go_region_held3 (fun w' : World => w'.cell? ⟨w.heap.size, 2, none⟩ = some (.bool true) ∧ w'.cell? ⟨w.heap.size, 3, none⟩ = some (.bool true))
            ((go_keep; done))
            ((go_at_call 67; (with_reducible refine (ended_any _).mono ?_); rintro e w6 ⟨rfl, rfl⟩))
          refine absW _ (fun w1 => w1.heap[w.heap.size]? = some (.cells #[.int .i64 3, .int .i64 o, .bool true, .bool true, .int .i64 b] 27 (0, 0)) ∧ w1.heap[w.heap.size + 1]? = some (.cells #[.int .i64 0, .int .i64 0, .bool false, .bool false, .int .i64 0] 27 (0, 0)) ∧ Below w.heap.size w w1) ⟨?_, ?_, ?_⟩ ?_
          · exact keepRow (keepRow (heap_alloc_new w _) ((Below.refl _ _).alloc (Nat.le_refl _) _)) ((Below.refl _ _).alloc (Nat.le_refl _) _).drew
          · exact keepRow Rz.out ((Below.refl _ _).alloc (Nat.le_refl _) _).drew
          · exact (E1.out.alloc (by simp; omega) _).drew
          rintro w2 ⟨hS, hZ, hB⟩
          have HS := hide hS
          have HZ := hide hZ
          have HB := hide hB
          clear hS hZ hB
          obtain ⟨s0, s1, s2, s3, s4⟩ := row5 HS.out
          go_wp2_with fail
          refine (h2 _).mono ?_
          rintro e w3 ⟨rfl, hb3⟩
          obtain ⟨⟨c0, f0⟩, ⟨c1, f1⟩, ⟨c2, f2⟩, ⟨c3, f3⟩, ⟨c4, f4⟩, r5⟩ := store5 (keepRow HZ.out hb3) (.int .i64 4) (.int .i64 o) (.bool false) (.bool false) (.int .i64 2)
          have HB5 := hide (below5 (HB.out.of hb3) (p := w.heap.size + 1) (by omega) (.int .i64 4) (.int .i64 o) (.bool false) (.bool false) (.int .i64 2))
          have R5 := hide r5
          clear r5 hb3
          go_wp2_with fail
          obtain ⟨d0, d1, d2, d3, d4⟩ := row5 R5.out
          refine bodyPost_ret (v := .agg #[.int .i64 4, .int .i64 o, .bool false, .bool false, .int .i64 2]) ?_ rfl ⟨rfl, HB5.out⟩
          rw [results_cellL rfl]
          go_simp
  · rw [enL_not (by simp [hk])]
    unfold LSt.v StL at *
    have d3 : (k != 3) = true := by simpa using hk
    clear hk
    simp only
    go_enter Try.func21, Try.ntmps21
    go_wp2_with fail
    refine bodyPost_ret (v := .agg #[.int .i64 k, .int .i64 o, .bool x, .bool y, .int .i64 b]) ?_ rfl ⟨rfl, ?_⟩
    · rw [results_cellL rfl]
      go_simp
    · go_grown
end Go.Proofs.Ytopgcimjdlhclaa
