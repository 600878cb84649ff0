/- Layer 33: the reference's Ask at one kind (c). -/
import Derived.Test.YtopgcimjdlhclaaLf7a
namespace Go.Proofs.Ytopgcimjdlhclaa
open Go.RowKit

set_option maxRecDepth 100000 in
set_option maxHeartbeats 3200000 in
theorem rask_skip (o : Int) (x y : Bool) (b s t : Int) (kept : Bool) (w : World) (h3 : KindR 1 o x y b) (hs : s = 0 ∨ s = 1) (ht : t = 0 ∨ t = 1 ∨ t = 3 ∨ t = 8) :
    Calls Try.prog 17 #[.agg (StL 1 o x y b), .int .i64 s, .int .i64 t, .bool kept] w fun e w' => e = .returned (.tuple #[.int .i64 (rkdP 1 o x y b s t kept).1, .int .i64 (rkdP 1 o x y b s t kept).2]) ∧ Below w.heap.size w w' := by
  unfold KindR at h3
  unfold StL at *
  have E0 : Hid (Below w.heap.size w (w.alloc (.cells #[.int .i64 1, .int .i64 o, .bool x, .bool y, .int .i64 b] 24))) := (Below.refl w.heap.size w).alloc (Nat.le_refl _) _
  have R0 := hide (heap_alloc_new w (.cells #[.int .i64 1, .int .i64 o, .bool x, .bool y, .int .i64 b] 24))
  by_cases ho : s = o
  · subst ho
    rcases hs with rfl | rfl <;> rcases ht with rfl | rfl | rfl | rfl
    all_goals
      simp only [rkdP]
      simp
      go_enter Try.func17, Try.ntmps17
      go_wp2_with fail
      refine (h3 _).mono ?_
      rintro e w1 ⟨rfl, hb⟩
      have HB := hide (E0.out.of hb)
      have Q1 := hide (keepRow R0.out hb)
      obtain ⟨c0, c1, c2, c3, c4⟩ := row5 Q1.out
      clear hb
      go_wp2_with fail
      go_ret2
      exact ⟨rfl, HB.out⟩
  · have hd : (s == o) = false := by simpa using ho
    rcases hs with rfl | rfl <;> rcases ht with rfl | rfl | rfl | rfl
    all_goals
      simp only [rkdP]
      simp [ho]
      clear ho
      go_enter Try.func17, Try.ntmps17
      go_wp2_with fail
      refine (h3 _).mono ?_
      rintro e w1 ⟨rfl, hb⟩
      have HB := hide (E0.out.of hb)
      have Q1 := hide (keepRow R0.out hb)
      obtain ⟨c0, c1, c2, c3, c4⟩ := row5 Q1.out
      clear hb
      go_wp2_with fail
      go_ret2
      exact ⟨rfl, HB.out⟩
end Go.Proofs.Ytopgcimjdlhclaa
