/- Layer 33: the reference's Ask, a state taken over, the example. -/
import Derived.Test.YtopgcimjdlhclaaLf6
namespace Go.Proofs.Ytopgcimjdlhclaa
open Go.RowKit

def KindR (k o : Int) (x y : Bool) (b : Int) : Prop := ∀ W, Calls Try.prog 19 #[.agg (StL k o x y b)] W fun e w' => e = .returned (.bool true) ∧ Below W.heap.size W w'
set_option maxRecDepth 100000 in
set_option maxHeartbeats 3200000 in
theorem rask_closed (k o : Int) (x y : Bool) (b s t : Int) (kept : Bool) (w : World) (h3 : KindR k o x y b) (hs : s = 0 ∨ s = 1) (ht : t = 0 ∨ t = 1 ∨ t = 3 ∨ t = 8) (k0 : (k == 0) = false) (k1 : (k == 1) = false) (k2 : (k == 2) = false) (k3 : (k == 3) = false) :
    Calls Try.prog 17 #[.agg (StL k o x y b), .int .i64 s, .int .i64 t, .bool kept] w fun e w' => e = .returned (.tuple #[.int .i64 (rclP b s t kept).1, .int .i64 (rclP b s t kept).2]) ∧ Below w.heap.size w w' := by
  have h7 := fun W => rclosed_any k o x y b s t kept W hs
  generalize rclP b s t kept = rc at *
  unfold KindR at h3
  unfold StL at *
  have E0 : Hid (Below w.heap.size w (w.alloc (.cells #[.int .i64 k, .int .i64 o, .bool x, .bool y, .int .i64 b] 24))) := (Below.refl w.heap.size w).alloc (Nat.le_refl _) _
  have R0 := hide (heap_alloc_new w (.cells #[.int .i64 k, .int .i64 o, .bool x, .bool y, .int .i64 b] 24))
  rcases hs with rfl | rfl <;> rcases ht with rfl | rfl | rfl | rfl
  all_goals
    go_enter Try.func17, Try.ntmps17
    go_wp2_with fail
    refine (h3 _).mono ?_
    rintro e w1 ⟨rfl, hb⟩
    have HB := hide (E0.out.of hb)
    have Q1 := hide (keepRow R0.out hb)
    obtain ⟨c0, c1, c2, c3, c4⟩ := row5 Q1.out
    clear hb
    go_wp2_with (go_at_call 66; refine (h7 _).mono ?_; rintro e w3 ⟨rfl, hb3⟩)
    go_ret2
    exact ⟨rfl, HB.out.of hb3⟩
end Go.Proofs.Ytopgcimjdlhclaa
