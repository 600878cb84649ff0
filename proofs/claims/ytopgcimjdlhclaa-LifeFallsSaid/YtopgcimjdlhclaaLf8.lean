/- Layer 33: the reference's Ask whole, a state taken over. -/
import Derived.Test.YtopgcimjdlhclaaLf7a
import Derived.Test.YtopgcimjdlhclaaLf7b
import Derived.Test.YtopgcimjdlhclaaLf7c
import Derived.Test.YtopgcimjdlhclaaLf7d
import Derived.Test.YtopgcimjdlhclaaLf7e
namespace Go.Proofs.Ytopgcimjdlhclaa
open Go.RowKit

set_option maxRecDepth 100000 in
set_option maxHeartbeats 3200000 in
theorem rask_any (k o : Int) (x y : Bool) (b s t : Int) (kept : Bool) (w : World) : Calls Try.prog 17 #[.agg (StL k o x y b), .int .i64 s, .int .i64 t, .bool kept] w fun e w' => e = .returned (.tuple #[.int .i64 (raskP k o x y b s t kept).1, .int .i64 (raskP k o x y b s t kept).2]) ∧ Below w.heap.size w w' := by
  have h3 := fun W => rright33_any k o x y b W
  have h4 := fun W => rpromise_any k o x y b s kept W
  have E0 : Hid (Below w.heap.size w (w.alloc (.cells #[.int .i64 k, .int .i64 o, .bool x, .bool y, .int .i64 b] 24))) := (Below.refl w.heap.size w).alloc (Nat.le_refl _) _
  have R0 := hide (heap_alloc_new w (.cells #[.int .i64 k, .int .i64 o, .bool x, .bool y, .int .i64 b] 24))
  unfold raskP
  cases hri : riB k o x y b with
  | false =>
    rw [if_pos (.inl rfl)]
    rw [hri] at h3
    clear hri h4
    unfold StL at *
    go_enter Try.func17, Try.ntmps17
    go_wp2_with (go_at_call 19; refine (h3 _).mono ?_; rintro e w1 ⟨rfl, hb⟩)
    go_ret2
    exact ⟨rfl, E0.out.of hb⟩
  | true =>
    rw [hri] at h3
    cases hsi : sdB s with
    | false =>
      rw [if_pos (.inr rfl)]
      have hs0 : s ≠ 0 ∧ s ≠ 1 := by unfold sdB at hsi; simpa using hsi
      have d0 : (s != 0) = true := by simpa using hs0.1
      have d1 : (s != 1) = true := by simpa using hs0.2
      clear hri hsi h4 hs0
      unfold StL at *
      go_enter Try.func17, Try.ntmps17
      go_wp2_with (go_at_call 19; refine (h3 _).mono ?_; rintro e w1 ⟨rfl, hb⟩)
      go_ret2
      exact ⟨rfl, E0.out.of hb⟩
    | true =>
      rw [if_neg (by simp)]
      have hs := sdB_or hsi
      clear hsi hri
      by_cases ht : t = 0 ∨ t = 1 ∨ t = 3 ∨ t = 8
      · rw [if_neg (by omega), if_neg (by omega), if_pos ht]
        clear E0 R0 h4
        by_cases k0 : k = 0
        · subst k0; exact rask_idle o x y b s t kept w h3 hs ht
        by_cases k1 : k = 1
        · subst k1; exact rask_skip o x y b s t kept w h3 hs ht
        by_cases k2 : k = 2
        · subst k2; exact rask_res o x y b s t kept w h3 hs ht
        by_cases k3 : k = 3
        · subst k3; exact rask_open o x y b s t kept w h3 hs ht
        · have := rask_closed k o x y b s t kept w h3 hs ht (by simpa using k0) (by simpa using k1) (by simpa using k2) (by simpa using k3)
          unfold rkdP
          rw [if_neg k0, if_neg k1, if_neg k2, if_neg k3]
          exact this
      · have t0 : (t != 0) = true := by simp; omega
        have t1 : (t != 1) = true := by simp; omega
        have t3 : (t != 3) = true := by simp; omega
        have t8 : (t != 8) = true := by simp; omega
        by_cases t2 : t = 2
        · subst t2
          clear h4
          rw [if_pos rfl]
          unfold StL at *
          rcases hs with rfl | rfl
          all_goals
            go_enter Try.func17, Try.ntmps17
            go_wp2_with (go_at_call 19; refine (h3 _).mono ?_; rintro e w1 ⟨rfl, hb⟩)
            go_ret2
            exact ⟨rfl, E0.out.of hb⟩
        by_cases t5 : t = 5
        · subst t5
          rw [if_neg t2, if_pos rfl]
          unfold unP
          generalize prB k o y b s kept = pr at *
          unfold StL at *
          rcases hs with rfl | rfl
          all_goals
            go_enter Try.func17, Try.ntmps17
            go_wp2_with fail
            refine (h3 _).mono ?_
            rintro e w1 ⟨rfl, hb⟩
            have HB := hide (E0.out.of hb)
            have Q1 := hide (keepRow R0.out hb)
            obtain ⟨c0, c1, c2, c3, c4⟩ := row5 Q1.out
            clear hb
            go_wp2_with (go_at_call 65; refine (h4 _).mono ?_; rintro e w3 ⟨rfl, hb3⟩)
            go_ret2
            exact ⟨rfl, HB.out.of hb3⟩
        · rw [if_neg t2, if_neg t5, if_neg ht]
          have d2 : (t == 2) = false := by simpa using t2
          have d5 : (t == 5) = false := by simpa using t5
          clear h4
          unfold StL at *
          rcases hs with rfl | rfl
          all_goals
            go_enter Try.func17, Try.ntmps17
            go_wp2_with (go_at_call 19; refine (h3 _).mono ?_; rintro e w1 ⟨rfl, hb⟩)
            go_ret2
            exact ⟨rfl, E0.out.of hb⟩
theorem own33_any (k o : Int) (x y : Bool) (b : Int) (w : World) : Calls Try.prog 16 #[.agg (StL k o x y b)] w fun e w' => e = .returned (.agg (StL k o x y b)) ∧ Below w.heap.size w w' := by
  unfold StL at *
  go_enter Try.func16, Try.ntmps16
  go_wp2
  (try simp only [Exit.inBlock, Exit.then])
  refine bodyPost_ret (v := .agg #[.int .i64 k, .int .i64 o, .bool x, .bool y, .int .i64 b]) ?_ rfl ⟨rfl, ?_⟩
  · rw [results_cellL rfl]
    go_simp
  · go_grown
end Go.Proofs.Ytopgcimjdlhclaa
