/- Layer 33: what a frame means, by the kind of the state. -/
import Derived.Test.YtopgcimjdlhclaaLf3
namespace Go.Proofs.Ytopgcimjdlhclaa
open Go.RowKit

def unP (b : Bool) (r : Int) : Int × Int := (unA b, unR b r)
def kdP (k o : Int) (x y : Bool) (b s t : Int) (kept : Bool) : Int × Int :=
  if k = 0 then unP (!(t == 1 && s == 0 && o == 0)) 10
  else if k = 1 then (if t = 1 ∧ s = o then (3, 11) else (3, 16))
  else if k = 2 then unP (!(t == 3 || t == 1 && s == 1 || t == 8 && s == 0)) 12
  else if k = 3 then unP (sdB t && (if s = 0 then x else y)) 13
  else clP b s t kept
set_option maxRecDepth 100000 in
set_option maxHeartbeats 1600000 in
theorem byKind_any (k o : Int) (x y : Bool) (b s t : Int) (kept : Bool) (w : World) (hs : s = 0 ∨ s = 1) : Calls Try.prog 64 #[.agg (StL k o x y b), .int .i64 s, .int .i64 t, .bool kept] w fun e w' => e = .returned (.tuple #[.int .i64 (kdP k o x y b s t kept).1, .int .i64 (kdP k o x y b s t kept).2]) ∧ Below w.heap.size w w' := by
  have h1 := fun W => lmsg_any t W
  have h2 := fun c r W => unless_any c r W
  have h3 := fun W => ofClosed_any k o x y b s t kept W
  unfold kdP unP StL at *
  have e0 := (Below.refl w.heap.size w).alloc (Nat.le_refl _) (.cells #[.int .i64 k, .int .i64 o, .bool x, .bool y, .int .i64 b] 27)
  have E0 := hide e0
  clear e0
  by_cases k0 : k = 0
  · subst k0
    clear h1 h3
    rcases hs with rfl | rfl <;> cases ht : t == 1 <;> cases ho : o == 0
    all_goals
      go_enter Try.func64, Try.ntmps64
      go_wp2_with (go_at_call 62; refine (h2 _ _ _).mono ?_; rintro e w' ⟨rfl, rfl⟩)
      all_goals (go_ret2; refine ⟨?_, (Below.refl _ _).alloc (Nat.le_refl _) _⟩; simp [ht, ho])
  by_cases k1 : k = 1
  · subst k1
    clear h1 h2 h3
    rcases hs with rfl | rfl
    all_goals
      go_enter Try.func64, Try.ntmps64
      go_wp2
      all_goals (go_ret2; refine ⟨?_, (Below.refl _ _).alloc (Nat.le_refl _) _⟩; simp_all)
  by_cases k2 : k = 2
  · subst k2
    clear h1 h3
    rcases hs with rfl | rfl <;> cases ht : t == 1 <;> cases ht3 : t == 3 <;> cases ht8 : t == 8
    all_goals
      go_enter Try.func64, Try.ntmps64
      go_wp2_with (go_at_call 62; refine (h2 _ _ _).mono ?_; rintro e w' ⟨rfl, rfl⟩)
      all_goals (go_ret2; refine ⟨?_, (Below.refl _ _).alloc (Nat.le_refl _) _⟩; simp [ht, ht3, ht8])
  by_cases k3 : k = 3
  · subst k3
    clear h3
    generalize sdB t = st at *
    rcases hs with rfl | rfl
    all_goals
      go_enter Try.func64, Try.ntmps64
      go_wp2_with (first
        | (go_at_call 62; refine (h2 _ _ _).mono ?_; rintro e w' ⟨rfl, rfl⟩)
        | (go_at_call 88; refine (h1 _).mono ?_; rintro e w' ⟨rfl, rfl⟩))
      all_goals (go_ret2; refine ⟨?_, (Below.refl _ _).alloc (Nat.le_refl _) _⟩; simp_all)
  · have d0 : (k == 0) = false := by simpa using k0
    have d1 : (k == 1) = false := by simpa using k1
    have d2 : (k == 2) = false := by simpa using k2
    have d3 : (k == 3) = false := by simpa using k3
    clear h1 h2
    rw [if_neg k0, if_neg k1, if_neg k2, if_neg k3]
    go_enter Try.func64, Try.ntmps64
    go_wp2_with (go_at_call 89; refine (h3 _).mono ?_; rintro e w' ⟨rfl, hb⟩)
    go_ret2
    exact ⟨rfl, E0.out.of hb⟩
end Go.Proofs.Ytopgcimjdlhclaa
