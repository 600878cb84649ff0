/- Layer 33: what a frame means, the program's side. -/
import Derived.Test.YtopgcimjdlhclaaLf2
namespace Go.Proofs.Ytopgcimjdlhclaa
open Go.RowKit

def prB (k o : Int) (y : Bool) (b s : Int) (kept : Bool) : Bool := s == 1 && o == 0 && (k == 3 && !y || k == 4 && b == 0 && kept)
set_option maxRecDepth 100000 in
theorem bears_any (k o : Int) (x y : Bool) (b s : Int) (kept : Bool) (w : World) : Calls Try.prog 63 #[.agg (StL k o x y b), .int .i64 s, .bool kept] w fun e w' => e = .returned (.bool (prB k o y b s kept)) ∧ Below w.heap.size w w' := by
  unfold prB StL at *
  cases kept
  all_goals
    go_enter Try.func63, Try.ntmps63
    go_wp2
    all_goals (go_ret; refine ⟨?_, (Below.refl _ _).alloc (Nat.le_refl _) _⟩; simp_all)
def clP (b s t : Int) (kept : Bool) : Int × Int := if kept = false then (3, 16) else if b = s then (3, 15) else if b = 2 ∧ sdB t = true then (3, 14) else (2, 0)
set_option maxRecDepth 100000 in
theorem ofClosed_any (k o : Int) (x y : Bool) (b s t : Int) (kept : Bool) (w : World) : Calls Try.prog 89 #[.agg (StL k o x y b), .int .i64 s, .int .i64 t, .bool kept] w fun e w' => e = .returned (.tuple #[.int .i64 (clP b s t kept).1, .int .i64 (clP b s t kept).2]) ∧ Below w.heap.size w w' := by
  have h1 := fun W => lmsg_any t W
  unfold clP StL at *
  generalize sdB t = st at *
  cases kept <;> cases st
  all_goals
    go_enter Try.func89, Try.ntmps89
    go_wp2_with (go_at_call 88; refine (h1 _).mono ?_; rintro e w' ⟨rfl, rfl⟩)
    all_goals (go_ret2; refine ⟨?_, (Below.refl _ _).alloc (Nat.le_refl _) _⟩; simp_all)
end Go.Proofs.Ytopgcimjdlhclaa
