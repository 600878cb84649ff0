/- Layer 33: sides, and which states may be, on both sides. -/
import Derived.Test.YtopgcimjdlhclaaMA
import Derived.Test.YtopgcimjdlhclaaVal
namespace Go.Proofs.Ytopgcimjdlhclaa
open Go.RowKit

def sdB (s : Int) : Bool := s == 0 || s == 1
theorem lside_any (s : Int) (w : World) : Calls Try.prog 61 #[.int .i64 s] w fun e w' => e = .returned (.bool (sdB s)) ∧ w = w' := by
  unfold sdB
  go_enter Try.func61, Try.ntmps61
  go_wp2
  all_goals (go_ret; simp_all)
theorem lmsg_any (t : Int) (w : World) : Calls Try.prog 88 #[.int .i64 t] w fun e w' => e = .returned (.bool (sdB t)) ∧ w = w' := by
  unfold sdB
  go_enter Try.func88, Try.ntmps88
  go_wp2
  all_goals (go_ret; simp_all)
def unR (b : Bool) (r : Int) : Int := if b then r else 0
def unA (b : Bool) : Int := if b then 3 else 1
theorem unless_any (b : Bool) (r : Int) (w : World) : Calls Try.prog 62 #[.bool b, .int .i64 r] w fun e w' => e = .returned (.tuple #[.int .i64 (unA b), .int .i64 (unR b r)]) ∧ w = w' := by
  unfold unA unR
  cases b
  all_goals
    go_enter Try.func62, Try.ntmps62
    go_wp2
    go_ret2
    exact ⟨rfl, rfl⟩
/-- Which states may be. -/
def riB (k o : Int) (x y : Bool) (b : Int) : Bool := sdB o && ((k == 0 || k == 1) && !x && !y && b == 0 || k == 2 && !x && !y && b == 0 && o == 1 || k == 3 && !(x && y) && b == 0 || k == 4 && !x && !y && (sdB b || b == 2))
abbrev StL (k o : Int) (x y : Bool) (b : Int) : Array Value := #[.int .i64 k, .int .i64 o, .bool x, .bool y, .int .i64 b]
theorem rright33_any (k o : Int) (x y : Bool) (b : Int) (w : World) : Calls Try.prog 19 #[.agg (StL k o x y b)] w fun e w' => e = .returned (.bool (riB k o x y b)) ∧ Below w.heap.size w w' := by
  unfold riB sdB StL at *
  go_enter Try.func19, Try.ntmps19
  go_wp2
  all_goals (go_ret; refine ⟨?_, (Below.refl _ _).alloc (Nat.le_refl _) _⟩; (try simp_all))
  all_goals first | omega | (rw [Bool.eq_iff_iff]; simp; omega)
end Go.Proofs.Ytopgcimjdlhclaa
