/- Layer 33: which states may be, the program's. -/
import Derived.Test.YtopgcimjdlhclaaLf1
import Derived.RegionTactic
import Derived.ChangeAlike
import Derived.Deep.RegionHeld3
namespace Go.Proofs.Ytopgcimjdlhclaa
open Go.RowKit

theorem results_cellL {fn : Func} {p : Tmp} {ty : TypeId} (h : fn.results = #[.cell p ty]) (tmps : Array Value) (P : Program) (w : World) :
    (results fn tmps).run P w = ((asAddr (tmps.getD p undef)).run P w).andThen fun a w' => (loadVar ty a).run P w' := by
  simp [results, h]
theorem eqArr0 (x y : Bool) (w : World) : Sem.run Try.prog (Op.equalIn 9999 22 (.agg #[.bool x, .bool y]) (.agg #[.bool false, .bool false])) w = .ok (!x && !y) w := by
  cases x <;> cases y <;> kernel_rfl
theorem eqArrS (x y : Bool) (w : World) : Sem.run Try.prog (Op.equalIn 9999 22 (.agg #[.bool x, .bool y]) (.agg #[.bool x, .bool y])) w = .ok true w := by
  cases x <;> cases y <;> kernel_rfl
theorem eqArr1 (x y : Bool) (w : World) : Sem.run Try.prog (Op.equalIn 10000 22 (.agg #[.bool x, .bool y]) (.agg #[.bool true, .bool true])) w = .ok (x && y) w := by
  cases x <;> cases y <;> kernel_rfl
theorem ended_any (w : World) : Calls Try.prog 67 #[] w fun e w' => e = .returned (.agg #[.bool true, .bool true]) ∧ w.alloc (.cells #[.bool true, .bool true] 22) = w' := by
  go_enter Try.func67, Try.ntmps67
  go_wp2
  (try simp only [Exit.inBlock, Exit.then])
  refine bodyPost_ret (v := .agg #[.bool true, .bool true]) ?_ rfl ⟨rfl, ?_⟩
  · rw [results_cellL rfl]
    go_simp
  · rfl
set_option maxRecDepth 100000 in
set_option maxHeartbeats 1600000 in
theorem right33_any (k o : Int) (x y : Bool) (b : Int) (w : World) : Calls Try.prog 18 #[.agg (StL k o x y b)] w fun e w' => e = .returned (.bool (riB k o x y b)) ∧ Below w.heap.size w w' := by
  have h1 := fun W => lside_any o W
  have h2 := fun W => lside_any b W
  have h3 := ended_any
  have q0 := eqArr0 x y
  have q1 := eqArrS x y
  have q2 := eqArr1 x y
  unfold riB StL at *
  generalize sdB o = so at *
  generalize sdB b = sb at *
  cases so with
  | false =>
    clear q0 q1 q2
    go_enter Try.func18, Try.ntmps18
    go_wp2_with (go_at_call 61; refine (h1 _).mono ?_; rintro e w' ⟨rfl, rfl⟩)
    all_goals (go_ret; refine ⟨?_, (Below.refl _ _).alloc (Nat.le_refl _) _⟩; simp_all)
  | true =>
    go_enter Try.func18, Try.ntmps18
    go_wp2_with (go_at_call 61; (first | with_reducible refine (h1 _).mono ?_ | with_reducible refine (h2 _).mono ?_); rintro e w' ⟨rfl, rfl⟩)
    all_goals try (go_ret; refine ⟨?_, ((Below.refl _ _).alloc (Nat.le_refl _) _).alloc (by simp) _⟩; simp_all; done)
    have HB := hide (((Below.refl w.heap.size w).alloc (Nat.le_refl _) (.cells #[.int .i64 k, .int .i64 o, .bool x, .bool y, .int .i64 b] 27)).alloc (by simp) (.cells #[.int .i64 k, .int .i64 o, .bool x, .bool y, .int .i64 0] 27))
    cases hb : b == 0
    · have hd : decide (b = 0) = false := by simpa using hb
      go_quiet (fail)
      go_wp2_with fail
      all_goals (go_ret; refine ⟨by simp_all, ?_⟩; first | exact HB.out | exact (HB.out : Below _ _ (World.drewN _ _)) | exact HB.out.trans (drawn_below ⟨_, rfl⟩ _) | (go_grown; done))
    · have hd : decide (b = 0) = true := by simpa using hb
      go_region_held3 (fun w' : World => w'.cell? ⟨w.heap.size, 0, none⟩ = some (.int .i64 k) ∧ w'.cell? ⟨w.heap.size, 1, none⟩ = some (.int .i64 o) ∧ w'.cell? ⟨w.heap.size, 2, none⟩ = some (.bool x) ∧ w'.cell? ⟨w.heap.size, 3, none⟩ = some (.bool y) ∧ w'.cell? ⟨w.heap.size, 4, none⟩ = some (.int .i64 b) ∧ w'.cell? ⟨w.heap.size + 1, 0, none⟩ = some (.int .i64 k) ∧ w'.cell? ⟨w.heap.size + 1, 1, none⟩ = some (.int .i64 o) ∧ w'.cell? ⟨w.heap.size + 1, 2, none⟩ = some (.bool x) ∧ w'.cell? ⟨w.heap.size + 1, 3, none⟩ = some (.bool y) ∧ w'.cell? ⟨w.heap.size + 1, 4, none⟩ = some (.int .i64 0))
        ((go_keep; done))
        ((go_at_call 67; (with_reducible refine (ended_any _).mono ?_); rintro e w6 ⟨rfl, rfl⟩))
      all_goals (go_wp2_with fail)
      all_goals (go_ret; refine ⟨by simp_all, ?_⟩; first | exact HB.out | exact (HB.out : Below _ _ (World.drewN _ _)) | exact HB.out.trans (drawn_below ⟨_, rfl⟩ _) | (go_grown; done))
end Go.Proofs.Ytopgcimjdlhclaa
