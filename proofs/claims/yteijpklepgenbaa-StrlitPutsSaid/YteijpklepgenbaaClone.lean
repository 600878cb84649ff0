/- The contract of 'bytes.Clone': bytes of the call's own, the same as those that are handed in. -/
import Derived.Test.YteijpklepgenbaaSame
import Derived.WalkSpells
namespace Go.Proofs.Yteijpklepgenbaa
open Go.RowKit

theorem c8_info : (Try.prog.info? 5).map (fun i => (i.zero, i.size, i.bytes)) = some (some (.int .u8 0), 1, 1) := by kernel_rfl
theorem c8_size : (Try.prog.info? 5).map (·.size) = some 1 := by kernel_rfl

def Cloned (w : World) (n : Nat) (f : Nat → Int) (e : Ending) (w' : World) : Prop := ∃ v, e = .returned v ∧ Own .u8 5 w.heap.size w' v n f ∧ Below w.heap.size w w'

set_option maxHeartbeats 400000 in
theorem clone_any (A : Option Addr) (n c : Nat) (f : Nat → Int) (w : World) (ha : Rd .u8 w A n c f) (hn : n ≤ 140737488350000) :
    Calls Try.prog 42 #[.slice A n c] w (Cloned w n f) := by
  have hnil := fun (a : Option Addr) (W : World) => Lib.run_eql_slice_nil (P := Try.prog) W 24 5 a n c 0 0 Try.underlying24
  rcases A with _ | ad
  · obtain rfl : c = 0 := ha.2.2.1 rfl
    obtain rfl : n = 0 := by have := ha.1; omega
    clear ha
    go_enter Try.func42, Try.ntmps42
    go_wp2
    go_ret
    exact ⟨_, rfl, Own.nil _ _ _ _ _, Below.refl _ _⟩
  · obtain ⟨i0, hi, hz0, hz1, hz2⟩ := info_parts c8_info
    have Ha := hide ha
    clear ha
    go_enter Try.func42, Try.ntmps42
    go_wp2_with (at_builtin; refine wp_app rfl (.tmp 5) (.tmp 6) _ rfl i0 0 1 Try.underlying24 hi hz0 hz1 hz2 w.heap.size _ 0 (oneF 0) rfl (Own.lit .u8 5 w.heap.size w (oneF 0) #[] 0 (Nat.le_refl _) (by simp [maxLen]) rfl) _ n c f rfl (Ha.out.alloc _) (by simp only [maxLen]; omega) (by omega) (by simp) ?_; intro v1 w1 hown1 hg1)
    have hb1 : Below w.heap.size w w1 := ((Below.refl _ _).alloc (Nat.le_refl _) _).grown hg1 (by simp) (fun _ e => by cases e; exact Nat.le_refl _)
    go_ret
    exact ⟨_, rfl, Own.congr (n := n) (f := catF 0 (oneF 0) f) (by simpa using hown1) (fun i _ => by simp [catF]), hb1⟩
end Go.Proofs.Yteijpklepgenbaa
