/- The walks of layer 1's four laws: whatever the input they return true, and nothing that was there is written. -/
import Derived.Test.YtgjnmjakpiceiaaOct5
namespace Go.Proofs.Ytgjnmjakpiceiaa
open Go.RowKit

/-- alive, at a call of a law. -/
theorem _root_.Go.RowKit.Below.of {w w1 w' : World} (h : Below w.heap.size w w1) (k : Below w1.heap.size w1 w') : Below w.heap.size w w' := h.trans (k.mono h.size)

set_option maxHeartbeats 400000 in
theorem puts_walk (A : Option Addr) (n c : Nat) (v size : Int) (f : Nat → Int) (w : World) (ha : Rd .u8 w A n c f) :
    Calls Try.prog 3 #[.slice A n c, .int .i64 v, .int .i64 size] w (Yes w) := by
  have Ha := hide ha
  clear ha
  by_cases hn : (1000 : Int) < (n : Int)
  · go_enter Try.func3, Try.ntmps3
    go_wp2_with (go_at_call 10; refine (alive1 _).mono ?_; rintro e w' ⟨rfl, hb⟩)
    go_ret
    exact ⟨rfl, hb⟩
  by_cases he : putE v size = 0
  · have h1 : 1 ≤ size := by unfold putE at he; split at he <;> omega
    have h2 : size ≤ 4 := by unfold putE at he; split at he <;> omega
    have h3 : 0 ≤ v := by unfold putE at he; split at he <;> (try split at he) <;> omega
    have h4 : v < pw size := by unfold putE at he; split at he <;> (try split at he) <;> omega
    have H4 := hide h4
    clear he h4
    go_enter Try.func3, Try.ntmps3
    go_wp2_with fail
    refine (put_okI A n c size v f _ Ha.out (by omega) h1 h2 h3 H4.out).mono ?_
    rintro e w1 ⟨A1, c1, rfl, hr1, hb1⟩
    have Hr1 := hide hr1
    clear hr1
    go_wp2_with fail
    refine (rput_okI A n c size v f _ (Ha.out.below hb1) (by omega) h1 h2 h3 H4.out).mono ?_
    rintro e w2 ⟨A2, c2, rfl, hr2, hb2⟩
    have Hr2 := hide hr2
    clear hr2
    go_wp2_with fail
    refine (rsame_yes _ _ _ _ _ _ _ _ (Hr1.out.below hb2) Hr2.out (fun _ _ => rfl)).mono ?_
    rintro e w3 ⟨rfl, hd3⟩
    have hb3 := drawn_below hd3 w2.heap.size
    go_wp2_with fail
    refine (alive1 _).mono ?_
    rintro e w4 ⟨rfl, hb4⟩
    go_wp2_with fail
    go_ret
    exact ⟨rfl, (hb1.of hb2).of (hb3.of hb4)⟩
  · go_enter Try.func3, Try.ntmps3
    go_wp2_with fail
    refine (put_bad A n c v size _ he).mono ?_
    rintro e w1 ⟨rfl, rfl⟩
    go_wp2_with fail
    refine (rput_bad A n c v size _ he).mono ?_
    rintro e w1 ⟨rfl, rfl⟩
    go_wp2_with fail
    refine (rsame_yes _ _ 0 _ _ (oneF 0) (oneF 0) _ (Rd.nil _ _ _) (Rd.nil _ _ _) (fun _ _ => rfl)).mono ?_
    rintro e w3 ⟨rfl, hd3⟩
    have hb3 := drawn_below hd3 w.heap.size
    go_wp2_with fail
    refine (alive1 _).mono ?_
    rintro e w4 ⟨rfl, hb4⟩
    go_wp2_with fail
    go_ret
    exact ⟨rfl, hb3.of hb4⟩
end Go.Proofs.Ytgjnmjakpiceiaa
