/- Layer 8: the examples: a flag's bits, which flags types 1 and 4 use, the flags' names, the name of type 11. -/
import Derived.Test.YtfkjgjdbjmcioaaDoorTok2
namespace Go.Proofs.YtfkjgjdbjmcioaaDoor
open Go.RowKit Go.PlainAid

set_option maxRecDepth 20000 in
set_option maxHeartbeats 1600000 in
theorem ones_c (x : Int) (w : World) (h : x = 1 ∨ x = 2 ∨ x = 4 ∨ x = 8 ∨ x = 16 ∨ x = 32) : Calls Tryd.prog 73 #[.int .u64 x] w fun e w' => e = .returned (.int .i64 1) ∧ w = w' := by
  have hin : ∀ w, Calls Tryd.prog 101 #[.int .u64 x] w fun e w' => e = .returned (.int .i64 1) ∧ w = w' := by
    intro w
    rcases h with rfl | rfl | rfl | rfl | rfl | rfl <;>
    · go_enter Tryd.func101, Tryd.ntmps101
      go_wp2
      go_ret
      exact ⟨by kernel_rfl, rfl⟩
  have hw : IntKind.u64.wrap x = x := by
    rcases h with rfl | rfl | rfl | rfl | rfl | rfl <;> rfl
  go_enter Tryd.func73, Tryd.ntmps73
  go_wp2_with (go_at_call 101; refine (hin _).mono ?_; rintro e w' ⟨rfl, rfl⟩)
  go_ret
  exact ⟨rfl, rfl⟩
set_option maxHeartbeats 1600000 in
theorem used_c (t : Int) (w : World) (h : t = 1 ∨ t = 4) : Calls Tryd.prog 22 #[.int .i64 t] w fun e w' => e = .returned (.int .i64 (if t = 1 then 45 else 1)) ∧ w = w' := by
  rcases h with rfl | rfl <;>
  · go_enter Tryd.func22, Tryd.ntmps22
    go_wp2
    go_ret
    exact ⟨by rfl, rfl⟩
set_option maxHeartbeats 1600000 in
theorem streams_c (w : World) : Calls Tryd.prog 28 #[.int .i64 4] w fun e w' => e = .returned (.int .i64 0) ∧ w = w' := by
  go_enter Tryd.func28, Tryd.ntmps28
  go_wp2
  go_ret
  exact ⟨by rfl, rfl⟩
def ENDS : ByteArray := ⟨#[69, 78, 68, 95, 83, 84, 82, 69, 65, 77]⟩
def ENDH : ByteArray := ⟨#[69, 78, 68, 95, 72, 69, 65, 68, 69, 82, 83]⟩
def ACK : ByteArray := ⟨#[65, 67, 75]⟩
set_option maxHeartbeats 1600000 in
theorem fname_c1 (w : World) : Calls Tryd.prog 74 #[.int .i64 4, .int .i64 1] w fun e w' => e = .returned (.string ACK) ∧ w = w' := by
  go_enter Tryd.func74, Tryd.ntmps74
  go_wp2_with (go_at_call 28; refine (streams_c _).mono ?_; rintro e w' ⟨rfl, rfl⟩)
  go_ret
  exact ⟨by rfl, rfl⟩
set_option maxRecDepth 100000 in
set_option maxHeartbeats 1600000 in
theorem small_c (w : World) : Calls Tryd.prog 141 #[.int .i64 11] w fun e w' => e = .returned (.string ⟨#[49, 49]⟩) ∧ w = w' := by
  go_enter Tryd.func141, Tryd.ntmps141
  go_wp2
  go_ret
  exact ⟨by kernel_rfl, rfl⟩
set_option maxRecDepth 20000 in
set_option maxHeartbeats 1600000 in
theorem format_c (w : World) : Calls Tryd.prog 119 #[.int .i64 11, .int .i64 10] w fun e w' => e = .returned (.string ⟨#[49, 49]⟩) ∧ Below w.heap.size w w' := by
  go_enter Tryd.func119, Tryd.ntmps119
  go_wp2_with fail
  refine (small_c _).mono ?_
  rintro e w' ⟨rfl, rfl⟩
  go_wp2_with fail
  go_ret
  exact ⟨by rfl, by repeat (first | exact Below.refl _ _ | refine Below.alloc ?_ (by simp) _)⟩
set_option maxHeartbeats 1600000 in
theorem text_c (w : World) : Calls Tryd.prog 36 #[.int .i64 11] w fun e w' => e = .returned (.string ⟨#[49, 49]⟩) ∧ Below w.heap.size w w' := by
  have h3 : ∀ w, Calls Tryd.prog 102 #[.int .i64 11] w fun e w' => e = .returned (.string ⟨#[49, 49]⟩) ∧ Below w.heap.size w w' := by
    intro w
    go_enter Tryd.func102, Tryd.ntmps102
    go_wp2_with fail
    refine (format_c _).mono ?_
    rintro e w' ⟨rfl, hb⟩
    have HB := hide hb
    clear hb
    go_wp2_with fail
    go_ret
    exact ⟨rfl, HB.out⟩
  have h4 : ∀ w, Calls Tryd.prog 78 #[.int .i64 11] w fun e w' => e = .returned (.string ⟨#[49, 49]⟩) ∧ Below w.heap.size w w' := by
    intro w
    go_enter Tryd.func78, Tryd.ntmps78
    go_wp2_with fail
    refine (h3 _).mono ?_
    rintro e w' ⟨rfl, hb⟩
    have HB := hide hb
    clear hb
    go_wp2_with fail
    go_ret
    exact ⟨rfl, HB.out⟩
  go_enter Tryd.func36, Tryd.ntmps36
  go_wp2_with fail
  refine (h4 _).mono ?_
  rintro e w' ⟨rfl, hb⟩
  have HB := hide hb
  clear hb
  go_wp2_with fail
  go_ret
  exact ⟨rfl, HB.out⟩
def TYPE11 : ByteArray := ⟨#[84, 89, 80, 69, 95, 49, 49]⟩
set_option maxHeartbeats 1600000 in
theorem name_c (w : World) : Calls Tryd.prog 16 #[.int .i64 11] w fun e w' => e = .returned (.string TYPE11) ∧ Below w.heap.size w w' := by
  have k1 : ∀ w, Calls Tryd.prog 20 #[.int .i64 11] w fun e w' => e = .returned (.bool false) ∧ w = w' := by
    intro w
    go_enter Tryd.func20, Tryd.ntmps20
    go_wp2
    go_ret
    exact ⟨by rfl, rfl⟩
  have k2 : ∀ w, Calls Tryd.prog 70 #[.int .i64 11] w fun e w' => e = .returned (.bool true) ∧ w = w' := by
    intro w
    go_enter Tryd.func70, Tryd.ntmps70
    go_wp2
    go_ret
    exact ⟨by rfl, rfl⟩
  go_enter Tryd.func16, Tryd.ntmps16
  go_wp2_with (first
    | (go_at_call 20; refine (k1 _).mono ?_; rintro e w' ⟨rfl, rfl⟩)
    | (go_at_call 70; refine (k2 _).mono ?_; rintro e w' ⟨rfl, rfl⟩)
    | (go_at_call 36; refine (text_c _).mono ?_; rintro e w' ⟨rfl, hb⟩))
  have HB := hide hb
  clear hb
  go_ret
  exact ⟨by rfl, HB.out⟩
end Go.Proofs.YtfkjgjdbjmcioaaDoor
