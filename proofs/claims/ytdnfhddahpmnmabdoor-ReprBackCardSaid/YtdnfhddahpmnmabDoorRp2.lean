/- Layer 22: which may be, by the reference. -/
import Derived.Test.YtdnfhddahpmnmabDoorRp1
namespace Go.Proofs.YtdnfhddahpmnmabDoor
open Go.RowKit Go.PlainAid

set_option maxRecDepth 20000 in
set_option maxHeartbeats 3200000 in
theorem rright22_1 (i : Int) (ns : ByteArray) (a : Bool) (vs : ByteArray) (b : Bool) (z : Int) (w : World) : Calls Tryd.prog 16 #[.agg #[.int .i64 1, .int .i64 i, .string ns, .bool a, .string vs, .bool b, .int .i64 z]] w fun e w' => e = .returned (.bool (rpB 1 i ns a vs b z)) ∧ Below w.heap.size w w' := by
  have HR : Hid (rpB 1 i ns a vs b z = (decide (0 < i) && ((decide (0 ≤ i) && decide (i ≤ 2147483647)) && ((ns.toList.isEmpty && !a) && ((vs.toList.isEmpty && !b) && (z == 0)))))) := by
    show _ = _
    unfold rpB noT isN
    rfl
  go_enter Tryd.func16, Tryd.ntmps16
  go_wp2
  all_goals
    go_ret
    refine ⟨?_, (Below.refl _ _).alloc (Nat.le_refl _) _⟩
    rw [HR.out]
    first | (simp_all; done) | (simp_all; omega) | (simp_all; intros; omega)
set_option maxRecDepth 20000 in
set_option maxHeartbeats 3200000 in
theorem rright22_2 (i : Int) (ns : ByteArray) (a : Bool) (vs : ByteArray) (b : Bool) (z : Int) (w : World) : Calls Tryd.prog 16 #[.agg #[.int .i64 2, .int .i64 i, .string ns, .bool a, .string vs, .bool b, .int .i64 z]] w fun e w' => e = .returned (.bool (rpB 2 i ns a vs b z)) ∧ Below w.heap.size w w' := by
  have HR : Hid (rpB 2 i ns a vs b z = ((decide (0 ≤ i) && decide (i ≤ 2147483647)) && ((z == 0) && ((i == 0) || (ns.toList.isEmpty && !a))))) := by
    show _ = _
    unfold rpB noT isN
    rfl
  go_enter Tryd.func16, Tryd.ntmps16
  go_wp2
  all_goals
    go_ret
    refine ⟨?_, (Below.refl _ _).alloc (Nat.le_refl _) _⟩
    rw [HR.out]
    first | (simp_all; done) | (simp_all; omega) | (simp_all; intros; omega)
set_option maxRecDepth 20000 in
set_option maxHeartbeats 3200000 in
theorem rright22_3 (i : Int) (ns : ByteArray) (a : Bool) (vs : ByteArray) (b : Bool) (z : Int) (w : World) : Calls Tryd.prog 16 #[.agg #[.int .i64 3, .int .i64 i, .string ns, .bool a, .string vs, .bool b, .int .i64 z]] w fun e w' => e = .returned (.bool (rpB 3 i ns a vs b z)) ∧ Below w.heap.size w w' := by
  have HR : Hid (rpB 3 i ns a vs b z = ((decide (0 ≤ i) && decide (i ≤ 2147483647)) && ((z == 0) && ((i == 0) || (ns.toList.isEmpty && !a))))) := by
    show _ = _
    unfold rpB noT isN
    rfl
  go_enter Tryd.func16, Tryd.ntmps16
  go_wp2
  all_goals
    go_ret
    refine ⟨?_, (Below.refl _ _).alloc (Nat.le_refl _) _⟩
    rw [HR.out]
    first | (simp_all; done) | (simp_all; omega) | (simp_all; intros; omega)
set_option maxRecDepth 20000 in
set_option maxHeartbeats 3200000 in
theorem rright22_4 (i : Int) (ns : ByteArray) (a : Bool) (vs : ByteArray) (b : Bool) (z : Int) (w : World) : Calls Tryd.prog 16 #[.agg #[.int .i64 4, .int .i64 i, .string ns, .bool a, .string vs, .bool b, .int .i64 z]] w fun e w' => e = .returned (.bool (rpB 4 i ns a vs b z)) ∧ Below w.heap.size w w' := by
  have HR : Hid (rpB 4 i ns a vs b z = ((decide (0 ≤ i) && decide (i ≤ 2147483647)) && ((z == 0) && ((i == 0) || (ns.toList.isEmpty && !a))))) := by
    show _ = _
    unfold rpB noT isN
    rfl
  go_enter Tryd.func16, Tryd.ntmps16
  go_wp2
  all_goals
    go_ret
    refine ⟨?_, (Below.refl _ _).alloc (Nat.le_refl _) _⟩
    rw [HR.out]
    first | (simp_all; done) | (simp_all; omega) | (simp_all; intros; omega)
set_option maxRecDepth 20000 in
set_option maxHeartbeats 3200000 in
theorem rright22_5 (i : Int) (ns : ByteArray) (a : Bool) (vs : ByteArray) (b : Bool) (z : Int) (w : World) : Calls Tryd.prog 16 #[.agg #[.int .i64 5, .int .i64 i, .string ns, .bool a, .string vs, .bool b, .int .i64 z]] w fun e w' => e = .returned (.bool (rpB 5 i ns a vs b z)) ∧ Below w.heap.size w w' := by
  have HR : Hid (rpB 5 i ns a vs b z = ((decide (0 ≤ z) && decide (z ≤ 2147483647)) && ((i == 0) && ((ns.toList.isEmpty && !a) && (vs.toList.isEmpty && !b))))) := by
    show _ = _
    unfold rpB noT isN
    rfl
  go_enter Tryd.func16, Tryd.ntmps16
  go_wp2
  all_goals
    go_ret
    refine ⟨?_, (Below.refl _ _).alloc (Nat.le_refl _) _⟩
    rw [HR.out]
    first | (simp_all; done) | (simp_all; omega) | (simp_all; intros; omega)
set_option maxRecDepth 20000 in
set_option maxHeartbeats 3200000 in
theorem rright22 (k : Int) (i : Int) (ns : ByteArray) (a : Bool) (vs : ByteArray) (b : Bool) (z : Int) (w : World) : Calls Tryd.prog 16 #[.agg #[.int .i64 k, .int .i64 i, .string ns, .bool a, .string vs, .bool b, .int .i64 z]] w fun e w' => e = .returned (.bool (rpB k i ns a vs b z)) ∧ Below w.heap.size w w' := by
  by_cases h : 1 ≤ k ∧ k ≤ 5
  · have : k = 1 ∨ k = 2 ∨ k = 3 ∨ k = 4 ∨ k = 5 := by omega
    rcases this with rfl | rfl | rfl | rfl | rfl
    · exact rright22_1 i ns a vs b z w
    · exact rright22_2 i ns a vs b z w
    · exact rright22_3 i ns a vs b z w
    · exact rright22_4 i ns a vs b z w
    · exact rright22_5 i ns a vs b z w
  · have H := hide (rpB_out (k := k) (i := i) (ns := ns) (a := a) (vs := vs) (b := b) (z := z) (by omega))
    by_cases h1 : k < 1
    · have d1 : decide (k < 1) = true := decide_eq_true h1
      clear h h1
      go_enter Tryd.func16, Tryd.ntmps16
      go_wp2
      go_ret
      exact ⟨by rw [H.out]; rfl, (Below.refl _ _).alloc (Nat.le_refl _) _⟩
    · have d1 : decide (k < 1) = false := decide_eq_false h1
      have d2 : decide (5 < k) = true := decide_eq_true (by omega)
      clear h h1
      go_enter Tryd.func16, Tryd.ntmps16
      go_wp2
      go_ret
      exact ⟨by rw [H.out]; rfl, (Below.refl _ _).alloc (Nat.le_refl _) _⟩
end Go.Proofs.YtdnfhddahpmnmabDoor
