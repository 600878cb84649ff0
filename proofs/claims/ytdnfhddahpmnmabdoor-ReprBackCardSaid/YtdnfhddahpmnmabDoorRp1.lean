/- Layer 22: which may be, by the program and by the reference. -/
import Derived.Test.YtdnfhddahpmnmabDoorSltB
namespace Go.Proofs.YtdnfhddahpmnmabDoor
open Go.RowKit Go.PlainAid

def isN (n : Int) : Bool := decide (0 ≤ n) && decide (n ≤ 2147483647)
def noT (s : ByteArray) (a : Bool) : Bool := s.toList.isEmpty && !a
def rpB (k i : Int) (ns : ByteArray) (a : Bool) (vs : ByteArray) (b : Bool) (z : Int) : Bool :=
  if k = 1 then decide (0 < i) && (isN i && (noT ns a && (noT vs b && (z == 0))))
  else if k = 2 ∨ k = 3 ∨ k = 4 then isN i && ((z == 0) && ((i == 0) || noT ns a))
  else if k = 5 then isN z && ((i == 0) && (noT ns a && noT vs b)) else false
theorem isn22 (n : Int) (w : World) : Calls Tryd.prog 36 #[.int .i64 n] w fun e w' => e = .returned (.bool (isN n)) ∧ w = w' := by
  unfold isN
  go_enter Tryd.func36, Tryd.ntmps36
  go_wp2
  all_goals (go_ret; refine ⟨?_, rfl⟩; first | (simp_all; done) | (simp_all; omega))
set_option maxRecDepth 20000 in
set_option maxHeartbeats 3200000 in
theorem right22_1 (i : Int) (ns : ByteArray) (a : Bool) (vs : ByteArray) (b : Bool) (z : Int) (w : World) : Calls Tryd.prog 15 #[.agg #[.int .i64 1, .int .i64 i, .string ns, .bool a, .string vs, .bool b, .int .i64 z]] w fun e w' => e = .returned (.bool (rpB 1 i ns a vs b z)) ∧ Below w.heap.size w w' := by
  obtain ⟨c, hc⟩ : ∃ c, isN i = c := ⟨_, rfl⟩
  have HC := hide hc
  have HR : Hid (rpB 1 i ns a vs b z = (decide (0 < i) && (c && ((ns.toList.isEmpty && !a) && ((vs.toList.isEmpty && !b) && (z == 0)))))) := by
    show _ = _
    unfold rpB noT
    rw [hc]
    rfl
  clear hc
  go_enter Tryd.func15, Tryd.ntmps15
  go_wp2_with (go_at_call 36; refine (isn22 i _).mono ?_; rw [HC.out]; rintro e w' ⟨rfl, rfl⟩)
  all_goals
    go_ret
    refine ⟨?_, (Below.refl _ _).alloc (Nat.le_refl _) _⟩
    rw [HR.out]
    first | (simp_all; done) | (simp_all; intros; omega)
set_option maxRecDepth 20000 in
set_option maxHeartbeats 3200000 in
theorem right22_2 (i : Int) (ns : ByteArray) (a : Bool) (vs : ByteArray) (b : Bool) (z : Int) (w : World) : Calls Tryd.prog 15 #[.agg #[.int .i64 2, .int .i64 i, .string ns, .bool a, .string vs, .bool b, .int .i64 z]] w fun e w' => e = .returned (.bool (rpB 2 i ns a vs b z)) ∧ Below w.heap.size w w' := by
  obtain ⟨c, hc⟩ : ∃ c, isN i = c := ⟨_, rfl⟩
  have HC := hide hc
  have HR : Hid (rpB 2 i ns a vs b z = (c && ((z == 0) && ((i == 0) || (ns.toList.isEmpty && !a))))) := by
    show _ = _
    unfold rpB noT
    rw [hc]
    rfl
  clear hc
  go_enter Tryd.func15, Tryd.ntmps15
  go_wp2_with (go_at_call 36; refine (isn22 i _).mono ?_; rw [HC.out]; rintro e w' ⟨rfl, rfl⟩)
  all_goals
    go_ret
    refine ⟨?_, (Below.refl _ _).alloc (Nat.le_refl _) _⟩
    rw [HR.out]
    first | (simp_all; done) | (simp_all; intros; omega)
set_option maxRecDepth 20000 in
set_option maxHeartbeats 3200000 in
theorem right22_3 (i : Int) (ns : ByteArray) (a : Bool) (vs : ByteArray) (b : Bool) (z : Int) (w : World) : Calls Tryd.prog 15 #[.agg #[.int .i64 3, .int .i64 i, .string ns, .bool a, .string vs, .bool b, .int .i64 z]] w fun e w' => e = .returned (.bool (rpB 3 i ns a vs b z)) ∧ Below w.heap.size w w' := by
  obtain ⟨c, hc⟩ : ∃ c, isN i = c := ⟨_, rfl⟩
  have HC := hide hc
  have HR : Hid (rpB 3 i ns a vs b z = (c && ((z == 0) && ((i == 0) || (ns.toList.isEmpty && !a))))) := by
    show _ = _
    unfold rpB noT
    rw [hc]
    rfl
  clear hc
  go_enter Tryd.func15, Tryd.ntmps15
  go_wp2_with (go_at_call 36; refine (isn22 i _).mono ?_; rw [HC.out]; rintro e w' ⟨rfl, rfl⟩)
  all_goals
    go_ret
    refine ⟨?_, (Below.refl _ _).alloc (Nat.le_refl _) _⟩
    rw [HR.out]
    first | (simp_all; done) | (simp_all; intros; omega)
set_option maxRecDepth 20000 in
set_option maxHeartbeats 3200000 in
theorem right22_4 (i : Int) (ns : ByteArray) (a : Bool) (vs : ByteArray) (b : Bool) (z : Int) (w : World) : Calls Tryd.prog 15 #[.agg #[.int .i64 4, .int .i64 i, .string ns, .bool a, .string vs, .bool b, .int .i64 z]] w fun e w' => e = .returned (.bool (rpB 4 i ns a vs b z)) ∧ Below w.heap.size w w' := by
  obtain ⟨c, hc⟩ : ∃ c, isN i = c := ⟨_, rfl⟩
  have HC := hide hc
  have HR : Hid (rpB 4 i ns a vs b z = (c && ((z == 0) && ((i == 0) || (ns.toList.isEmpty && !a))))) := by
    show _ = _
    unfold rpB noT
    rw [hc]
    rfl
  clear hc
  go_enter Tryd.func15, Tryd.ntmps15
  go_wp2_with (go_at_call 36; refine (isn22 i _).mono ?_; rw [HC.out]; rintro e w' ⟨rfl, rfl⟩)
  all_goals
    go_ret
    refine ⟨?_, (Below.refl _ _).alloc (Nat.le_refl _) _⟩
    rw [HR.out]
    first | (simp_all; done) | (simp_all; intros; omega)
set_option maxRecDepth 20000 in
set_option maxHeartbeats 3200000 in
theorem right22_5 (i : Int) (ns : ByteArray) (a : Bool) (vs : ByteArray) (b : Bool) (z : Int) (w : World) : Calls Tryd.prog 15 #[.agg #[.int .i64 5, .int .i64 i, .string ns, .bool a, .string vs, .bool b, .int .i64 z]] w fun e w' => e = .returned (.bool (rpB 5 i ns a vs b z)) ∧ Below w.heap.size w w' := by
  obtain ⟨c, hc⟩ : ∃ c, isN z = c := ⟨_, rfl⟩
  have HC := hide hc
  have HR : Hid (rpB 5 i ns a vs b z = (c && ((i == 0) && ((ns.toList.isEmpty && !a) && (vs.toList.isEmpty && !b))))) := by
    show _ = _
    unfold rpB noT
    rw [hc]
    rfl
  clear hc
  go_enter Tryd.func15, Tryd.ntmps15
  go_wp2_with (go_at_call 36; refine (isn22 z _).mono ?_; rw [HC.out]; rintro e w' ⟨rfl, rfl⟩)
  all_goals
    go_ret
    refine ⟨?_, (Below.refl _ _).alloc (Nat.le_refl _) _⟩
    rw [HR.out]
    first | (simp_all; done) | (simp_all; intros; omega)
theorem rpB_out {k i : Int} {ns : ByteArray} {a : Bool} {vs : ByteArray} {b : Bool} {z : Int} (h : k < 1 ∨ 5 < k) : rpB k i ns a vs b z = false := by
  unfold rpB
  rw [if_neg (by omega), if_neg (by omega), if_neg (by omega)]
set_option maxRecDepth 20000 in
set_option maxHeartbeats 3200000 in
theorem right22 (k : Int) (i : Int) (ns : ByteArray) (a : Bool) (vs : ByteArray) (b : Bool) (z : Int) (w : World) : Calls Tryd.prog 15 #[.agg #[.int .i64 k, .int .i64 i, .string ns, .bool a, .string vs, .bool b, .int .i64 z]] w fun e w' => e = .returned (.bool (rpB k i ns a vs b z)) ∧ Below w.heap.size w w' := by
  by_cases h : 1 ≤ k ∧ k ≤ 5
  · have : k = 1 ∨ k = 2 ∨ k = 3 ∨ k = 4 ∨ k = 5 := by omega
    rcases this with rfl | rfl | rfl | rfl | rfl
    · exact right22_1 i ns a vs b z w
    · exact right22_2 i ns a vs b z w
    · exact right22_3 i ns a vs b z w
    · exact right22_4 i ns a vs b z w
    · exact right22_5 i ns a vs b z w
  · have H := hide (rpB_out (k := k) (i := i) (ns := ns) (a := a) (vs := vs) (b := b) (z := z) (by omega))
    have n1 : (k == 1) = false := by simp; omega
    have n2 : (k == 2) = false := by simp; omega
    have n3 : (k == 3) = false := by simp; omega
    have n4 : (k == 4) = false := by simp; omega
    have n5 : (k == 5) = false := by simp; omega
    clear h
    go_enter Tryd.func15, Tryd.ntmps15
    go_wp2
    go_ret
    exact ⟨by rw [H.out]; rfl, (Below.refl _ _).alloc (Nat.le_refl _) _⟩
end Go.Proofs.YtdnfhddahpmnmabDoor
