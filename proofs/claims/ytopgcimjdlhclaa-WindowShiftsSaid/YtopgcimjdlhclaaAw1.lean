/- Layer 37: what was told last, on both sides. -/
import Derived.Test.YtopgcimjdlhclaaMA
import Derived.Test.YtopgcimjdlhclaaVal
import Derived.RegionTactic
import Derived.ChangeAlike
import Derived.Deep.RegionHeld3
import Derived.Laws.ResultCell
namespace Go.Proofs.Ytopgcimjdlhclaa
open Go.RowKit

/-- A struct of two cells is stored, cell by cell. -/
theorem store2 {w : World} {p : Nat} {T : TypeId} {a0 a1 : Value} (h : w.heap[p]? = some (.cells #[a0, a1] T (0, 0))) (b0 b1 : Value) :
    (w.cell? ⟨p, 0, none⟩ = some a0 ∧ w.frozen? ⟨p, 0, none⟩ = false) ∧
    ((w.setCell ⟨p, 0, none⟩ b0).cell? ⟨p, 1, none⟩ = some a1 ∧ (w.setCell ⟨p, 0, none⟩ b0).frozen? ⟨p, 1, none⟩ = false) ∧
    ((w.setCell ⟨p, 0, none⟩ b0).setCell ⟨p, 1, none⟩ b1).heap[p]? = some (.cells #[b0, b1] T (0, 0)) := by
  have h1 := setRow w p 0 b0 h
  have h2 := setRow _ p 1 b1 h1
  simp only [List.setIfInBounds_toArray, List.set_cons_zero, List.set_cons_succ] at h1 h2
  exact ⟨⟨(row2 h).1, frozenRow h 0⟩, ⟨(row2 h1).2, frozenRow h1 1⟩, h2⟩
theorem below2 {B : Nat} {w w' : World} {p : Nat} (h : Below B w w') (hp : B ≤ p) (b0 b1 : Value) : Below B w ((w'.setCell ⟨p, 0, none⟩ b0).setCell ⟨p, 1, none⟩ b1) := (h.setCell hp _).setCell hp _
def byB (t : Bool) (l id : Int) : Bool := t && decide (l < id)
theorem beyond37 (t : Bool) (l id : Int) (w : World) : Calls Try.prog 26 #[.agg #[.bool t, .int .i64 l], .int .i64 id] w fun e w' => e = .returned (.bool (byB t l id)) ∧ Below w.heap.size w w' := by
  unfold byB
  cases t
  all_goals
    go_enter Try.func26, Try.ntmps26
    go_wp2
    go_ret
    exact ⟨by simp, by go_grown⟩
theorem last37 (t : Bool) (l : Int) (w : World) : Calls Try.prog 29 #[.agg #[.bool t, .int .i64 l]] w fun e w' => e = .returned (.tuple #[.int .i64 l, .bool t]) ∧ Below w.heap.size w w' := by
  go_enter Try.func29, Try.ntmps29
  go_wp2_with fail
  go_quiet (fail)
  go_wp2_with fail
  go_ret2
  exact ⟨rfl, ((Below.refl _ _).alloc (Nat.le_refl _) _).trans (drawn_below ⟨_, rfl⟩ _)⟩
def tellB (t : Bool) (l n : Int) : Bool := decide (0 ≤ n) && decide (n ≤ 2147483647) && !byB t l n
set_option maxHeartbeats 1600000 in
theorem tell37 (t : Bool) (l n : Int) (w : World) : Calls Try.prog 27 #[.agg #[.bool t, .int .i64 l], .int .i64 n] w fun e w' => e = .returned (.tuple #[.agg #[.bool (tellB t l n), .int .i64 (if tellB t l n then n else 0)], .bool (tellB t l n)]) ∧ Below w.heap.size w w' := by
  have hb := fun W => beyond37 t l n W
  have HB1 : Hid (Below w.heap.size w ((w.alloc (.cells #[.bool t, .int .i64 l] 42)).alloc (.cells #[.bool false, .int .i64 0] 42))) := ((Below.refl _ _).alloc (Nat.le_refl _) _).alloc (by simp) _
  have Rz : Hid (((w.alloc (.cells #[.bool t, .int .i64 l] 42)).alloc (.cells #[.bool false, .int .i64 0] 42)).heap[w.heap.size + 1]? = some (.cells #[.bool false, .int .i64 0] 42)) := by
    have := heap_alloc_new (w.alloc (.cells #[.bool t, .int .i64 l] 42)) (.cells #[.bool false, .int .i64 0] 42)
    show _ = _
    simpa using this
  have Rz' := hide (heap_alloc_new (w.alloc (.cells #[.bool t, .int .i64 l] 42)) (.cells #[.bool false, .int .i64 0] 42))
  have Rs := hide (keepRow (heap_alloc_new w (.cells #[.bool t, .int .i64 l] 42)) ((Below.refl _ _).alloc (Nat.le_refl _) (.cells #[.bool false, .int .i64 0] 42)))
  by_cases h1 : n < 0
  · have e1 : tellB t l n = false := by unfold tellB; simp; omega
    rw [e1]
    simp only [Bool.false_eq_true, if_false]
    go_enter Try.func27, Try.ntmps27
    go_wp2_with fail
    refine bodyPost_ret (v := .tuple #[.agg #[.bool false, .int .i64 0], .bool false]) ?_ rfl ⟨rfl, ?_⟩
    · rw [results_cell_tmp rfl]
      go_simp
    · exact HB1.out
  by_cases h2 : 2147483647 < n
  · have e1 : tellB t l n = false := by unfold tellB; simp; omega
    rw [e1]
    simp only [Bool.false_eq_true, if_false]
    go_enter Try.func27, Try.ntmps27
    go_wp2_with fail
    refine bodyPost_ret (v := .tuple #[.agg #[.bool false, .int .i64 0], .bool false]) ?_ rfl ⟨rfl, ?_⟩
    · rw [results_cell_tmp rfl]
      go_simp
    · exact HB1.out
  have d1 : decide (n < 0) = false := by simp; omega
  have d2 : decide (2147483647 < n) = false := by simp; omega
  have e1 : tellB t l n = !byB t l n := by
    unfold tellB
    have a1 : decide (0 ≤ n) = true := by simp; omega
    have a2 : decide (n ≤ 2147483647) = true := by simp; omega
    rw [a1, a2]
    rfl
  rw [e1]
  clear h1 h2 e1
  obtain ⟨s0, s1⟩ := row2 Rs.out
  generalize byB t l n = bb at *
  cases bb with
  | true =>
    simp only [Bool.not_true, Bool.false_eq_true, if_false]
    go_enter Try.func27, Try.ntmps27
    go_wp2_with fail
    refine (hb _).mono ?_
    rintro e w1 ⟨rfl, hv1⟩
    obtain ⟨⟨c0, f0⟩, ⟨c1, f1⟩, r2⟩ := store2 (keepRow Rz.out hv1) (.bool false) (.int .i64 0)
    have HB2 := hide (below2 (HB1.out.of hv1) (p := w.heap.size + 1) (by omega) (.bool false) (.int .i64 0))
    have R2 := hide r2
    clear r2 hv1
    go_wp2_with fail
    obtain ⟨d0, d1⟩ := row2 R2.out
    refine bodyPost_ret (v := .tuple #[.agg #[.bool false, .int .i64 0], .bool false]) ?_ rfl ⟨rfl, HB2.out⟩
    rw [results_cell_tmp rfl]
    go_simp
  | false =>
    simp only [Bool.not_false, if_true]
    go_enter Try.func27, Try.ntmps27
    go_wp2_with fail
    refine (hb _).mono ?_
    rintro e w1 ⟨rfl, hv1⟩
    obtain ⟨⟨c0, f0⟩, ⟨c1, f1⟩, r2⟩ := store2 (keepRow Rz.out hv1) (.bool true) (.int .i64 n)
    have HB2 := hide (below2 (HB1.out.of hv1) (p := w.heap.size + 1) (by omega) (.bool true) (.int .i64 n))
    have R2 := hide r2
    clear r2 hv1
    go_wp2_with fail
    obtain ⟨d0, d1⟩ := row2 R2.out
    refine bodyPost_ret (v := .tuple #[.agg #[.bool true, .int .i64 n], .bool true]) ?_ rfl ⟨rfl, HB2.out⟩
    rw [results_cell_tmp rfl]
    go_simp
end Go.Proofs.Ytopgcimjdlhclaa
