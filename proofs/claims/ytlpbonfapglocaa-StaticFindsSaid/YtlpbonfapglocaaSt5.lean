/- Layer 20: the reference's At; the walk of StaticAt. -/
import Derived.Test.YtlpbonfapglocaaSt4
namespace Go.Proofs.Ytlpbonfapglocaa
open Go.RowKit

theorem str_some {a : ByteArray} (h : a ≠ ⟨#[]⟩) : a.toList.isEmpty = false := by
  cases e : a.toList.isEmpty
  · rfl
  · have e' : a.toList = [] := by simpa using e
    have h2 := str_ne h
    rw [e'] at h2
    exact absurd h2 (by decide +kernel)

set_option maxHeartbeats 1600000 in
theorem rat_out (z : Int) (w : World) (h : z < 1 ∨ 61 < z) : Calls Try.prog 36 #[.int .i64 z] w fun e w' => e = .returned (.tuple #[.agg #[.string ⟨#[]⟩, .string ⟨#[]⟩, .bool false], .bool false]) ∧ Below w.heap.size w w' := by
  have R0 := hide (heap_alloc_new w (.cells #[.string ⟨#[]⟩, .string ⟨#[]⟩, .bool false] 60))
  have HN : Hid (∀ W, Calls Try.prog 64 #[.int .i64 z] W (fun e w' => e = .returned (.string ⟨#[]⟩) ∧ w' = W)) := fun W => by
    have := rname_any z W
    rwa [rnm_out z h] at this
  go_enter Try.func36, Try.ntmps36
  go_wp2_with fail
  refine (HN.out _).mono ?_
  rintro e w1 ⟨rfl, rfl⟩
  go_wp2_with fail
  refine bodyPost_ret (v := .tuple #[.agg #[.string ⟨#[]⟩, .string ⟨#[]⟩, .bool false], .bool false]) ?_ rfl ⟨rfl, ?_⟩
  · rw [results_cell_tmp rfl]
    go_simp
  · repeat (first | exact Below.refl _ _ | refine Below.setCell ?_ (by simp) _ | refine Below.alloc ?_ (by simp) _)
set_option maxHeartbeats 1600000 in
theorem rat_in (k : Nat) (w : World) (hk : k < 61) : Calls Try.prog 36 #[.int .i64 ((k : Int) + 1)] w fun e w' => e = .returned (.tuple #[.agg #[.string (nmB k), .string (vlB k), .bool false], .bool true]) ∧ Below w.heap.size w w' := by
  have hx := nm_some k hk
  obtain ⟨N, hN⟩ : ∃ N, nmB k = N := ⟨_, rfl⟩
  obtain ⟨V, hV⟩ : ∃ V, vlB k = V := ⟨_, rfl⟩
  have HN : Hid (∀ W, Calls Try.prog 64 #[.int .i64 ((k : Int) + 1)] W (fun e w' => e = .returned (.string N) ∧ w' = W)) := fun W => by
    have := rname_any ((k : Int) + 1) W
    rwa [rnm_at k hk, hN] at this
  have HV : Hid (∀ W, Calls Try.prog 65 #[.int .i64 ((k : Int) + 1)] W (fun e w' => e = .returned (.string V) ∧ w' = W)) := fun W => by
    have := rvalue_any ((k : Int) + 1) W
    rwa [rvl_at k hk, hV] at this
  rw [hN] at hx ⊢
  rw [hV]
  have t0 := str_some hx
  have R1 := hide (heap_alloc_new w (.cells #[.string ⟨#[]⟩, .string ⟨#[]⟩, .bool false] 60))
  have B0 : Hid (Below w.heap.size w (w.alloc (.cells #[.string ⟨#[]⟩, .string ⟨#[]⟩, .bool false] 60))) := (Below.refl _ _).alloc (Nat.le_refl _) _
  clear hN hV hx
  have hl1 := rowLt R1.out
  have S1 := setRow _ w.heap.size 0 (.string N) R1.out
  have S2 := setRow _ w.heap.size 1 (.string V) S1
  have S3 := setRow _ w.heap.size 2 (.bool false) S2
  simp only [List.setIfInBounds_toArray, List.set_cons_zero, List.set_cons_succ] at S1 S2 S3
  have HS3 := hide S3
  have z00 := frozenRow R1.out 0
  have z11 := frozenRow S1 1
  have z22 := frozenRow S2 2
  obtain ⟨c00, c01, c02⟩ := row3s R1.out
  obtain ⟨c10, c11, c12⟩ := row3s S1
  obtain ⟨c20, c21, c22⟩ := row3s S2
  clear S1 S2 S3
  go_enter Try.func36, Try.ntmps36
  go_wp2_with fail
  refine (HN.out _).mono ?_
  rintro e w1 ⟨rfl, rfl⟩
  go_wp2_with fail
  refine (HN.out _).mono ?_
  rintro e w1 ⟨rfl, rfl⟩
  go_wp2_with fail
  refine (HV.out _).mono ?_
  rintro e w1 ⟨rfl, rfl⟩
  go_wp2_with fail
  obtain ⟨e0, e1, e2⟩ := row3s HS3.out
  refine bodyPost_ret (v := .tuple #[.agg #[.string N, .string V, .bool false], .bool true]) ?_ rfl ⟨rfl, ?_⟩
  · rw [results_cell_tmp rfl]
    go_simp
  · exact (Below.refl _ _).alloc (Nat.le_refl _) _
end Go.Proofs.Ytlpbonfapglocaa
