/- Layer 20: the reference's names and values. -/
import Derived.Test.YtlpbonfapglocaaSt3
namespace Go.Proofs.Ytlpbonfapglocaa
open Go.RowKit

def rnm (z : Int) : ByteArray := if 1 ≤ z ∧ z ≤ 61 then nmB (z - 1).toNat else ⟨#[]⟩
def rlt (z : Int) : ByteArray := if 36 ≤ z ∧ z ≤ 61 then nmB (z - 1).toNat else ⟨#[]⟩
def rvl (z : Int) : ByteArray := if 1 ≤ z ∧ z ≤ 61 then vlB (z - 1).toNat else ⟨#[]⟩
theorem rnm_at (k : Nat) (h : k < 61) : rnm ((k : Int) + 1) = nmB k := by
  have e : ((k : Int) + 1 - 1).toNat = k := by omega
  rw [rnm, if_pos (by omega), e]
theorem rvl_at (k : Nat) (h : k < 61) : rvl ((k : Int) + 1) = vlB k := by
  have e : ((k : Int) + 1 - 1).toNat = k := by omega
  rw [rvl, if_pos (by omega), e]
theorem rnm_out (z : Int) (h : z < 1 ∨ 61 < z) : rnm z = ⟨#[]⟩ := by rw [rnm, if_neg (by omega)]
theorem nm_some (k : Nat) (h : k < 61) : nmB k ≠ ⟨#[]⟩ := by
  have a : ∀ i : Fin 61, nmB i.val ≠ ⟨#[]⟩ := by decide +kernel
  exact a ⟨k, h⟩
theorem vl_some : ∀ i : Fin 61, vlB i.val = ⟨#[]⟩ ∨ (1 ≤ i.val ∧ i.val ≤ 13) ∨ i.val = 15 := by decide +kernel
set_option maxHeartbeats 3200000 in
theorem rvalue_any (z : Int) (w : World) : Calls Try.prog 65 #[.int .i64 z] w (fun e w' => e = .returned (.string (rvl z)) ∧ w' = w) := by
  go_enter Try.func65, Try.ntmps65
  go_wp2_with fail
  all_goals (first | (rename_i h; replace h := eq_of_beq h; rw [h]; go_ret; exact ⟨by kernel_rfl, rfl⟩) | skip)
  simp only [beq_eq_false_iff_ne] at *
  have e : rvl z = ⟨#[]⟩ := by
    by_cases hz : 1 ≤ z ∧ z ≤ 61
    · rw [rvl, if_pos hz]
      rcases vl_some ⟨(z - 1).toNat, by omega⟩ with h | h | h
      · exact h
      · simp only at h; omega
      · simp only at h; omega
    · rw [rvl, if_neg hz]
  rw [e]
  go_ret
  exact ⟨rfl, rfl⟩
set_option maxHeartbeats 3200000 in
theorem rlater_any (z : Int) (w : World) : Calls Try.prog 72 #[.int .i64 z] w (fun e w' => e = .returned (.string (rlt z)) ∧ w' = w) := by
  go_enter Try.func72, Try.ntmps72
  go_wp2_with fail
  all_goals (first | (rename_i h; replace h := eq_of_beq h; rw [h]; go_ret; exact ⟨by kernel_rfl, rfl⟩) | skip)
  simp only [beq_eq_false_iff_ne] at *
  have e : rlt z = ⟨#[]⟩ := by rw [rlt, if_neg (by omega)]
  rw [e]
  go_ret
  exact ⟨rfl, rfl⟩
set_option maxHeartbeats 3200000 in
theorem rname_any (z : Int) (w : World) : Calls Try.prog 64 #[.int .i64 z] w (fun e w' => e = .returned (.string (rnm z)) ∧ w' = w) := by
  have HL : Hid (∀ W, Calls Try.prog 72 #[.int .i64 z] W (fun e w' => e = .returned (.string (rlt z)) ∧ w' = W)) := fun W => rlater_any z W
  go_enter Try.func64, Try.ntmps64
  go_wp2_with fail
  all_goals (first | (rename_i h; replace h := eq_of_beq h; rw [h]; go_ret; exact ⟨by kernel_rfl, rfl⟩) | skip)
  have e : rlt z = rnm z := by
    simp only [beq_eq_false_iff_ne] at *
    by_cases hz : 36 ≤ z ∧ z ≤ 61
    · rw [rlt, if_pos hz, rnm, if_pos (by omega)]
    · rw [rlt, if_neg hz, rnm, if_neg (by omega)]
  refine (HL.out _).mono ?_
  rintro e w1 ⟨rfl, rfl⟩
  go_wp2_with fail
  go_ret
  exact ⟨rfl, rfl⟩
end Go.Proofs.Ytlpbonfapglocaa
