/- Layer 18: the contracts of 'prefix.Put' and of its reference. -/
import Derived.Test.YteijpklepgenbaaPfx1
namespace Go.Proofs.Yteijpklepgenbaa
open Go.RowKit

/-- Why there are no bytes. -/
def pfE (first b n : Int) : Int := if b < 1 ∨ 8 < b ∨ first < 0 ∨ 255 < first ∨ first % p8 b ≠ 0 then 1 else if n < 0 ∨ 2147483647 < n then 5 else 0
theorem pfE_ok {first b n : Int} (h : pfE first b n = 0) : 1 ≤ b ∧ b ≤ 8 ∧ 0 ≤ first ∧ first ≤ 255 ∧ first % p8 b = 0 ∧ 0 ≤ n ∧ n ≤ 2147483647 := by
  unfold pfE at h
  split at h
  · cases h
  · rename_i h1
    split at h
    · cases h
    · rename_i h2
      refine ⟨by omega, by omega, by omega, by omega, ?_, by omega, by omega⟩
      by_cases h3 : first % p8 b = 0
      · exact h3
      · exact absurd (.inr (.inr (.inr (.inr h3)))) h1

set_option maxHeartbeats 1600000 in
theorem pput_arg (first b n : Int) (w : World) (h : b < 1 ∨ 8 < b ∨ first < 0 ∨ 255 < first ∨ first % p8 b ≠ 0) :
    Calls Try.prog 13 #[.int .i64 first, .int .i64 b, .int .i64 n] w fun e w' => e = .returned (.tuple #[.slice none 0 0, .int .i64 1]) ∧ w = w' := by
  by_cases hb : b < 1 ∨ 8 < b
  · go_enter Try.func13, Try.ntmps13
    go_wp2
    go_step3
    go_wp2_with fail
    refine (wid_no b _ hb).mono ?_
    rintro e w' ⟨rfl, rfl⟩
    go_wp2_with fail
    try rw [Exit.noGoto_ret]
    go_ret2
    exact ⟨rfl, rfl⟩
  have h1 : 1 ≤ b := by omega
  have h2 : b ≤ 8 := by omega
  by_cases hf : first < 0
  · have d1 : decide (first < 0) = true := by simpa using hf
    go_enter Try.func13, Try.ntmps13
    go_wp2
    go_step3
    go_wp2_with fail
    refine (wid_yes b _ h1 h2).mono ?_
    rintro e w' ⟨rfl, rfl⟩
    go_wp2_with fail
    try rw [Exit.noGoto_ret]
    go_ret2
    exact ⟨rfl, rfl⟩
  have d1 : decide (first < 0) = false := by simpa using hf
  by_cases hg : 255 < first
  · have d2 : decide (255 < first) = true := by simpa using hg
    go_enter Try.func13, Try.ntmps13
    go_wp2
    go_step3
    go_wp2_with fail
    refine (wid_yes b _ h1 h2).mono ?_
    rintro e w' ⟨rfl, rfl⟩
    go_wp2_with fail
    try rw [Exit.noGoto_ret]
    go_ret2
    exact ⟨rfl, rfl⟩
  have d2 : decide (255 < first) = false := by simpa using hg
  have hm : first % p8 b ≠ 0 := by
    rcases h with h | h | h | h | h
    · omega
    · omega
    · omega
    · omega
    · exact h
  have d3 : (bits .and .i64 first (p8 b - 1) != 0) = true := by
    rw [and_p8 (by omega) (by omega) h1 h2]
    simpa using hm
  have hb8 := p8_bd h1 h2
  clear h hm
  go_enter Try.func13, Try.ntmps13
  go_wp2
  go_step3
  go_wp2_with fail
  refine (wid_yes b _ h1 h2).mono ?_
  rintro e w' ⟨rfl, rfl⟩
  go_wp2_with fail
  refine (full_any b _ h1 h2).mono ?_
  rintro e w' ⟨rfl, rfl⟩
  go_wp2_with fail
  try rw [Exit.noGoto_ret]
  go_ret2
  exact ⟨rfl, rfl⟩

set_option maxHeartbeats 1600000 in
theorem pput_range (first b n : Int) (w : World) (h1 : 1 ≤ b) (h2 : b ≤ 8) (h3 : 0 ≤ first) (h4 : first ≤ 255) (h5 : first % p8 b = 0) (h : n < 0 ∨ 2147483647 < n) :
    Calls Try.prog 13 #[.int .i64 first, .int .i64 b, .int .i64 n] w fun e w' => e = .returned (.tuple #[.slice none 0 0, .int .i64 5]) ∧ w = w' := by
  have d1 : decide (first < 0) = false := by simp; omega
  have d2 : decide (255 < first) = false := by simp; omega
  have d3 : (bits .and .i64 first (p8 b - 1) != 0) = false := by
    rw [and_p8 h3 h4 h1 h2, h5]
    rfl
  have hb8 := p8_bd h1 h2
  clear h5
  rcases h with h | h
  · have d4 : decide (n < 0) = true := by simpa using h
    go_enter Try.func13, Try.ntmps13
    go_wp2
    go_step3
    go_wp2_with fail
    refine (wid_yes b _ h1 h2).mono ?_
    rintro e w' ⟨rfl, rfl⟩
    go_wp2_with fail
    refine (full_any b _ h1 h2).mono ?_
    rintro e w' ⟨rfl, rfl⟩
    go_wp2_with fail
    try rw [Exit.noGoto_ret]
    go_ret2
    exact ⟨rfl, rfl⟩
  · have d4 : decide (n < 0) = false := by simp; omega
    have d5 : decide (2147483647 < n) = true := by simpa using h
    go_enter Try.func13, Try.ntmps13
    go_wp2
    go_step3
    go_wp2_with fail
    refine (wid_yes b _ h1 h2).mono ?_
    rintro e w' ⟨rfl, rfl⟩
    go_wp2_with fail
    refine (full_any b _ h1 h2).mono ?_
    rintro e w' ⟨rfl, rfl⟩
    go_wp2_with fail
    try rw [Exit.noGoto_ret]
    go_ret2
    exact ⟨rfl, rfl⟩

set_option maxHeartbeats 1600000 in
theorem pput_small (first b n : Int) (w : World) (h1 : 1 ≤ b) (h2 : b ≤ 8) (h3 : 0 ≤ first) (h4 : first ≤ 255) (h5 : first % p8 b = 0) (h6 : 0 ≤ n) (h7 : n < p8 b - 1) :
    Calls Try.prog 13 #[.int .i64 first, .int .i64 b, .int .i64 n] w (GaveO w 1 (oneF (first + n))) := by
  have d1 : decide (first < 0) = false := by simp; omega
  have d2 : decide (255 < first) = false := by simp; omega
  have d3 : (bits .and .i64 first (p8 b - 1) != 0) = false := by
    rw [and_p8 h3 h4 h1 h2, h5]
    rfl
  have hb8 := p8_bd h1 h2
  have d4 : decide (n < 0) = false := by simp; omega
  have d5 : decide (2147483647 < n) = false := by simp; omega
  have d6 : decide (n < p8 b - 1) = true := by simpa using h7
  have hor := or_p8 h3 h4 h1 h2 h5 h6 (show n < p8 b by omega)
  have hroom := p8_room h4 h1 h2 h5 (show n < p8 b by omega)
  have hpos : 0 ≤ first + n := by omega
  clear h5
  go_enter Try.func13, Try.ntmps13
  go_wp2
  go_step3
  go_wp2_with fail
  refine (wid_yes b _ h1 h2).mono ?_
  rintro e w' ⟨rfl, rfl⟩
  go_wp2_with fail
  refine (full_any b _ h1 h2).mono ?_
  rintro e w' ⟨rfl, rfl⟩
  go_wp2_with fail
  refine (full_any b _ h1 h2).mono ?_
  rintro e w' ⟨rfl, rfl⟩
  go_wp2_with fail
  try rw [Exit.noGoto_ret]
  go_ret2
  exact ⟨_, _, rfl, Own.lit .u8 5 w.heap.size w (oneF (first + n)) #[.int .u8 (first + n)] 1 (Nat.le_refl _) (by simp [maxLen]) rfl, (Below.refl _ _).alloc (Nat.le_refl _) _⟩
end Go.Proofs.Yteijpklepgenbaa
