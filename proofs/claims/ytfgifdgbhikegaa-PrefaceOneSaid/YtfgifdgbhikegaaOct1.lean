/- The contracts of the functions of layer 1 and of its reference: powers, numbers of bytes, the highest bit. -/
import Derived.Test.YtfgifdgbhikegaaSame
import Derived.StillTailTactics
import Derived.Laws.BitsAllLaws
import Derived.Laws.BitsLemmas
import Derived.Laws.IdiomStrings
namespace Go.Proofs.Ytfgifdgbhikegaa
open Go.RowKit

/-! ### power -/
set_option maxHeartbeats 400000 in
theorem pow_any (n r : Int) (w : World) (h : (n = 0 ∧ r = 1) ∨ (n = 1 ∧ r = 256) ∨ (n = 2 ∧ r = 65536) ∨ (n = 3 ∧ r = 16777216) ∨ (n = 4 ∧ r = 4294967296)) :
    Calls Try.prog 84 #[.int .i64 n] w fun e w' => e = .returned (.int .i64 r) ∧ w = w' := by
  rcases h with ⟨rfl, rfl⟩ | ⟨rfl, rfl⟩ | ⟨rfl, rfl⟩ | ⟨rfl, rfl⟩ | ⟨rfl, rfl⟩
  all_goals
    go_enter Try.func84, Try.ntmps84
    go_wp2
    go_rounds 5
    go_ret
    exact ⟨rfl, rfl⟩

/-! ### numbers of the first bytes -/
/-- The number of the first bytes. -/
def num (f : Nat → Int) : Nat → Int
  | 0 => 0
  | k + 1 => num f k * 256 + f k
theorem num_bd {f : Nat → Int} {n : Nat} (hb : Byt n f) (k : Nat) (hk : k ≤ n) (h4 : k ≤ 4) : 0 ≤ num f k ∧ num f k < 256 ^ k := by
  rcases k with _ | _ | _ | _ | _ | k
  · simp [num]
  · have := hb 0 (by omega); simp [num]; omega
  · have := hb 0 (by omega); have := hb 1 (by omega); simp [num]; omega
  · have := hb 0 (by omega); have := hb 1 (by omega); have := hb 2 (by omega); simp [num]; omega
  · have := hb 0 (by omega); have := hb 1 (by omega); have := hb 2 (by omega); have := hb 3 (by omega); simp [num]; omega
  · omega
def getE (n : Nat) (size : Int) : Int := if size < 1 ∨ 4 < size then 1 else if (n : Int) < size then 3 else 0


/-! ### sizes -/
theorem size_yes (s : Int) (w : World) (h1 : 1 ≤ s) (h2 : s ≤ 4) : Calls Try.prog 80 #[.int .i64 s] w fun e w' => e = .returned (.bool true) ∧ w = w' := by
  have hd : decide (s ≤ 4) = true := by simpa using h2
  have hd1 : decide (1 ≤ s) = true := by simpa using h1
  go_enter Try.func80, Try.ntmps80
  go_wp2
  go_ret
  exact ⟨rfl, rfl⟩
theorem size_no (s : Int) (w : World) (h : s < 1 ∨ 4 < s) : Calls Try.prog 80 #[.int .i64 s] w fun e w' => e = .returned (.bool false) ∧ w = w' := by
  rcases h with h | h
  · have hd : decide (1 ≤ s) = false := by simpa using h
    go_enter Try.func80, Try.ntmps80
    go_wp2
    go_ret
    exact ⟨rfl, rfl⟩
  · have hd : decide (s ≤ 4) = false := by simpa using h
    have hd1 : decide (1 ≤ s) = true := by simp; omega
    go_enter Try.func80, Try.ntmps80
    go_wp2
    go_ret
    exact ⟨rfl, rfl⟩
/-- 256 to the power of a size. -/
def pw (s : Int) : Int := if s = 1 then 256 else if s = 2 then 65536 else if s = 3 then 16777216 else 4294967296
theorem pw_cases {s : Int} (h1 : 1 ≤ s) (h2 : s ≤ 4) : (s = 1 ∧ pw s = 256) ∨ (s = 2 ∧ pw s = 65536) ∨ (s = 3 ∧ pw s = 16777216) ∨ (s = 4 ∧ pw s = 4294967296) := by
  unfold pw
  have : s = 1 ∨ s = 2 ∨ s = 3 ∨ s = 4 := by omega
  rcases this with rfl | rfl | rfl | rfl <;> simp
theorem pow_size (s : Int) (w : World) (h1 : 1 ≤ s) (h2 : s ≤ 4) : Calls Try.prog 84 #[.int .i64 s] w fun e w' => e = .returned (.int .i64 (pw s)) ∧ w = w' :=
  pow_any s (pw s) w (by have := pw_cases h1 h2; omega)
set_option maxHeartbeats 400000 in
theorem fits_yes (n s : Int) (w : World) (h1 : 1 ≤ s) (h2 : s ≤ 4) (h0 : 0 ≤ n) (h : n < pw s) : Calls Try.prog 81 #[.int .i64 n, .int .i64 s] w fun e w' => e = .returned (.bool true) ∧ w = w' := by
  have hd1 : decide (0 ≤ n) = true := by simpa using h0
  rcases pw_cases h1 h2 with ⟨rfl, hp⟩ | ⟨rfl, hp⟩ | ⟨rfl, hp⟩ | ⟨rfl, hp⟩
  all_goals
    rw [hp] at h
    clear hp h1 h2
    go_enter Try.func81, Try.ntmps81
    go_wp2
    go_ret
    refine ⟨?_, rfl⟩
    simp [h]
set_option maxHeartbeats 400000 in
theorem fits_no (n s : Int) (w : World) (h1 : 1 ≤ s) (h2 : s ≤ 4) (h : n < 0 ∨ pw s ≤ n) : Calls Try.prog 81 #[.int .i64 n, .int .i64 s] w fun e w' => e = .returned (.bool false) ∧ w = w' := by
  by_cases h0 : 0 ≤ n
  · have h' : pw s ≤ n := by omega
    clear h
    have hd1 : decide (0 ≤ n) = true := by simpa using h0
    rcases pw_cases h1 h2 with ⟨rfl, hp⟩ | ⟨rfl, hp⟩ | ⟨rfl, hp⟩ | ⟨rfl, hp⟩
    all_goals
      rw [hp] at h'
      clear hp h1 h2
      go_enter Try.func81, Try.ntmps81
      go_wp2
      go_ret
      refine ⟨?_, rfl⟩
      simp [h']
  · have hd1 : decide (0 ≤ n) = false := by simpa using h0
    clear h h0
    go_enter Try.func81, Try.ntmps81
    go_wp2
    go_ret
    exact ⟨rfl, rfl⟩
end Go.Proofs.Ytfgifdgbhikegaa
