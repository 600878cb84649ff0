/- Pfx1, Pfx2, Pfx3, Pfx4, Pfx5, Pfx6, Pfx7, Pfx8 in one text. -/
import Derived.Test.YtnkcbljhgcgpaaaDoorMA
import Derived.WalkMore
import Derived.ScopeJumps
import Derived.RegionTactic
import Derived.ChangeAlike
import Derived.Deep.RegionHeld3
namespace Go.Proofs.YtnkcbljhgcgpaaaDoor
set_option linter.unusedVariables false
set_option linter.unusedSimpArgs false
section
open Go.RowKit

/-- 2 to the power of a width from 1 to 8. -/
def p8 (b : Int) : Int := if b = 1 then 2 else if b = 2 then 4 else if b = 3 then 8 else if b = 4 then 16 else if b = 5 then 32 else if b = 6 then 64 else if b = 7 then 128 else 256
theorem p8_cases {b : Int} (h1 : 1 ≤ b) (h2 : b ≤ 8) : (b = 1 ∧ p8 b = 2) ∨ (b = 2 ∧ p8 b = 4) ∨ (b = 3 ∧ p8 b = 8) ∨ (b = 4 ∧ p8 b = 16) ∨ (b = 5 ∧ p8 b = 32) ∨ (b = 6 ∧ p8 b = 64) ∨ (b = 7 ∧ p8 b = 128) ∨ (b = 8 ∧ p8 b = 256) := by
  have : b = 1 ∨ b = 2 ∨ b = 3 ∨ b = 4 ∨ b = 5 ∨ b = 6 ∨ b = 7 ∨ b = 8 := by omega
  rcases this with rfl | rfl | rfl | rfl | rfl | rfl | rfl | rfl <;> simp [p8]
theorem p8_bd {b : Int} (h1 : 1 ≤ b) (h2 : b ≤ 8) : 2 ≤ p8 b ∧ p8 b ≤ 256 := by
  have := p8_cases h1 h2
  omega
theorem wrap8 : ∀ n : Int, 0 ≤ n → n < 2 ^ 8 → IntKind.i64.wrap n = n := by
  intro n a b
  rw [IntKind.wrap_i64]
  omega
theorem and_p8 {x b : Int} (h0 : 0 ≤ x) (h1 : x ≤ 255) (b1 : 1 ≤ b) (b2 : b ≤ 8) : bits .and .i64 x (p8 b - 1) = x % p8 b := by
  rcases p8_cases b1 b2 with ⟨rfl, e⟩ | ⟨rfl, e⟩ | ⟨rfl, e⟩ | ⟨rfl, e⟩ | ⟨rfl, e⟩ | ⟨rfl, e⟩ | ⟨rfl, e⟩ | ⟨rfl, e⟩ <;> rw [e]
  · exact bits_mask .i64 8 (by decide) wrap8 1 (by decide) x h0 (by omega)
  · exact bits_mask .i64 8 (by decide) wrap8 2 (by decide) x h0 (by omega)
  · exact bits_mask .i64 8 (by decide) wrap8 3 (by decide) x h0 (by omega)
  · exact bits_mask .i64 8 (by decide) wrap8 4 (by decide) x h0 (by omega)
  · exact bits_mask .i64 8 (by decide) wrap8 5 (by decide) x h0 (by omega)
  · exact bits_mask .i64 8 (by decide) wrap8 6 (by decide) x h0 (by omega)
  · exact bits_mask .i64 8 (by decide) wrap8 7 (by decide) x h0 (by omega)
  · exact bits_mask .i64 8 (by decide) wrap8 8 (by decide) x h0 (by omega)
theorem or_p8 {x y b : Int} (h0 : 0 ≤ x) (h1 : x ≤ 255) (b1 : 1 ≤ b) (b2 : b ≤ 8) (hx : x % p8 b = 0) (y0 : 0 ≤ y) (y1 : y < p8 b) : bits .or .i64 x y = x + y := by
  rcases p8_cases b1 b2 with ⟨rfl, e⟩ | ⟨rfl, e⟩ | ⟨rfl, e⟩ | ⟨rfl, e⟩ | ⟨rfl, e⟩ | ⟨rfl, e⟩ | ⟨rfl, e⟩ | ⟨rfl, e⟩ <;> rw [e] at hx y1
  · exact bits_join .i64 8 (by decide) wrap8 1 x y h0 hx (by omega) y0 (by omega) (by omega)
  · exact bits_join .i64 8 (by decide) wrap8 2 x y h0 hx (by omega) y0 (by omega) (by omega)
  · exact bits_join .i64 8 (by decide) wrap8 3 x y h0 hx (by omega) y0 (by omega) (by omega)
  · exact bits_join .i64 8 (by decide) wrap8 4 x y h0 hx (by omega) y0 (by omega) (by omega)
  · exact bits_join .i64 8 (by decide) wrap8 5 x y h0 hx (by omega) y0 (by omega) (by omega)
  · exact bits_join .i64 8 (by decide) wrap8 6 x y h0 hx (by omega) y0 (by omega) (by omega)
  · exact bits_join .i64 8 (by decide) wrap8 7 x y h0 hx (by omega) y0 (by omega) (by omega)
  · exact bits_join .i64 8 (by decide) wrap8 8 x y h0 hx (by omega) y0 (by omega) (by omega)
/-- The room above the lower bits. -/
theorem p8_room {x y b : Int} (h1 : x ≤ 255) (b1 : 1 ≤ b) (b2 : b ≤ 8) (hx : x % p8 b = 0) (y1 : y < p8 b) : x + y ≤ 255 := by
  rcases p8_cases b1 b2 with ⟨rfl, e⟩ | ⟨rfl, e⟩ | ⟨rfl, e⟩ | ⟨rfl, e⟩ | ⟨rfl, e⟩ | ⟨rfl, e⟩ | ⟨rfl, e⟩ | ⟨rfl, e⟩ <;> rw [e] at hx y1 <;> omega

/-! ### the program's small ones -/
theorem wid_yes (s : Int) (w : World) (h1 : 1 ≤ s) (h2 : s ≤ 8) : Calls Tryd.prog 73 #[.int .i64 s] w fun e w' => e = .returned (.bool true) ∧ w = w' := by
  have hd : decide (s ≤ 8) = true := by simpa using h2
  have hd1 : decide (1 ≤ s) = true := by simpa using h1
  go_enter Tryd.func73, Tryd.ntmps73
  go_wp2
  go_ret
  exact ⟨rfl, rfl⟩
theorem wid_no (s : Int) (w : World) (h : s < 1 ∨ 8 < s) : Calls Tryd.prog 73 #[.int .i64 s] w fun e w' => e = .returned (.bool false) ∧ w = w' := by
  rcases h with h | h
  · have hd : decide (1 ≤ s) = false := by simpa using h
    go_enter Tryd.func73, Tryd.ntmps73
    go_wp2
    go_ret
    exact ⟨rfl, rfl⟩
  · have hd : decide (s ≤ 8) = false := by simpa using h
    have hd1 : decide (1 ≤ s) = true := by simp; omega
    go_enter Tryd.func73, Tryd.ntmps73
    go_wp2
    go_ret
    exact ⟨rfl, rfl⟩
theorem full_any (b : Int) (w : World) (h1 : 1 ≤ b) (h2 : b ≤ 8) : Calls Tryd.prog 74 #[.int .i64 b] w fun e w' => e = .returned (.int .i64 (p8 b - 1)) ∧ w = w' := by
  rcases p8_cases h1 h2 with ⟨rfl, e⟩ | ⟨rfl, e⟩ | ⟨rfl, e⟩ | ⟨rfl, e⟩ | ⟨rfl, e⟩ | ⟨rfl, e⟩ | ⟨rfl, e⟩ | ⟨rfl, e⟩
  all_goals
    rw [e]
    clear e h1 h2
    go_enter Tryd.func74, Tryd.ntmps74
    go_wp2
    go_ret
    exact ⟨rfl, rfl⟩
theorem rpow8 (b : Int) (w : World) (h1 : 1 ≤ b) (h2 : b ≤ 8) : Calls Tryd.prog 79 #[.int .i64 b] w fun e w' => e = .returned (.int .i64 (p8 b)) ∧ w = w' := by
  rcases p8_cases h1 h2 with ⟨rfl, e⟩ | ⟨rfl, e⟩ | ⟨rfl, e⟩ | ⟨rfl, e⟩ | ⟨rfl, e⟩ | ⟨rfl, e⟩ | ⟨rfl, e⟩ | ⟨rfl, e⟩
  all_goals
    rw [e]
    clear e h1 h2
    go_enter Tryd.func79, Tryd.ntmps79
    go_wp2
    go_rounds 9
    go_ret
    exact ⟨rfl, rfl⟩

/-! ### digits -/
/-- How many bytes of seven bits a number has (k more at most), and which. -/
def dgN : Nat → Nat → Nat
  | 0, _ => 1
  | k + 1, n => if n < 128 then 1 else 1 + dgN k (n / 128)
def dgF : Nat → Nat → Nat → Int
  | 0, n => oneF n
  | k + 1, n => if n < 128 then oneF n else catF 1 (oneF (128 + (n : Int) % 128)) (dgF k (n / 128))
theorem dgN_bd (k n : Nat) : 1 ≤ dgN k n ∧ dgN k n ≤ k + 1 := by
  induction k generalizing n with
  | zero => simp [dgN]
  | succ k ih =>
    have := ih (n / 128)
    unfold dgN
    split <;> omega
theorem catF_assoc (a b : Nat) (f g h : Nat → Int) : catF (a + b) (catF a f g) h = catF a f (catF b g h) := by
  funext i
  unfold catF
  by_cases h1 : i < a
  · have : i < a + b := by omega
    simp [h1, this]
  · by_cases h2 : i < a + b
    · have : i - a < b := by omega
      simp [h1, h2, this]
    · have h3 : ¬ i - a < b := by omega
      have h4 : i - (a + b) = i - a - b := by omega
      simp [h1, h2, h3, h4]
end

section
open Go.RowKit

/-- Why there are no bytes. -/
def pfE (first b n : Int) : Int := if b < 1 ∨ 8 < b ∨ first < 0 ∨ 255 < first ∨ first % p8 b ≠ 0 then 1 else if n < 0 ∨ 2147483647 < n then 5 else 0
theorem pfE_ok {first b n : Int} (h : pfE first b n = 0) : 1 ≤ b ∧ b ≤ 8 ∧ 0 ≤ first ∧ first ≤ 255 ∧ first % p8 b = 0 ∧ 0 ≤ n ∧ n ≤ 2147483647 := by
  unfold pfE at h
  split at h
  · cases h
  · rename_i h1
    split at h
    · cases h
    · rename_i h2
      refine ⟨by omega, by omega, by omega, by omega, ?_, by omega, by omega⟩
      by_cases h3 : first % p8 b = 0
      · exact h3
      · exact absurd (.inr (.inr (.inr (.inr h3)))) h1

set_option maxHeartbeats 1600000 in
theorem pput_arg (first b n : Int) (w : World) (h : b < 1 ∨ 8 < b ∨ first < 0 ∨ 255 < first ∨ first % p8 b ≠ 0) :
    Calls Tryd.prog 84 #[.int .i64 first, .int .i64 b, .int .i64 n] w fun e w' => e = .returned (.tuple #[.slice none 0 0, .int .i64 1]) ∧ w = w' := by
  by_cases hb : b < 1 ∨ 8 < b
  · go_enter Tryd.func84, Tryd.ntmps84
    go_wp2
    go_step3
    go_wp2_with fail
    refine (wid_no b _ hb).mono ?_
    rintro e w' ⟨rfl, rfl⟩
    go_wp2_with fail
    try rw [Exit.noGoto_ret]
    go_ret2
    exact ⟨rfl, rfl⟩
  have h1 : 1 ≤ b := by omega
  have h2 : b ≤ 8 := by omega
  by_cases hf : first < 0
  · have d1 : decide (first < 0) = true := by simpa using hf
    go_enter Tryd.func84, Tryd.ntmps84
    go_wp2
    go_step3
    go_wp2_with fail
    refine (wid_yes b _ h1 h2).mono ?_
    rintro e w' ⟨rfl, rfl⟩
    go_wp2_with fail
    try rw [Exit.noGoto_ret]
    go_ret2
    exact ⟨rfl, rfl⟩
  have d1 : decide (first < 0) = false := by simpa using hf
  by_cases hg : 255 < first
  · have d2 : decide (255 < first) = true := by simpa using hg
    go_enter Tryd.func84, Tryd.ntmps84
    go_wp2
    go_step3
    go_wp2_with fail
    refine (wid_yes b _ h1 h2).mono ?_
    rintro e w' ⟨rfl, rfl⟩
    go_wp2_with fail
    try rw [Exit.noGoto_ret]
    go_ret2
    exact ⟨rfl, rfl⟩
  have d2 : decide (255 < first) = false := by simpa using hg
  have hm : first % p8 b ≠ 0 := by
    rcases h with h | h | h | h | h
    · omega
    · omega
    · omega
    · omega
    · exact h
  have d3 : (bits .and .i64 first (p8 b - 1) != 0) = true := by
    rw [and_p8 (by omega) (by omega) h1 h2]
    simpa using hm
  have hb8 := p8_bd h1 h2
  clear h hm
  go_enter Tryd.func84, Tryd.ntmps84
  go_wp2
  go_step3
  go_wp2_with fail
  refine (wid_yes b _ h1 h2).mono ?_
  rintro e w' ⟨rfl, rfl⟩
  go_wp2_with fail
  refine (full_any b _ h1 h2).mono ?_
  rintro e w' ⟨rfl, rfl⟩
  go_wp2_with fail
  try rw [Exit.noGoto_ret]
  go_ret2
  exact ⟨rfl, rfl⟩

set_option maxHeartbeats 1600000 in
theorem pput_range (first b n : Int) (w : World) (h1 : 1 ≤ b) (h2 : b ≤ 8) (h3 : 0 ≤ first) (h4 : first ≤ 255) (h5 : first % p8 b = 0) (h : n < 0 ∨ 2147483647 < n) :
    Calls Tryd.prog 84 #[.int .i64 first, .int .i64 b, .int .i64 n] w fun e w' => e = .returned (.tuple #[.slice none 0 0, .int .i64 5]) ∧ w = w' := by
  have d1 : decide (first < 0) = false := by simp; omega
  have d2 : decide (255 < first) = false := by simp; omega
  have d3 : (bits .and .i64 first (p8 b - 1) != 0) = false := by
    rw [and_p8 h3 h4 h1 h2, h5]
    rfl
  have hb8 := p8_bd h1 h2
  clear h5
  rcases h with h | h
  · have d4 : decide (n < 0) = true := by simpa using h
    go_enter Tryd.func84, Tryd.ntmps84
    go_wp2
    go_step3
    go_wp2_with fail
    refine (wid_yes b _ h1 h2).mono ?_
    rintro e w' ⟨rfl, rfl⟩
    go_wp2_with fail
    refine (full_any b _ h1 h2).mono ?_
    rintro e w' ⟨rfl, rfl⟩
    go_wp2_with fail
    try rw [Exit.noGoto_ret]
    go_ret2
    exact ⟨rfl, rfl⟩
  · have d4 : decide (n < 0) = false := by simp; omega
    have d5 : decide (2147483647 < n) = true := by simpa using h
    go_enter Tryd.func84, Tryd.ntmps84
    go_wp2
    go_step3
    go_wp2_with fail
    refine (wid_yes b _ h1 h2).mono ?_
    rintro e w' ⟨rfl, rfl⟩
    go_wp2_with fail
    refine (full_any b _ h1 h2).mono ?_
    rintro e w' ⟨rfl, rfl⟩
    go_wp2_with fail
    try rw [Exit.noGoto_ret]
    go_ret2
    exact ⟨rfl, rfl⟩

set_option maxHeartbeats 1600000 in
theorem pput_small (first b n : Int) (w : World) (h1 : 1 ≤ b) (h2 : b ≤ 8) (h3 : 0 ≤ first) (h4 : first ≤ 255) (h5 : first % p8 b = 0) (h6 : 0 ≤ n) (h7 : n < p8 b - 1) :
    Calls Tryd.prog 84 #[.int .i64 first, .int .i64 b, .int .i64 n] w (GaveO w 1 (oneF (first + n))) := by
  have d1 : decide (first < 0) = false := by simp; omega
  have d2 : decide (255 < first) = false := by simp; omega
  have d3 : (bits .and .i64 first (p8 b - 1) != 0) = false := by
    rw [and_p8 h3 h4 h1 h2, h5]
    rfl
  have hb8 := p8_bd h1 h2
  have d4 : decide (n < 0) = false := by simp; omega
  have d5 : decide (2147483647 < n) = false := by simp; omega
  have d6 : decide (n < p8 b - 1) = true := by simpa using h7
  have hor := or_p8 h3 h4 h1 h2 h5 h6 (show n < p8 b by omega)
  have hroom := p8_room h4 h1 h2 h5 (show n < p8 b by omega)
  have hpos : 0 ≤ first + n := by omega
  clear h5
  go_enter Tryd.func84, Tryd.ntmps84
  go_wp2
  go_step3
  go_wp2_with fail
  refine (wid_yes b _ h1 h2).mono ?_
  rintro e w' ⟨rfl, rfl⟩
  go_wp2_with fail
  refine (full_any b _ h1 h2).mono ?_
  rintro e w' ⟨rfl, rfl⟩
  go_wp2_with fail
  refine (full_any b _ h1 h2).mono ?_
  rintro e w' ⟨rfl, rfl⟩
  go_wp2_with fail
  try rw [Exit.noGoto_ret]
  go_ret2
  exact ⟨_, _, rfl, Own.lit .u8 5 w.heap.size w (oneF (first + n)) #[.int .u8 (first + n)] 1 (Nat.le_refl _) (by simp [maxLen]) rfl, (Below.refl _ _).alloc (Nat.le_refl _) _⟩
end

section
open Go.RowKit

theorem dg_small (k m : Nat) (h : m < 128) : dgN k m = 1 ∧ dgF k m = oneF m := by
  rcases k with _ | k <;> simp [dgN, dgF, h]
theorem dg_big (k m : Nat) (h : 128 ≤ m) : dgN (k + 1) m = 1 + dgN k (m / 128) ∧ dgF (k + 1) m = catF 1 (oneF (128 + (m : Int) % 128)) (dgF k (m / 128)) := by
  have : ¬ m < 128 := by omega
  simp [dgN, dgF, this]
/-- What holds at the label: j bytes are there, the digits of m lack. -/
def JPut (W0 : World) (N : Nat) (D : Nat → Int) (a' : Act) (w' : World) : Prop :=
  ∃ (k m j : Nat) (z : Int) (f : Nat → Int) (v u0 u1 u3 u4 u5 u6 u7 u9 u10 u11 u12 u13 u14 u15 u16 u17 u18 u19 u20 u21 u22 u23 u24 u25 u26 u27 u28 u29 u30 u31 u32 u33 u34 u35 u36 u37 u38 u39 u40 u41 u42 u43 u44 u45 u46 u47 u48 u49 u50 u51 u52 u53 u54 u55 u56 u57 u58 u59 u60 u61 u62 u63 u64 u65 u66 u67 : Value), a' = { tmps := #[u0, u1, .int .i64 z, u3, u4, u5, u6, u7, v, u9, u10, u11, u12, u13, u14, u15, u16, u17, u18, u19, u20, u21, u22, u23, u24, u25, u26, u27, u28, u29, u30, u31, u32, u33, u34, u35, u36, u37, u38, u39, u40, u41, u42, u43, u44, u45, u46, u47, u48, u49, u50, u51, u52, u53, u54, u55, u56, u57, u58, u59, u60, u61, u62, u63, u64, u65, u66, u67], defers := [] } ∧ z = (m : Int) ∧ Own .u8 5 W0.heap.size w' v j f ∧ Below W0.heap.size W0 w' ∧ m < 128 ^ (k + 1) ∧ j + dgN k m = N ∧ (∀ i, i < N → catF j f (dgF k m) i = D i) ∧ N ≤ 10 ∧ k ≤ 4 ∧ m ≤ 2147483647

set_option maxRecDepth 100000 in
set_option maxHeartbeats 3200000 in
theorem pput_large (first b n : Int) (M : Nat) (w : World) (h1 : 1 ≤ b) (h2 : b ≤ 8) (h3 : 0 ≤ first) (h4 : first ≤ 255) (h5 : first % p8 b = 0) (hM : n = p8 b - 1 + M) (h6 : M ≤ 2147483647) (h7 : n ≤ 2147483647) :
    Calls Tryd.prog 84 #[.int .i64 first, .int .i64 b, .int .i64 n] w (GaveO w (1 + dgN 4 M) (catF 1 (oneF (first + (p8 b - 1))) (dgF 4 M))) := by
  obtain ⟨i0, hi, hz0, hz1, hz2⟩ := info_parts u8_info
  have d1 : decide (first < 0) = false := by simp; omega
  have d2 : decide (255 < first) = false := by simp; omega
  have d3 : (bits .and .i64 first (p8 b - 1) != 0) = false := by
    rw [and_p8 h3 h4 h1 h2, h5]
    rfl
  have hb8 := p8_bd h1 h2
  have d4 : decide (n < 0) = false := by simp; omega
  have d5 : decide (2147483647 < n) = false := by simp; omega
  have d6 : decide (n < p8 b - 1) = false := by simp; omega
  have hor := or_p8 h3 h4 h1 h2 h5 (show 0 ≤ p8 b - 1 by omega) (show p8 b - 1 < p8 b by omega)
  have hroom := p8_room h4 h1 h2 h5 (show p8 b - 1 < p8 b by omega)
  have hpos : 0 ≤ first + (p8 b - 1) := by omega
  have hM0 : 0 ≤ n - (p8 b - 1) := by omega
  have HM := hide (show n - (p8 b - 1) = (M : Int) by omega)
  have HO := hide (Own.lit .u8 5 w.heap.size w (oneF (first + (p8 b - 1))) #[.int .u8 (first + (p8 b - 1))] 1 (Nat.le_refl _) (by simp [maxLen]) rfl)
  clear h5 hM
  go_enter Tryd.func84, Tryd.ntmps84
  go_wp2
  refine wp_scope_jumps 0 (JPut w (1 + dgN 4 M) (catF 1 (oneF (first + (p8 b - 1))) (dgF 4 M))) (fun a' _ => (intOf (a'.tmps.getD 2 undef)).toNat) rfl ?_ ?_
  · go_wp2_with fail
    refine (wid_yes b _ h1 h2).mono ?_
    rintro e w' ⟨rfl, rfl⟩
    go_wp2_with fail
    refine (full_any b _ h1 h2).mono ?_
    rintro e w' ⟨rfl, rfl⟩
    go_wp2_with fail
    refine (full_any b _ h1 h2).mono ?_
    rintro e w' ⟨rfl, rfl⟩
    go_wp2_with fail
    refine (full_any b _ h1 h2).mono ?_
    rintro e w' ⟨rfl, rfl⟩
    go_wp2_with fail
    refine (full_any b _ h1 h2).mono ?_
    rintro e w' ⟨rfl, rfl⟩
    go_wp2_with fail
    go_step3
    rw [HM.out]
    clear d1 d2 d3 d4 d5 d6 hor hM0
    have HB := hide ((Below.refl w.heap.size w).alloc (Nat.le_refl _) (.cells #[.int .u8 (first + (p8 b - 1))] 5))
    generalize w.alloc (.cells #[.int .u8 (first + (p8 b - 1))] 5) = W1 at *
    generalize Value.slice (some ⟨w.heap.size, 0, none⟩) 1 1 = vb at *
    have hsz := HB.out.size
    by_cases hs : M < 128
    · have d7 : decide ((M : Int) < 128) = true := by simp; omega
      have h9 : (M : Int) < 128 := by omega
      obtain ⟨e1, e2⟩ := dg_small 4 M hs
      have E1 := hide e1
      have E2 := hide e2
      clear e1 e2
      go_wp2_with (at_builtin; refine wp_app rfl (.tmp 54) (.tmp 57) _ rfl i0 0 1 Tryd.underlying22 hi hz0 hz1 hz2 w.heap.size _ 1 _ rfl (HO.out.alloc _) _ 1 1 _ rfl (Rd.one .u8 5 _ _) (by simp only [maxLen]; omega) (by omega) (by simp; omega) ?_; intro v1 w1 hown1 hg1)
      simp only [Exit.jump]
      obtain ⟨A1, c1, rfl, _, _⟩ := hown1.rd
      have HB1 := hide ((HB.out.alloc hsz _).grown hg1 (by simp; omega) (fun j e => (World.ownsRow.lt HO.out j e).1))
      have Hown := hide hown1
      clear hown1 hg1
      go_ret2
      rw [E1.out, E2.out]
      exact ⟨_, _, rfl, Hown.out, HB1.out⟩
    · have d7 : decide ((M : Int) < 128) = false := by simp; omega
      have h9 : (M : Int) % 128 + 128 ≤ 255 := by omega
      have h10 : 0 ≤ (M : Int) % 128 + 128 := by omega
      obtain ⟨e1, e2⟩ := dg_big 3 M (by omega)
      have e1 : dgN 4 M = 1 + dgN 3 (M / 128) := e1
      have e2 : dgF 4 M = catF 1 (oneF (128 + (M : Int) % 128)) (dgF 3 (M / 128)) := e2
      have hbd := dgN_bd 3 (M / 128)
      have E1 := hide (show 1 + 1 + dgN 3 (M / 128) = 1 + dgN 4 M by omega)
      have E2 := hide e2
      have hN10 : 1 + dgN 4 M ≤ 10 := by omega
      clear e1 e2
      go_wp2_with (at_builtin; refine wp_app rfl (.tmp 59) (.tmp 64) _ rfl i0 0 1 Tryd.underlying22 hi hz0 hz1 hz2 w.heap.size _ 1 _ rfl (HO.out.alloc _) _ 1 1 _ rfl (Rd.one .u8 5 _ _) (by simp only [maxLen]; omega) (by omega) (by simp; omega) ?_; intro v1 w1 hown1 hg1)
      go_step3
      refine ⟨rfl, 3, M / 128, 1 + 1, _, _, v1, _, _, _, _, _, _, _, _, _, _, _, _, _, _, _, _, _, _, _, _, _, _, _, _, _, _, _, _, _, _, _, _, _, _, _, _, _, _, _, _, _, _, _, _, _, _, _, _, _, _, _, _, _, _, _, _, _, _, _, _, _, _, _, _, _, _, rfl, by omega, hown1, (HB.out.alloc hsz _).grown hg1 (by simp; omega) (fun j e => (World.ownsRow.lt HO.out j e).1), by omega, E1.out, fun i _ => ?_, hN10, by omega, by omega⟩
      rw [catF_assoc, E2.out, Int.add_comm 128]
  · rintro a' w' ⟨k, m, j, z, f, v, u0, u1, u3, u4, u5, u6, u7, u9, u10, u11, u12, u13, u14, u15, u16, u17, u18, u19, u20, u21, u22, u23, u24, u25, u26, u27, u28, u29, u30, u31, u32, u33, u34, u35, u36, u37, u38, u39, u40, u41, u42, u43, u44, u45, u46, u47, u48, u49, u50, u51, u52, u53, u54, u55, u56, u57, u58, u59, u60, u61, u62, u63, u64, u65, u66, u67, rfl, rfl, hown, hB, hm, hN, hD, hN10, hk, hmx⟩
    have HO1 := hide hown
    have HB := hide hB
    have HD := hide hD
    have HN := hide hN
    have hj : j ≤ 10 := by omega
    have hsz := hB.size
    clear hown hB hD hN HO d1 d2 d3 d4 d5 d6 hor hM0 HM hroom hpos
    by_cases hs : m < 128
    · have d7 : decide ((m : Int) < 128) = true := by simp; omega
      have h9 : (m : Int) < 128 := by omega
      obtain ⟨e1, e2⟩ := dg_small k m hs
      have E1 := hide e1
      have E2 := hide e2
      clear e1 e2
      go_wp2_with (at_builtin; refine wp_app rfl (.tmp 54) (.tmp 57) _ rfl i0 0 1 Tryd.underlying22 hi hz0 hz1 hz2 w.heap.size _ j _ rfl (HO1.out.alloc _) _ 1 1 _ rfl (Rd.one .u8 5 _ _) (by simp only [maxLen]; omega) (by omega) (by simp; omega) ?_; intro v1 w1 hown1 hg1)
      simp only [Exit.jump]
      obtain ⟨A1, c1, rfl, _, _⟩ := hown1.rd
      have HB1 := hide ((HB.out.alloc hsz _).grown hg1 (by simp; omega) (fun j e => (World.ownsRow.lt HO1.out j e).1))
      have Hown := hide hown1
      clear hown1 hg1
      have hj1 : j + 1 = 1 + dgN 4 M := by have := HN.out; have := E1.out; omega
      go_ret2
      rw [E2.out] at HD
      rw [← hj1] at HD ⊢
      exact ⟨_, _, rfl, Hown.out.congr HD.out, HB1.out⟩
    · have d7 : decide ((m : Int) < 128) = false := by simp; omega
      have h9 : (m : Int) % 128 + 128 ≤ 255 := by omega
      have h10 : 0 ≤ (m : Int) % 128 + 128 := by omega
      rcases k with _ | k
      · exact absurd hm (by simp; omega)
      obtain ⟨e1, e2⟩ := dg_big k m (by omega)
      have E1 : Hid (j + 1 + dgN k (m / 128) = 1 + dgN 4 M) := by
        have := HN.out
        show _ = _
        omega
      have E2 := hide e2
      clear e1 e2
      have hpw : 128 ^ (k + 1 + 1) = 128 ^ (k + 1) * 128 := Nat.pow_succ ..
      have hm2 : m / 128 < 128 ^ (k + 1) := Nat.div_lt_of_lt_mul (by rw [Nat.mul_comm]; omega)
      clear hpw hm
      go_wp2_with (at_builtin; refine wp_app rfl (.tmp 59) (.tmp 64) _ rfl i0 0 1 Tryd.underlying22 hi hz0 hz1 hz2 w.heap.size _ j _ rfl (HO1.out.alloc _) _ 1 1 _ rfl (Rd.one .u8 5 _ _) (by simp only [maxLen]; omega) (by omega) (by simp; omega) ?_; intro v1 w1 hown1 hg1)
      go_step3
      refine ⟨rfl, ⟨k, m / 128, j + 1, _, _, v1, _, _, _, _, _, _, _, _, _, _, _, _, _, _, _, _, _, _, _, _, _, _, _, _, _, _, _, _, _, _, _, _, _, _, _, _, _, _, _, _, _, _, _, _, _, _, _, _, _, _, _, _, _, _, _, _, _, _, _, _, _, _, _, _, _, _, rfl, by omega, hown1, (HB.out.alloc hsz _).grown hg1 (by simp; omega) (fun j e => (World.ownsRow.lt HO1.out j e).1), hm2, E1.out, fun i hi => ?_, hN10, by omega, by omega⟩, ?_⟩
      · rw [← HD.out i hi, E2.out, catF_assoc, Int.add_comm 128]
      · show Int.toNat ((m : Int) / 128) < Int.toNat (m : Int)
        omega
end

section
open Go.RowKit

set_option maxHeartbeats 1600000 in
theorem digits_any (k : Nat) : ∀ (n : Nat) (z : Int) (w : World), z = n → n < 128 ^ (k + 1) → n ≤ 2147483647 → k ≤ 10 →
    Calls Tryd.prog 89 #[.int .i64 z] w (Cloned w (dgN k n) (dgF k n)) := by
  obtain ⟨i0, hi, hz0, hz1, hz2⟩ := info_parts u8_info
  induction k with
  | zero =>
    intro n z w hz hn hm hk
    have hn : n < 128 := by simpa using hn
    obtain ⟨e1, e2⟩ := dg_small 0 n hn
    rw [e1, e2]
    subst hz
    clear e1 e2
    have h9 : (n : Int) < 128 := by omega
    have d7 : decide ((n : Int) < 128) = true := by simp; omega
    go_enter Tryd.func89, Tryd.ntmps89
    go_wp2_with fail
    go_ret
    exact ⟨_, rfl, Own.lit .u8 5 w.heap.size w (oneF n) #[.int .u8 n] 1 (Nat.le_refl _) (by simp [maxLen]) rfl, (Below.refl _ _).alloc (Nat.le_refl _) _⟩
  | succ k ih =>
    intro n z w hz hn hm hk
    by_cases hs : n < 128
    · obtain ⟨e1, e2⟩ := dg_small (k + 1) n hs
      rw [e1, e2]
      subst hz
      clear e1 e2 ih hn
      have h9 : (n : Int) < 128 := by omega
      have d7 : decide ((n : Int) < 128) = true := by simp; omega
      go_enter Tryd.func89, Tryd.ntmps89
      go_wp2_with fail
      go_ret
      exact ⟨_, rfl, Own.lit .u8 5 w.heap.size w (oneF n) #[.int .u8 n] 1 (Nat.le_refl _) (by simp [maxLen]) rfl, (Below.refl _ _).alloc (Nat.le_refl _) _⟩
    · obtain ⟨e1, e2⟩ := dg_big k n (by omega)
      rw [e1, e2]
      have hpw : 128 ^ (k + 1 + 1) = 128 ^ (k + 1) * 128 := Nat.pow_succ ..
      have hm2 : n / 128 < 128 ^ (k + 1) := Nat.div_lt_of_lt_mul (by rw [Nat.mul_comm]; omega)
      subst hz
      clear e1 e2 hpw hn
      have hbd := dgN_bd k (n / 128)
      have d7 : decide ((n : Int) < 128) = false := by simp; omega
      have h9 : 128 + (n : Int) % 128 ≤ 255 := by omega
      have h10 : 0 ≤ 128 + (n : Int) % 128 := by omega
      have HB := hide ((Below.refl w.heap.size w).alloc (Nat.le_refl _) (.cells #[.int .u8 (128 + (n : Int) % 128)] 5))
      have HO := hide (Own.lit .u8 5 w.heap.size w (oneF (128 + (n : Int) % 128)) #[.int .u8 (128 + (n : Int) % 128)] 1 (Nat.le_refl _) (by simp [maxLen]) rfl)
      have Ih := hide ih
      clear ih
      go_enter Tryd.func89, Tryd.ntmps89
      go_wp2_with fail
      refine (Ih.out (n / 128) _ _ (by omega) hm2 (by omega) (by omega)).mono ?_
      rintro e w2 ⟨v2, rfl, ho2, hb2⟩
      obtain ⟨A2, c2, rfl, hr2, _⟩ := ho2.rd
      have Hr2 := hide hr2
      have HB2 := hide (HB.out.of hb2)
      have HO2 := hide (HO.out.below hb2)
      have hs2 := HB2.out.size
      clear ho2 hr2 hb2
      go_wp2_with (at_builtin; refine wp_app rfl (.tmp 12) (.tmp 15) _ rfl i0 0 1 Tryd.underlying22 hi hz0 hz1 hz2 w.heap.size _ 1 _ rfl HO2.out _ _ _ _ rfl Hr2.out (by simp only [maxLen]; omega) (by omega) (by omega) ?_; intro v3 w3 hown3 hg3)
      have HB3 := hide (HB2.out.grown hg3 hs2 (fun j e => (World.ownsRow.lt HO2.out j e).1))
      have Hown := hide hown3
      clear hown3 hg3
      go_ret
      exact ⟨_, rfl, Hown.out, HB3.out⟩

set_option maxHeartbeats 1600000 in
theorem rpput_arg (first b n : Int) (w : World) (h : b < 1 ∨ 8 < b ∨ first < 0 ∨ 255 < first ∨ first % p8 b ≠ 0) :
    Calls Tryd.prog 69 #[.int .i64 first, .int .i64 b, .int .i64 n] w fun e w' => e = .returned (.tuple #[.slice none 0 0, .int .i64 1]) ∧ w = w' := by
  by_cases hb : b < 1
  · have d0 : decide (b < 1) = true := by simpa using hb
    go_enter Tryd.func69, Tryd.ntmps69
    go_wp2_with fail
    go_ret2
    exact ⟨rfl, rfl⟩
  have d0 : decide (b < 1) = false := by simpa using hb
  by_cases hb' : 8 < b
  · have d00 : decide (8 < b) = true := by simpa using hb'
    go_enter Tryd.func69, Tryd.ntmps69
    go_wp2_with fail
    go_ret2
    exact ⟨rfl, rfl⟩
  have d00 : decide (8 < b) = false := by simpa using hb'
  have h1 : 1 ≤ b := by omega
  have h2 : b ≤ 8 := by omega
  by_cases hf : first < 0
  · have d1 : decide (first < 0) = true := by simpa using hf
    go_enter Tryd.func69, Tryd.ntmps69
    go_wp2_with fail
    go_ret2
    exact ⟨rfl, rfl⟩
  have d1 : decide (first < 0) = false := by simpa using hf
  by_cases hg : 255 < first
  · have d2 : decide (255 < first) = true := by simpa using hg
    go_enter Tryd.func69, Tryd.ntmps69
    go_wp2_with fail
    go_ret2
    exact ⟨rfl, rfl⟩
  have d2 : decide (255 < first) = false := by simpa using hg
  have hm : first % p8 b ≠ 0 := by
    rcases h with h | h | h | h | h
    · omega
    · omega
    · omega
    · omega
    · exact h
  have d3 : (first % p8 b != 0) = true := by simpa using hm
  have hb8 := p8_bd h1 h2
  have hp0 : 0 ≤ first := by omega
  have hp1 : first ≤ 255 := by omega
  have hp2 : 2 ≤ p8 b := hb8.1
  have hp3 : p8 b ≤ 256 := hb8.2
  clear h hm
  go_enter Tryd.func69, Tryd.ntmps69
  go_wp2_with fail
  refine (rpow8 b _ h1 h2).mono ?_
  rintro e w' ⟨rfl, rfl⟩
  go_wp2_with fail
  go_ret2
  exact ⟨rfl, rfl⟩

set_option maxHeartbeats 1600000 in
theorem rpput_range (first b n : Int) (w : World) (h1 : 1 ≤ b) (h2 : b ≤ 8) (h3 : 0 ≤ first) (h4 : first ≤ 255) (h5 : first % p8 b = 0) (h : n < 0 ∨ 2147483647 < n) :
    Calls Tryd.prog 69 #[.int .i64 first, .int .i64 b, .int .i64 n] w fun e w' => e = .returned (.tuple #[.slice none 0 0, .int .i64 5]) ∧ w = w' := by
  have d0 : decide (b < 1) = false := by simp; omega
  have d00 : decide (8 < b) = false := by simp; omega
  have d1 : decide (first < 0) = false := by simp; omega
  have d2 : decide (255 < first) = false := by simp; omega
  have d3 : (first % p8 b != 0) = false := by rw [h5]; rfl
  have hb8 := p8_bd h1 h2
  have hp2 : 2 ≤ p8 b := hb8.1
  have hp3 : p8 b ≤ 256 := hb8.2
  clear h5
  rcases h with h | h
  · have d4 : decide (n < 0) = true := by simpa using h
    go_enter Tryd.func69, Tryd.ntmps69
    go_wp2_with fail
    refine (rpow8 b _ h1 h2).mono ?_
    rintro e w' ⟨rfl, rfl⟩
    go_wp2_with fail
    go_ret2
    exact ⟨rfl, rfl⟩
  · have d4 : decide (n < 0) = false := by simp; omega
    have d5 : decide (2147483647 < n) = true := by simpa using h
    go_enter Tryd.func69, Tryd.ntmps69
    go_wp2_with fail
    refine (rpow8 b _ h1 h2).mono ?_
    rintro e w' ⟨rfl, rfl⟩
    go_wp2_with fail
    go_ret2
    exact ⟨rfl, rfl⟩

set_option maxHeartbeats 1600000 in
theorem rpput_small (first b n : Int) (w : World) (h1 : 1 ≤ b) (h2 : b ≤ 8) (h3 : 0 ≤ first) (h4 : first ≤ 255) (h5 : first % p8 b = 0) (h6 : 0 ≤ n) (h7 : n < p8 b - 1) :
    Calls Tryd.prog 69 #[.int .i64 first, .int .i64 b, .int .i64 n] w (GaveO w 1 (oneF (first + n))) := by
  have d0 : decide (b < 1) = false := by simp; omega
  have d00 : decide (8 < b) = false := by simp; omega
  have d1 : decide (first < 0) = false := by simp; omega
  have d2 : decide (255 < first) = false := by simp; omega
  have d3 : (first % p8 b != 0) = false := by rw [h5]; rfl
  have hb8 := p8_bd h1 h2
  have hp2 : 2 ≤ p8 b := hb8.1
  have hp3 : p8 b ≤ 256 := hb8.2
  have d4 : decide (n < 0) = false := by simp; omega
  have d5 : decide (2147483647 < n) = false := by simp; omega
  have d6 : decide (n < p8 b - 1) = true := by simpa using h7
  have hroom := p8_room h4 h1 h2 h5 (show n < p8 b by omega)
  have hpos : 0 ≤ first + n := by omega
  clear h5
  go_enter Tryd.func69, Tryd.ntmps69
  go_wp2_with fail
  refine (rpow8 b _ h1 h2).mono ?_
  rintro e w' ⟨rfl, rfl⟩
  go_wp2_with fail
  refine (rpow8 b _ h1 h2).mono ?_
  rintro e w' ⟨rfl, rfl⟩
  go_wp2_with fail
  go_ret2
  exact ⟨_, _, rfl, Own.lit .u8 5 w.heap.size w (oneF (first + n)) #[.int .u8 (first + n)] 1 (Nat.le_refl _) (by simp [maxLen]) rfl, (Below.refl _ _).alloc (Nat.le_refl _) _⟩

set_option maxHeartbeats 1600000 in
theorem rpput_large (first b n : Int) (M : Nat) (w : World) (h1 : 1 ≤ b) (h2 : b ≤ 8) (h3 : 0 ≤ first) (h4 : first ≤ 255) (h5 : first % p8 b = 0) (hM : n = p8 b - 1 + M) (h6 : M ≤ 2147483647) (h7 : n ≤ 2147483647) :
    Calls Tryd.prog 69 #[.int .i64 first, .int .i64 b, .int .i64 n] w (GaveO w (1 + dgN 4 M) (catF 1 (oneF (first + (p8 b - 1))) (dgF 4 M))) := by
  obtain ⟨i0, hi, hz0, hz1, hz2⟩ := info_parts u8_info
  have d0 : decide (b < 1) = false := by simp; omega
  have d00 : decide (8 < b) = false := by simp; omega
  have d1 : decide (first < 0) = false := by simp; omega
  have d2 : decide (255 < first) = false := by simp; omega
  have d3 : (first % p8 b != 0) = false := by rw [h5]; rfl
  have hb8 := p8_bd h1 h2
  have hp2 : 2 ≤ p8 b := hb8.1
  have hp3 : p8 b ≤ 256 := hb8.2
  have d4 : decide (n < 0) = false := by simp; omega
  have d5 : decide (2147483647 < n) = false := by simp; omega
  have d6 : decide (n < p8 b - 1) = false := by simp; omega
  have hroom := p8_room h4 h1 h2 h5 (show p8 b - 1 < p8 b by omega)
  have hpos : 0 ≤ first + (p8 b - 1) := by omega
  have hM0 : 0 ≤ n - (p8 b - 1) := by omega
  have hM1 : n - (p8 b - 1) ≤ 2147483647 := by omega
  have HM := hide (show n - (p8 b - 1) = (M : Int) by omega)
  have HB := hide ((Below.refl w.heap.size w).alloc (Nat.le_refl _) (.cells #[.int .u8 (first + (p8 b - 1))] 5))
  have HO := hide (Own.lit .u8 5 w.heap.size w (oneF (first + (p8 b - 1))) #[.int .u8 (first + (p8 b - 1))] 1 (Nat.le_refl _) (by simp [maxLen]) rfl)
  have hbd := dgN_bd 4 M
  clear h5 hM
  go_enter Tryd.func69, Tryd.ntmps69
  go_wp2_with fail
  refine (rpow8 b _ h1 h2).mono ?_
  rintro e w' ⟨rfl, rfl⟩
  go_wp2_with fail
  refine (rpow8 b _ h1 h2).mono ?_
  rintro e w' ⟨rfl, rfl⟩
  go_wp2_with fail
  refine (digits_any 4 M _ _ HM.out (by omega) h6 (by omega)).mono ?_
  rintro e w2 ⟨v2, rfl, ho2, hb2⟩
  obtain ⟨A2, c2, rfl, hr2, _⟩ := ho2.rd
  have Hr2 := hide hr2
  have HB2 := hide (HB.out.of hb2)
  have HO2 := hide (HO.out.below hb2)
  have hs2 := HB2.out.size
  clear ho2 hr2 hb2
  go_wp2_with (at_builtin; refine wp_app rfl (.tmp 51) (.tmp 55) _ rfl i0 0 1 Tryd.underlying22 hi hz0 hz1 hz2 w.heap.size _ 1 _ rfl HO2.out _ _ _ _ rfl Hr2.out (by simp only [maxLen]; omega) (by omega) (by omega) ?_; intro v3 w3 hown3 hg3)
  have HB3 := hide (HB2.out.grown hg3 hs2 (fun j e => (World.ownsRow.lt HO2.out j e).1))
  obtain ⟨A3, c3, rfl, _, _⟩ := hown3.rd
  have Hown := hide hown3
  clear hown3 hg3
  go_ret2
  exact ⟨_, _, rfl, Hown.out, HB3.out⟩
end

section
open Go.RowKit

/-- 128 to the power of a byte's place behind the first one. -/
def un (k : Nat) : Int := 128 ^ (k - 1)
theorem un_succ {k : Nat} (h : 1 ≤ k) : un (k + 1) = un k * 128 := by
  obtain ⟨j, rfl⟩ : ∃ j, k = j + 1 := ⟨k - 1, by omega⟩
  exact Int.pow_succ ..
theorem un_bd {k : Nat} (h1 : 1 ≤ k) (h2 : k ≤ 6) : 1 ≤ un k ∧ un k ≤ 34359738368 := by
  have : k = 1 ∨ k = 2 ∨ k = 3 ∨ k = 4 ∨ k = 5 ∨ k = 6 := by omega
  rcases this with rfl | rfl | rfl | rfl | rfl | rfl <;> decide
theorem un_bd5 {k : Nat} (h1 : 1 ≤ k) (h2 : k ≤ 5) : 1 ≤ un k ∧ un k ≤ 268435456 := by
  have : k = 1 ∨ k = 2 ∨ k = 3 ∨ k = 4 ∨ k = 5 := by omega
  rcases this with rfl | rfl | rfl | rfl | rfl <;> decide
/-- The bytes behind the first one: the number, how many bytes, why not. -/
def gt (f : Nat → Int) (n : Nat) : Nat → Nat → Int → Int × Int × Int
  | 0, _, _ => (0, 0, 5)
  | fu + 1, k, acc => if n ≤ k then (0, 0, 3) else if f k < 128 then (if 2147483647 < acc + f k % 128 * un k then (0, 0, 5) else (acc + f k % 128 * un k, (k : Int) + 1, 0)) else gt f n fu (k + 1) (acc + f k % 128 * un k)
def pg (f : Nat → Int) (n : Nat) (b : Int) : Int × Int × Int :=
  if b < 1 ∨ 8 < b then (0, 0, 1) else if n = 0 then (0, 0, 3) else if f 0 % p8 b < p8 b - 1 then (f 0 % p8 b, 1, 0) else gt f n 5 1 (f 0 % p8 b)
def Got (R : Int × Int × Int) (w : World) (e : Ending) (w' : World) : Prop := e = .returned (.tuple #[.int .i64 R.1, .int .i64 R.2.1, .int .i64 R.2.2]) ∧ Drawn w w'
theorem gt_short {f : Nat → Int} {n fu k : Nat} {acc : Int} (h : n ≤ k) : gt f n (fu + 1) k acc = (0, 0, 3) := by simp [gt, h]
theorem gt_range {f : Nat → Int} {n fu k : Nat} {acc : Int} (h : k < n) (h1 : f k < 128) (h2 : 2147483647 < acc + f k % 128 * un k) : gt f n (fu + 1) k acc = (0, 0, 5) := by
  have : ¬ n ≤ k := by omega
  simp only [gt, if_neg this, if_pos h1, if_pos h2]
theorem gt_ok {f : Nat → Int} {n fu k : Nat} {acc : Int} (h : k < n) (h1 : f k < 128) (h2 : ¬ 2147483647 < acc + f k % 128 * un k) : gt f n (fu + 1) k acc = (acc + f k % 128 * un k, (k : Int) + 1, 0) := by
  have : ¬ n ≤ k := by omega
  simp only [gt, if_neg this, if_pos h1, if_neg h2]
theorem gt_more {f : Nat → Int} {n fu k : Nat} {acc : Int} (h : k < n) (h1 : ¬ f k < 128) : gt f n (fu + 1) k acc = gt f n fu (k + 1) (acc + f k % 128 * un k) := by
  have : ¬ n ≤ k := by omega
  simp only [gt, if_neg this, if_neg h1]

def JGet (W0 : World) (A : Option Addr) (n c : Nat) (f : Nat → Int) (R : Int × Int × Int) (a' : Act) (w' : World) : Prop :=
  ∃ (fu k : Nat) (acc z u : Int) (u1 u2 u3 u4 u5 u6 u10 u11 u12 u13 u14 u15 u16 u17 u18 u19 u20 u21 u22 u23 u24 u25 u26 u27 u28 u29 u30 u31 u32 u33 u34 u35 u36 u37 u38 u39 u40 u41 u42 u43 u44 u45 u46 u47 u48 u49 u50 u51 u52 u53 u54 u55 u56 u57 u58 : Value), a' = { tmps := #[.slice A n c, u1, u2, u3, u4, u5, u6, .int .i64 acc, .int .i64 z, .int .i64 u, u10, u11, u12, u13, u14, u15, u16, u17, u18, u19, u20, u21, u22, u23, u24, u25, u26, u27, u28, u29, u30, u31, u32, u33, u34, u35, u36, u37, u38, u39, u40, u41, u42, u43, u44, u45, u46, u47, u48, u49, u50, u51, u52, u53, u54, u55, u56, u57, u58], defers := [] } ∧ z = (k : Int) ∧ u = un k ∧ fu + k = 6 ∧ 1 ≤ k ∧ k ≤ n ∧ 0 ≤ acc ∧ acc ≤ 300 * un k ∧ gt f n fu k acc = R ∧ Drawn W0 w'
theorem jump_mono {l : Nat} {J J' : Act → World → Prop} {Q : Exit → Act → World → Prop} (h : ∀ a w, J a w → J' a w) : ∀ (e : Exit) (a : Act) (w : World), Exit.jump l J Q e a w → Exit.jump l J' Q e a w := by
  intro e a w he
  cases e with
  | goto l' => exact ⟨he.1, h a w he.2⟩
  | _ => exact he
theorem Got.no {w w' : World} {c : Int} {R : Int × Int × Int} (h : R = (0, 0, c)) (hd : Drawn w w') : Got R w (.returned (.tuple #[.int .i64 0, .int .i64 0, .int .i64 c])) w' := by
  subst h
  exact ⟨rfl, hd⟩
theorem Got.yes {w w' : World} {a b c : Int} {R : Int × Int × Int} (h : R = (a, b, c)) (hd : Drawn w w') : Got R w (.returned (.tuple #[.int .i64 a, .int .i64 b, .int .i64 c])) w' := by
  subst h
  exact ⟨rfl, hd⟩

theorem pget_arg (A : Option Addr) (n c : Nat) (b : Int) (w : World) (hb : b < 1 ∨ 8 < b) :
    Calls Tryd.prog 50 #[.slice A n c, .int .i64 b] w (Got (0, 0, 1) w) := by
  go_enter Tryd.func50, Tryd.ntmps50
  go_wp2
  go_step3
  go_wp2_with fail
  refine (wid_no b _ hb).mono ?_
  rintro e w' ⟨rfl, rfl⟩
  go_wp2_with fail
  try rw [Exit.noGoto_ret]
  go_ret3
  exact ⟨rfl, Drawn.refl _⟩
theorem pget_none (A : Option Addr) (c : Nat) (b : Int) (w : World) (h1 : 1 ≤ b) (h2 : b ≤ 8) :
    Calls Tryd.prog 50 #[.slice A 0 c, .int .i64 b] w (Got (0, 0, 3) w) := by
  go_enter Tryd.func50, Tryd.ntmps50
  go_wp2
  go_step3
  go_wp2_with fail
  refine (wid_yes b _ h1 h2).mono ?_
  rintro e w' ⟨rfl, rfl⟩
  go_wp2_with fail
  try rw [Exit.noGoto_ret]
  go_ret3
  exact ⟨rfl, Drawn.refl _⟩

set_option maxRecDepth 100000 in
set_option maxHeartbeats 3200000 in
theorem pget_ok (A : Option Addr) (n c : Nat) (f : Nat → Int) (b : Int) (w : World) (ha : Rd .u8 w A n c f) (hb : Byt n f) (h0 : 0 < n) (hn : n ≤ 100000) (h1 : 1 ≤ b) (h2 : b ≤ 8) :
    Calls Tryd.prog 50 #[.slice A n c, .int .i64 b] w (Got (pg f n b) w) := by
  have Ha := hide ha
  have Hb := hide hb
  have hb8 := p8_bd h1 h2
  have hb0 := hb 0 h0
  obtain ⟨x0, hx0⟩ : ∃ x, f 0 % p8 b = x := ⟨_, rfl⟩
  have hx1 : 0 ≤ x0 := by rw [← hx0]; exact Int.emod_nonneg _ (by omega)
  have hx2 : x0 < p8 b := by rw [← hx0]; exact Int.emod_lt_of_pos _ (by omega)
  have hand : bits .and .i64 (f 0) (p8 b - 1) = x0 := by rw [and_p8 hb0.1 hb0.2 h1 h2, hx0]
  obtain ⟨R, hR⟩ : ∃ R, pg f n b = R := ⟨_, rfl⟩
  rw [hR]
  have hR' : (if x0 < p8 b - 1 then (x0, 1, 0) else gt f n 5 1 x0) = R := by
    rw [← hR]
    unfold pg
    have e0 : ¬ (b < 1 ∨ 8 < b) := by omega
    have e1 : ¬ n = 0 := by omega
    rw [if_neg e0, if_neg e1, hx0]
  have HR := hide hR'
  have Hx0 := hide hx0
  clear ha hb hR hR' hx0
  obtain ⟨b0, off, rfl, hc0⟩ := Ha.out.at_ (i := 0) h0
  have hn0 : (0 : Int) < (n : Int) := by omega
  have hn0' : 0 < n := h0
  simp only [Nat.add_zero] at hc0
  by_cases hs : x0 < p8 b - 1
  · have d1 : decide (x0 < p8 b - 1) = true := by simpa using hs
    have d2 : ((n : Int) == 0) = false := by simp; omega
    have Hs : Hid (R = (x0, 1, 0)) := by
      have := HR.out
      rw [if_pos hs] at this
      exact this.symm
    go_enter Tryd.func50, Tryd.ntmps50
    go_wp2
    go_step3
    go_wp2_with fail
    refine (wid_yes b _ h1 h2).mono ?_
    rintro e w' ⟨rfl, rfl⟩
    go_wp2_with fail
    go_quiet ((go_at_call 74; exact Calls.quiet_of_same ((full_any _ _ h1 h2).mono fun _ _ hh => ⟨hh.1, hh.2.symm⟩)))
    go_wp2_with fail
    refine (full_any b _ h1 h2).mono ?_
    rintro e w' ⟨rfl, rfl⟩
    go_wp2_with fail
    try rw [Exit.noGoto_ret]
    go_ret3
    exact Got.yes Hs.out (Drawn.of _ _)
  · have d1 : decide (x0 < p8 b - 1) = false := by simpa using hs
    have d2 : ((n : Int) == 0) = false := by simp; omega
    have Hs : Hid (gt f n 5 1 x0 = R) := by
      have := HR.out
      rw [if_neg hs] at this
      exact this
    go_enter Tryd.func50, Tryd.ntmps50
    go_wp2
    refine (fun (key : ∀ a w', JGet w (some ⟨b0, off, none⟩) n c f R a w' → Code.wp Tryd.prog _ (Exit.jump 0 (fun a2 w2 => JGet w (some ⟨b0, off, none⟩) n c f R a2 w2 ∧ (6 - intOf (a2.tmps.getD 8 undef)).toNat < (6 - intOf (a.tmps.getD 8 undef)).toNat) _) a w') => wp_scope_jumps 0 (JGet w (some ⟨b0, off, none⟩) n c f R) (fun a' _ => (6 - intOf (a'.tmps.getD 8 undef)).toNat) rfl ?_ (fun a w' h => wp_seq (wp_skip (key a w' h)))) ?_
    · go_wp2_with fail
      refine (wid_yes b _ h1 h2).mono ?_
      rintro e w' ⟨rfl, rfl⟩
      go_wp2_with fail
      go_quiet ((go_at_call 74; exact Calls.quiet_of_same ((full_any _ _ h1 h2).mono fun _ _ hh => ⟨hh.1, hh.2.symm⟩)))
      go_wp2_with fail
      refine (full_any b _ h1 h2).mono ?_
      rintro e w' ⟨rfl, rfl⟩
      go_wp2_with fail
      go_step3
      rename_i K hK
      refine hK _ _ ?_
      refine Code.wp_mono (jump_mono fun _ _ h => h.1) (key _ _ ⟨5, 1, x0, _, _, _, _, _, _, _, _, _, _, _, _, _, _, _, _, _, _, _, _, _, _, _, _, _, _, _, _, _, _, _, _, _, _, _, _, _, _, _, _, _, _, _, _, _, _, _, _, _, _, _, _, _, _, _, _, _, rfl, rfl, rfl, rfl, Nat.le_refl _, h0, hx1, by have : un 1 = 1 := rfl; omega, Hs.out, Drawn.of _ _⟩)
    · clear Hs hc0 hand d1 hs
      rintro a' w' ⟨fu, k, acc, z, u, u1, u2, u3, u4, u5, u6, u10, u11, u12, u13, u14, u15, u16, u17, u18, u19, u20, u21, u22, u23, u24, u25, u26, u27, u28, u29, u30, u31, u32, u33, u34, u35, u36, u37, u38, u39, u40, u41, u42, u43, u44, u45, u46, u47, u48, u49, u50, u51, u52, u53, u54, u55, u56, u57, u58, rfl, rfl, hu, hfu, hk, hkn, ha0, ha1, hgt, hd⟩
      obtain ⟨q, rfl⟩ := hd
      have Hu := hide hu
      have Hgt := hide hgt
      have Hfu := hide hfu
      have hk6 : k ≤ 6 := by omega
      rcases fu with _ | fu
      · have hk5 : decide (5 < (k : Int)) = true := by simp; omega
        have Hr : Hid (R = (0, 0, 5)) := Hgt.out.symm
        clear hu hgt hfu
        go_wp2_with fail
        simp only [Exit.jump]
        go_ret3
        exact Got.no Hr.out (Drawn.of _ _)
      have hk5 : decide (5 < (k : Int)) = false := by simp; omega
      have hk55 : k ≤ 5 := by omega
      by_cases he : k = n
      · have Hr : Hid (R = (0, 0, 3)) := Hgt.out.symm.trans (gt_short (by omega))
        have dk : ((k : Int) == (n : Int)) = true := by simp; omega
        have dk' : (k == n) = true := by simpa using he
        have He := hide he
        clear hu hgt hfu he
        go_wp2_with fail
        simp only [Exit.jump]
        go_ret3
        exact Got.no Hr.out (Drawn.of _ _)
      have dk : ((k : Int) == (n : Int)) = false := by simp; omega
      have dk' : (k == n) = false := by simpa using he
      have hlt : k < n := by omega
      have hlt' : (k : Int) < (n : Int) := by omega
      have hk0 : (0 : Int) ≤ (k : Int) := by omega
      obtain ⟨b1, o1, e1, hc1⟩ := Ha.out.at_ hlt
      obtain ⟨rfl, rfl⟩ : b0 = b1 ∧ off = o1 := by simpa using e1
      have hbk := Hb.out k hlt
      have hbk0 := hbk.1
      have hbk1 := hbk.2
      have hub := un_bd5 hk hk55
      rw [← hu] at hub ha1
      have hu0 : 0 ≤ u := by omega
      have hu1 : u ≤ 268435456 := hub.2
      obtain ⟨X, hX⟩ : ∃ X, f k % 128 * u = X := ⟨_, rfl⟩
      have hX0 : 0 ≤ f k % 128 * u := Int.mul_nonneg (by omega) hu0
      have hX1 : f k % 128 * u ≤ 127 * u := Int.mul_le_mul_of_nonneg_right (by omega) hu0
      have hX2 : f k % 128 * u ≤ 34091302912 := by omega
      have hs0 : 0 ≤ acc + f k % 128 * u := by omega
      have hs1 : acc + f k % 128 * u ≤ 300 * (u * 128) := by omega
      have hs2 : acc + f k % 128 * u ≤ 10307921510400 := by omega
      have hu2 : u * 128 ≤ 34359738368 := by omega
      have Hs1 := hide hs1
      have HX := hide hX
      have hkk : ((k : Int) + 1) - 1 = (k : Int) := by omega
      clear hgt hfu hu he e1 hX hs1 hX1
      by_cases h128 : f k < 128
      · have dg1 : decide (128 ≤ f k) = false := by simp; omega
        by_cases hbig : 2147483647 < acc + f k % 128 * u
        · have dg2 : decide (2147483647 < acc + f k % 128 * u) = true := by simpa using hbig
          have Hr : Hid (R = (0, 0, 5)) := Hgt.out.symm.trans (gt_range hlt h128 (by rw [← Hu.out]; exact hbig))
          go_wp2_with fail
          simp only [Exit.jump]
          go_ret3
          exact Got.no Hr.out (Drawn.of _ _)
        · have dg2 : decide (2147483647 < acc + f k % 128 * u) = false := by simpa using hbig
          have Hr : Hid (R = (acc + f k % 128 * u, (k : Int) + 1, 0)) := Hgt.out.symm.trans (by rw [Hu.out]; exact gt_ok hlt h128 (by rw [← Hu.out]; exact hbig))
          go_wp2_with fail
          simp only [Exit.jump]
          go_ret3
          exact Got.yes Hr.out (Drawn.of _ _)
      · have dg1 : decide (128 ≤ f k) = true := by simp; omega
        have Hr : Hid (gt f n fu (k + 1) (acc + f k % 128 * u) = R) := by
          have h := Hgt.out
          rw [gt_more hlt h128, ← Hu.out] at h
          exact h
        have Hu' : Hid (u * 128 = un (k + 1)) := by
          show _ = _
          rw [un_succ hk, Hu.out]
        go_wp2_with fail
        go_step3
        refine ⟨rfl, ⟨fu, k + 1, _, _, _, _, _, _, _, _, _, _, _, _, _, _, _, _, _, _, _, _, _, _, _, _, _, _, _, _, _, _, _, _, _, _, _, _, _, _, _, _, _, _, _, _, _, _, _, _, _, _, _, _, _, _, _, _, _, _, rfl, by omega, Hu'.out, by have := Hfu.out; omega, by omega, hlt, hs0, by rw [← Hu'.out]; exact Hs1.out, Hr.out, Drawn.of _ _⟩, ?_⟩
        show Int.toNat (6 - ((k : Int) + 1)) < Int.toNat (6 - (k : Int))
        omega
end

section
open Go.RowKit

set_option maxHeartbeats 1600000 in
theorem rpow7 (k : Nat) (z : Int) (w : World) (hz : z = 7 * ((k : Int) - 1)) (h1 : 1 ≤ k) (h2 : k ≤ 5) : Calls Tryd.prog 79 #[.int .i64 z] w fun e w' => e = .returned (.int .i64 (un k)) ∧ w = w' := by
  have : (z = 0 ∧ un k = 1) ∨ (z = 7 ∧ un k = 128) ∨ (z = 14 ∧ un k = 16384) ∨ (z = 21 ∧ un k = 2097152) ∨ (z = 28 ∧ un k = 268435456) := by
    have : k = 1 ∨ k = 2 ∨ k = 3 ∨ k = 4 ∨ k = 5 := by omega
    rcases this with rfl | rfl | rfl | rfl | rfl
    · exact .inl ⟨by omega, rfl⟩
    · exact .inr (.inl ⟨by omega, rfl⟩)
    · exact .inr (.inr (.inl ⟨by omega, rfl⟩))
    · exact .inr (.inr (.inr (.inl ⟨by omega, rfl⟩)))
    · exact .inr (.inr (.inr (.inr ⟨by omega, rfl⟩)))
  clear hz h1 h2
  generalize un k = r at *
  rcases this with ⟨rfl, rfl⟩ | ⟨rfl, rfl⟩ | ⟨rfl, rfl⟩ | ⟨rfl, rfl⟩ | ⟨rfl, rfl⟩
  all_goals
    go_enter Tryd.func79, Tryd.ntmps79
    go_wp2
    go_rounds 29
    go_ret
    exact ⟨rfl, rfl⟩

theorem rpget_arg (A : Option Addr) (n c : Nat) (b : Int) (w : World) (hb : b < 1 ∨ 8 < b) :
    Calls Tryd.prog 57 #[.slice A n c, .int .i64 b] w (Got (0, 0, 1) w) := by
  rcases hb with hb | hb
  · have d0 : decide (b < 1) = true := by simpa using hb
    go_enter Tryd.func57, Tryd.ntmps57
    go_wp2_with fail
    go_ret3
    exact ⟨rfl, Drawn.refl _⟩
  · have d0 : decide (b < 1) = false := by simp; omega
    have d1 : decide (8 < b) = true := by simpa using hb
    go_enter Tryd.func57, Tryd.ntmps57
    go_wp2_with fail
    go_ret3
    exact ⟨rfl, Drawn.refl _⟩
theorem rpget_none (A : Option Addr) (c : Nat) (b : Int) (w : World) (h1 : 1 ≤ b) (h2 : b ≤ 8) :
    Calls Tryd.prog 57 #[.slice A 0 c, .int .i64 b] w (Got (0, 0, 3) w) := by
  have d0 : decide (b < 1) = false := by simp; omega
  have d1 : decide (8 < b) = false := by simp; omega
  go_enter Tryd.func57, Tryd.ntmps57
  go_wp2_with fail
  go_ret3
  exact ⟨rfl, Drawn.refl _⟩

set_option maxHeartbeats 3200000 in
theorem rpget_ok (A : Option Addr) (n c : Nat) (f : Nat → Int) (b : Int) (w : World) (ha : Rd .u8 w A n c f) (hb : Byt n f) (h0 : 0 < n) (hn : n ≤ 100000) (h1 : 1 ≤ b) (h2 : b ≤ 8) :
    Calls Tryd.prog 57 #[.slice A n c, .int .i64 b] w (Got (pg f n b) w) := by
  have Ha := hide ha
  have Hb := hide hb
  have hb8 := p8_bd h1 h2
  have hb0 := (hb 0 h0).1
  have hb1 := (hb 0 h0).2
  obtain ⟨x0, hx0⟩ : ∃ x, f 0 % p8 b = x := ⟨_, rfl⟩
  have hx1 : 0 ≤ x0 := by rw [← hx0]; exact Int.emod_nonneg _ (by omega)
  have hx2 : x0 < p8 b := by rw [← hx0]; exact Int.emod_lt_of_pos _ (by omega)
  obtain ⟨R, hR⟩ : ∃ R, pg f n b = R := ⟨_, rfl⟩
  rw [hR]
  have hR' : (if x0 < p8 b - 1 then (x0, 1, 0) else gt f n 5 1 x0) = R := by
    rw [← hR]
    unfold pg
    have e0 : ¬ (b < 1 ∨ 8 < b) := by omega
    have e1 : ¬ n = 0 := by omega
    rw [if_neg e0, if_neg e1, hx0]
  have HR := hide hR'
  clear ha hb hR hR'
  obtain ⟨b0, off, rfl, hc0⟩ := Ha.out.at_ (i := 0) h0
  have hn0 : (0 : Int) < (n : Int) := by omega
  simp only [Nat.add_zero] at hc0
  have d00 : decide (b < 1) = false := by simp; omega
  have d01 : decide (8 < b) = false := by simp; omega
  have d2 : ((n : Int) == 0) = false := by simp; omega
  have hp2 : 2 ≤ p8 b := hb8.1
  have hp3 : p8 b ≤ 256 := hb8.2
  have hpp : p8 b - 1 + 1 = p8 b := by omega
  by_cases hs : x0 < p8 b - 1
  · have d1 : decide (x0 < p8 b - 1) = true := by simpa using hs
    have Hs : Hid (R = (x0, 1, 0)) := by
      have := HR.out
      rw [if_pos hs] at this
      exact this.symm
    go_enter Tryd.func57, Tryd.ntmps57
    go_wp2_with fail
    refine (rpow8 b _ h1 h2).mono ?_
    rintro e w' ⟨rfl, rfl⟩
    go_wp2_with fail
    go_ret3
    exact Got.yes (by rw [hx0]; exact Hs.out) (Drawn.refl _)
  · have d1 : decide (x0 < p8 b - 1) = false := by simpa using hs
    have Hs : Hid (gt f n 5 1 x0 = R) := by
      have := HR.out
      rw [if_neg hs] at this
      exact this
    go_enter Tryd.func57, Tryd.ntmps57
    go_wp2_with fail
    refine (rpow8 b _ h1 h2).mono ?_
    rintro e w' ⟨rfl, rfl⟩
    go_wp2_with fail
    go_loopw [8, 9] (fun v i wr => ∃ (fu k : Nat) (acc : Int), i = .int .i64 k ∧ v = .int .i64 acc ∧ fu + k = 6 ∧ 1 ≤ k ∧ 0 ≤ acc ∧ acc ≤ 300 * un k ∧ gt f n fu k acc = R ∧ Drawn w wr) (fun _ i _ => 6 - (intOf i).toNat)
    case atStart => exact ⟨5, 1, x0, rfl, by rw [hx0], rfl, Nat.le_refl _, hx1, by have : un 1 = 1 := rfl; omega, Hs.out, Drawn.refl _⟩
    case round =>
      obtain ⟨fu, k, acc, rfl, rfl, hfu, hk, ha0, ha1, hgt, hd⟩ := hrel
      have Hgt := hide hgt
      have Hfu := hide hfu
      have Hd := hide hd
      clear Hs hc0 hx0 hs d1 hpp
      rcases fu with _ | fu
      · have hk5 : decide ((k : Int) ≤ 5) = false := by simp; omega
        have Hr : Hid (R = (0, 0, 5)) := Hgt.out.symm
        clear hgt hfu hd
        go_wp2_with fail
        go_ret3
        exact Got.no Hr.out Hd.out
      have hk5 : decide ((k : Int) ≤ 5) = true := by simp; omega
      have hk55 : k ≤ 5 := by omega
      by_cases he : n ≤ k
      · have Hr : Hid (R = (0, 0, 3)) := Hgt.out.symm.trans (gt_short he)
        have dk : decide ((n : Int) ≤ (k : Int)) = true := by simp; omega
        have dk' : decide (n ≤ k) = true := by simpa using he
        clear hgt hfu hd
        go_wp2_with fail
        go_ret3
        exact Got.no Hr.out Hd.out
      have dk : decide ((n : Int) ≤ (k : Int)) = false := by simp; omega
      have dk' : decide (n ≤ k) = false := by simpa using he
      have hlt : k < n := by omega
      have hlt' : (k : Int) < (n : Int) := by omega
      have hk0 : (0 : Int) ≤ (k : Int) := by omega
      obtain ⟨b1, o1, e1, hc1⟩ := (Ha.out.drawn hd).at_ hlt
      obtain ⟨rfl, rfl⟩ : b0 = b1 ∧ off = o1 := by simpa using e1
      have hbk := Hb.out k hlt
      have hbk0 := hbk.1
      have hbk1 := hbk.2
      have hub := un_bd5 hk hk55
      have hus := un_succ hk
      have hu0 : 0 ≤ un k := by omega
      have hX0 : 0 ≤ f k % 128 * un k := Int.mul_nonneg (by omega) hu0
      have hX1 : f k % 128 * un k ≤ 127 * un k := Int.mul_le_mul_of_nonneg_right (by omega) hu0
      have hX2 : f k % 128 * un k ≤ 34091302912 := by omega
      have hs0 : 0 ≤ acc + f k % 128 * un k := by omega
      have Hs1 := hide (show acc + f k % 128 * un k ≤ 300 * un (k + 1) by omega)
      have hs2 : acc + f k % 128 * un k ≤ 10307921510400 := by omega
      have hw0 : IntKind.i64.wrap (f k) = f k := IntWalk.i64_in _ (by omega)
      have ht : (f k).tmod 128 = f k % 128 := Int.tmod_eq_emod_of_nonneg hbk0
      have hw1 : IntKind.i64.wrap (f k % 128) = f k % 128 := IntWalk.i64_in _ (by omega)
      have hw2 : IntKind.i64.wrap ((k : Int) - 1) = (k : Int) - 1 := IntWalk.i64_in _ (by omega)
      have hw3 : IntKind.i64.wrap (7 * ((k : Int) - 1)) = 7 * ((k : Int) - 1) := IntWalk.i64_in _ (by omega)
      have hw4 : IntKind.i64.wrap (f k % 128 * un k) = f k % 128 * un k := IntWalk.i64_in _ (by omega)
      have hw5 : IntKind.i64.wrap (acc + f k % 128 * un k) = acc + f k % 128 * un k := IntWalk.i64_in _ (by omega)
      clear hgt hfu he e1 hus hX1 hd
      by_cases h128 : f k < 128
      · have dg1 : decide (f k < 128) = true := by simpa using h128
        by_cases hbig : 2147483647 < acc + f k % 128 * un k
        · have dg2 : decide (2147483647 < acc + f k % 128 * un k) = true := by simpa using hbig
          have Hr : Hid (R = (0, 0, 5)) := Hgt.out.symm.trans (gt_range hlt h128 hbig)
          go_wp2_with fail
          go_quiet ((go_at_call 79; exact Calls.quiet_of_same ((rpow7 k _ _ rfl hk hk55).mono fun _ _ hh => ⟨hh.1, hh.2.symm⟩)))
          clear hw0 ht hw1 hw2 hw3 hw4 hw5
          go_wp2_with fail
          go_ret3
          exact Got.no Hr.out (Hd.out.trans (Drawn.of _ _))
        · have dg2 : decide (2147483647 < acc + f k % 128 * un k) = false := by simpa using hbig
          have Hr : Hid (R = (acc + f k % 128 * un k, (k : Int) + 1, 0)) := Hgt.out.symm.trans (gt_ok hlt h128 hbig)
          go_wp2_with fail
          go_quiet ((go_at_call 79; exact Calls.quiet_of_same ((rpow7 k _ _ rfl hk hk55).mono fun _ _ hh => ⟨hh.1, hh.2.symm⟩)))
          clear hw0 ht hw1 hw2 hw3 hw4 hw5
          go_wp2_with fail
          go_ret3
          exact Got.yes Hr.out (Hd.out.trans (Drawn.of _ _))
      · have dg1 : decide (f k < 128) = false := by simpa using h128
        have Hr : Hid (gt f n fu (k + 1) (acc + f k % 128 * un k) = R) := by
          have h := Hgt.out
          rw [gt_more hlt h128] at h
          exact h
        go_wp2_with fail
        go_quiet ((go_at_call 79; exact Calls.quiet_of_same ((rpow7 k _ _ rfl hk hk55).mono fun _ _ hh => ⟨hh.1, hh.2.symm⟩)))
        clear hw0 ht hw1 hw2 hw3 hw4 hw5
        go_wp2_with fail
        go_roundw
        case rel => exact ⟨fu, k + 1, _, by go_num, rfl, by have := Hfu.out; omega, by omega, hs0, Hs1.out, Hr.out, Hd.out.trans (Drawn.of _ _)⟩
        case measure => simp [intOf]; omega
end

section
open Go.RowKit

def pfN (b n : Int) : Nat := if n < p8 b - 1 then 1 else 1 + dgN 4 (n - (p8 b - 1)).toNat
def pfF (first b n : Int) : Nat → Int := if n < p8 b - 1 then oneF (first + n) else catF 1 (oneF (first + (p8 b - 1))) (dgF 4 (n - (p8 b - 1)).toNat)
theorem pfN_bd (b n : Int) : 1 ≤ pfN b n ∧ pfN b n ≤ 6 := by
  have := dgN_bd 4 (n - (p8 b - 1)).toNat
  unfold pfN
  split <;> omega
/-- What a Put hands back. -/
def PutR (first b n : Int) (w : World) (e : Ending) (w' : World) : Prop :=
  (pfE first b n ≠ 0 ∧ e = .returned (.tuple #[.slice none 0 0, .int .i64 (pfE first b n)]) ∧ w = w') ∨ (pfE first b n = 0 ∧ GaveO w (pfN b n) (pfF first b n) e w')
theorem pfE_arg {first b n : Int} (h : b < 1 ∨ 8 < b ∨ first < 0 ∨ 255 < first ∨ first % p8 b ≠ 0) : pfE first b n = 1 := by
  unfold pfE
  rw [if_pos h]
theorem pfE_range {first b n : Int} (h : ¬ (b < 1 ∨ 8 < b ∨ first < 0 ∨ 255 < first ∨ first % p8 b ≠ 0)) (h2 : n < 0 ∨ 2147483647 < n) : pfE first b n = 5 := by
  unfold pfE
  rw [if_neg h, if_pos h2]
theorem pfE_fine {first b n : Int} (h : ¬ (b < 1 ∨ 8 < b ∨ first < 0 ∨ 255 < first ∨ first % p8 b ≠ 0)) (h2 : ¬ (n < 0 ∨ 2147483647 < n)) : pfE first b n = 0 := by
  unfold pfE
  rw [if_neg h, if_neg h2]
theorem not_arg {first b : Int} (h : ¬ (b < 1 ∨ 8 < b ∨ first < 0 ∨ 255 < first ∨ first % p8 b ≠ 0)) : 1 ≤ b ∧ b ≤ 8 ∧ 0 ≤ first ∧ first ≤ 255 ∧ first % p8 b = 0 := by
  refine ⟨by omega, by omega, by omega, by omega, ?_⟩
  by_cases h3 : first % p8 b = 0
  · exact h3
  · exact absurd (.inr (.inr (.inr (.inr h3)))) h
theorem pput_any (first b n : Int) (w : World) : Calls Tryd.prog 84 #[.int .i64 first, .int .i64 b, .int .i64 n] w (PutR first b n w) := by
  by_cases h : b < 1 ∨ 8 < b ∨ first < 0 ∨ 255 < first ∨ first % p8 b ≠ 0
  · have e := pfE_arg (n := n) h
    exact (pput_arg first b n w h).mono fun _ _ hh => .inl ⟨by rw [e]; decide, by rw [e]; exact hh.1, hh.2⟩
  obtain ⟨h1, h2, h3, h4, h5⟩ := not_arg h
  by_cases hr : n < 0 ∨ 2147483647 < n
  · have e := pfE_range h hr
    exact (pput_range first b n w h1 h2 h3 h4 h5 hr).mono fun _ _ hh => .inl ⟨by rw [e]; decide, by rw [e]; exact hh.1, hh.2⟩
  have e := pfE_fine h hr
  by_cases hs : n < p8 b - 1
  · exact (pput_small first b n w h1 h2 h3 h4 h5 (by omega) hs).mono fun _ _ hh => .inr ⟨e, by unfold pfN pfF; rw [if_pos hs, if_pos hs]; exact hh⟩
  · have := p8_bd h1 h2
    exact (pput_large first b n (n - (p8 b - 1)).toNat w h1 h2 h3 h4 h5 (by omega) (by omega) (by omega)).mono fun _ _ hh => .inr ⟨e, by unfold pfN pfF; rw [if_neg hs, if_neg hs]; exact hh⟩
theorem rpput_any (first b n : Int) (w : World) : Calls Tryd.prog 69 #[.int .i64 first, .int .i64 b, .int .i64 n] w (PutR first b n w) := by
  by_cases h : b < 1 ∨ 8 < b ∨ first < 0 ∨ 255 < first ∨ first % p8 b ≠ 0
  · have e := pfE_arg (n := n) h
    exact (rpput_arg first b n w h).mono fun _ _ hh => .inl ⟨by rw [e]; decide, by rw [e]; exact hh.1, hh.2⟩
  obtain ⟨h1, h2, h3, h4, h5⟩ := not_arg h
  by_cases hr : n < 0 ∨ 2147483647 < n
  · have e := pfE_range h hr
    exact (rpput_range first b n w h1 h2 h3 h4 h5 hr).mono fun _ _ hh => .inl ⟨by rw [e]; decide, by rw [e]; exact hh.1, hh.2⟩
  have e := pfE_fine h hr
  by_cases hs : n < p8 b - 1
  · exact (rpput_small first b n w h1 h2 h3 h4 h5 (by omega) hs).mono fun _ _ hh => .inr ⟨e, by unfold pfN pfF; rw [if_pos hs, if_pos hs]; exact hh⟩
  · have := p8_bd h1 h2
    exact (rpput_large first b n (n - (p8 b - 1)).toNat w h1 h2 h3 h4 h5 (by omega) (by omega) (by omega)).mono fun _ _ hh => .inr ⟨e, by unfold pfN pfF; rw [if_neg hs, if_neg hs]; exact hh⟩
theorem pg_arg {f : Nat → Int} {n : Nat} {b : Int} (h : b < 1 ∨ 8 < b) : pg f n b = (0, 0, 1) := by unfold pg; rw [if_pos h]
theorem pg_none {f : Nat → Int} {b : Int} (h : ¬ (b < 1 ∨ 8 < b)) : pg f 0 b = (0, 0, 3) := by unfold pg; rw [if_neg h, if_pos rfl]
theorem pget_any (A : Option Addr) (n c : Nat) (f : Nat → Int) (b : Int) (w : World) (ha : Rd .u8 w A n c f) (hb : Byt n f) (hn : n ≤ 100000) :
    Calls Tryd.prog 50 #[.slice A n c, .int .i64 b] w (Got (pg f n b) w) := by
  by_cases h : b < 1 ∨ 8 < b
  · rw [pg_arg h]
    exact pget_arg A n c b w h
  rcases Nat.eq_zero_or_pos n with rfl | h0
  · rw [pg_none h]
    exact pget_none A c b w (by omega) (by omega)
  exact pget_ok A n c f b w ha hb h0 hn (by omega) (by omega)
theorem rpget_any (A : Option Addr) (n c : Nat) (f : Nat → Int) (b : Int) (w : World) (ha : Rd .u8 w A n c f) (hb : Byt n f) (hn : n ≤ 100000) :
    Calls Tryd.prog 57 #[.slice A n c, .int .i64 b] w (Got (pg f n b) w) := by
  by_cases h : b < 1 ∨ 8 < b
  · rw [pg_arg h]
    exact rpget_arg A n c b w h
  rcases Nat.eq_zero_or_pos n with rfl | h0
  · rw [pg_none h]
    exact rpget_none A c b w (by omega) (by omega)
  exact rpget_ok A n c f b w ha hb h0 hn (by omega) (by omega)

def lit18 : Nat → Int := fun i => if i = 0 then 31 else if i = 1 then 154 else 10
end

section
open Go.RowKit

theorem cellKeep8 {w w' : World} (hb : Below w.heap.size w w') {a : Addr} {v : Value} (h : w.cell? a = some v) : w'.cell? a = some v := (hb.cell (World.block_lt_of_cell? w _ h)).trans h
section
variable {P : Program} {k : IntKind} {e : TypeId} {w : World} {ops : Array Oper} {o : Oper} {a : Act} {K : Act → World → Prop} {Q : Exit → Act → World → Prop} {E : Prop}
theorem step_app8 (hgd : o.guard = none) (s x : Operand) (t : TypeId) (ho : o.op = .call { callee := .builtin .append, args := #[s, x], argTypes := #[t, t] })
    (i : TypeInfo) (z : Int) (bytes : Nat) (ht : P.underlying t = some (.slice e)) (hi : P.info? e = some i) (hz : i.zero = some (.int k z)) (hsize : i.size = 1) (hby : i.bytes = bytes)
    (B : Nat) (v : Value) (n : Nat) (f : Nat → Int) (hs : a.eval s = v) (hown : Own k e B w v n f) (A : Option Addr) (m c : Nat) (g : Nat → Int) (hx : a.eval x = .slice A m c) (hr : Rd k w A m c g)
    (h63 : n + m ≤ maxLen) (hbytes : (n + m) * bytes ≤ 140737488355328) (hbase : B ≤ w.heap.size)
    (h : ∀ v' w', Own k e B w' v' (n + m) (catF n f g) → w.grownBy w' v.ownBlock → K (a.put o.dst v') w') :
    if Region.wanted o (yielded ops a.tmps) = true then Oper.wp P o a w K Q else E := by
  have hw : Region.wanted o (yielded ops a.tmps) = true := by simp [Region.wanted, hgd]
  rw [if_pos hw]
  obtain ⟨v', w', hrun, h2, h3⟩ := run_app (P := P) t o.type i z bytes ht hi hz hsize hby B v n f hown A m c g hr h63 hbytes hbase
  unfold Oper.wp execOp
  simp only [ho, resolve, invoke, builtin, Sem.run_bind, Sem.run_pure, Result.andThen_ok, List.map_toArray, List.map_cons, List.map_nil, hs, hx, hrun]
  exact h v' w' h2 h3
end

/-! ### digits and numbers -/
theorem mul_split (q r u : Int) : (128 * q + r) * u = r * u + q * (u * 128) := by
  have h1 : (128 * q + r) * u = 128 * (q * u) + r * u := by rw [Int.add_mul, Int.mul_assoc]
  have h2 : q * (u * 128) = 128 * (q * u) := by rw [← Int.mul_assoc, Int.mul_comm]
  omega
theorem dg_byt (k : Nat) : ∀ m, m < 128 ^ (k + 1) → Byt (dgN k m) (dgF k m) := by
  induction k with
  | zero =>
    intro m hm i hi
    have : m < 128 := by simpa using hm
    simp [dgF, oneF]
    omega
  | succ k ih =>
    intro m hm i hi
    by_cases hs : m < 128
    · rw [(dg_small (k + 1) m hs).2]
      simp [oneF]
      omega
    · obtain ⟨e1, e2⟩ := dg_big k m (by omega)
      rw [e1] at hi
      rw [e2]
      have hpw : 128 ^ (k + 1 + 1) = 128 ^ (k + 1) * 128 := Nat.pow_succ ..
      have hm2 : m / 128 < 128 ^ (k + 1) := Nat.div_lt_of_lt_mul (by rw [Nat.mul_comm]; omega)
      unfold catF
      split
      · simp [oneF]
        omega
      · exact ih (m / 128) hm2 (i - 1) (by omega)
theorem gt_dig (k : Nat) : ∀ (m p n : Nat) (acc : Int) (F : Nat → Int), 1 ≤ p → m < 128 ^ (k + 1) → (∀ i, i < dgN k m → F (p + i) = dgF k m i) → p + dgN k m ≤ n → acc + m * un p ≤ 2147483647 →
    gt F n (k + 1) p acc = (acc + m * un p, (p : Int) + dgN k m, 0) := by
  induction k with
  | zero =>
    intro m p n acc F hp hm hF hn ha
    have hm : m < 128 := by simpa using hm
    have e0 := hF 0 (by simp [dgN])
    simp only [Nat.add_zero, dgF, oneF] at e0
    have hmm : (m : Int) % 128 = m := by omega
    simp only [dgN] at hn
    rw [gt_ok (by omega) (by omega) (by rw [e0, hmm]; omega), e0, hmm]
    simp [dgN]
  | succ k ih =>
    intro m p n acc F hp hm hF hn ha
    by_cases hs : m < 128
    · obtain ⟨e1, e2⟩ := dg_small (k + 1) m hs
      rw [e1] at hF hn ⊢
      rw [e2] at hF
      have e0 := hF 0 (by omega)
      simp only [Nat.add_zero, oneF] at e0
      have hmm : (m : Int) % 128 = m := by omega
      rw [gt_ok (by omega) (by omega) (by rw [e0, hmm]; omega), e0, hmm]
      simp
    · obtain ⟨e1, e2⟩ := dg_big k m (by omega)
      rw [e1] at hF hn ⊢
      rw [e2] at hF
      have hpw : 128 ^ (k + 1 + 1) = 128 ^ (k + 1) * 128 := Nat.pow_succ ..
      have hm2 : m / 128 < 128 ^ (k + 1) := Nat.div_lt_of_lt_mul (by rw [Nat.mul_comm]; omega)
      have hbd := dgN_bd k (m / 128)
      have e0 := hF 0 (by omega)
      simp only [Nat.add_zero, catF, oneF] at e0
      simp at e0
      have hd : F p % 128 = (m : Int) % 128 := by rw [e0]; omega
      have hq : ((m / 128 : Nat) : Int) = (m : Int) / 128 := rfl
      have hsum : acc + (m : Int) % 128 * un p + ((m / 128 : Nat) : Int) * un (p + 1) = acc + m * un p := by
        rw [un_succ hp, hq]
        have := mul_split ((m : Int) / 128) ((m : Int) % 128) (un p)
        rw [show 128 * ((m : Int) / 128) + (m : Int) % 128 = m by omega] at this
        omega
      rw [gt_more (by omega) (by omega), hd, ih (m / 128) (p + 1) n _ F (by omega) hm2 (fun i hi => by
        have h := hF (i + 1) (by omega)
        rw [show p + 1 + i = p + (i + 1) by omega, h]
        simp [catF]) (by omega) (by rw [hsum]; exact ha), hsum]
      refine Prod.ext rfl (Prod.ext ?_ rfl)
      simp
      omega
theorem gt_cut (k : Nat) : ∀ (m p n : Nat) (acc : Int) (F : Nat → Int), (∀ i, i < dgN k m → F (p + i) = dgF k m i) → n + 1 = p + dgN k m → gt F n (k + 1) p acc = (0, 0, 3) := by
  induction k with
  | zero =>
    intro m p n acc F hF hn
    simp only [dgN] at hn
    exact gt_short (by omega)
  | succ k ih =>
    intro m p n acc F hF hn
    by_cases hs : m < 128
    · obtain ⟨e1, _⟩ := dg_small (k + 1) m hs
      rw [e1] at hn
      exact gt_short (by omega)
    · obtain ⟨e1, e2⟩ := dg_big k m (by omega)
      rw [e1] at hF hn
      rw [e2] at hF
      have hbd := dgN_bd k (m / 128)
      have e0 := hF 0 (by omega)
      simp only [Nat.add_zero, catF, oneF] at e0
      simp at e0
      rw [gt_more (by omega) (by omega)]
      exact ih (m / 128) (p + 1) n _ F (fun i hi => by
        have h := hF (i + 1) (by omega)
        rw [show p + 1 + i = p + (i + 1) by omega, h]
        simp [catF]) (by omega)
theorem low_p8 {x y b : Int} (b1 : 1 ≤ b) (b2 : b ≤ 8) (hx : x % p8 b = 0) (y0 : 0 ≤ y) (y1 : y < p8 b) : (x + y) % p8 b = y := by
  rcases p8_cases b1 b2 with ⟨rfl, e⟩ | ⟨rfl, e⟩ | ⟨rfl, e⟩ | ⟨rfl, e⟩ | ⟨rfl, e⟩ | ⟨rfl, e⟩ | ⟨rfl, e⟩ | ⟨rfl, e⟩ <;> rw [e] at hx y1 ⊢ <;> omega
theorem pf_byt {first b n : Int} (h : pfE first b n = 0) : Byt (pfN b n) (pfF first b n) := by
  obtain ⟨h1, h2, h3, h4, h5, h6, h7⟩ := pfE_ok h
  have hb8 := p8_bd h1 h2
  unfold pfN pfF
  by_cases hs : n < p8 b - 1
  · rw [if_pos hs, if_pos hs]
    have := p8_room h4 h1 h2 h5 (show n < p8 b by omega)
    intro i _
    simp only [oneF]
    omega
  · rw [if_neg hs, if_neg hs]
    have := p8_room h4 h1 h2 h5 (show p8 b - 1 < p8 b by omega)
    have hm : (n - (p8 b - 1)).toNat < 128 ^ (4 + 1) := by
      have : (128 : Nat) ^ (4 + 1) = 34359738368 := by decide
      omega
    intro i hi
    unfold catF
    split
    · simp only [oneF]
      omega
    · exact dg_byt 4 _ hm (i - 1) (by omega)
theorem pf_first {first b n : Int} (h : pfE first b n = 0) : first ≤ pfF first b n 0 := by
  obtain ⟨h1, h2, h3, h4, h5, h6, h7⟩ := pfE_ok h
  have hb8 := p8_bd h1 h2
  unfold pfF
  by_cases hs : n < p8 b - 1
  · rw [if_pos hs]
    simp only [oneF]
    omega
  · rw [if_neg hs]
    simp [catF, oneF]
    omega
theorem pg_back {first b n : Int} (h : pfE first b n = 0) (m : Nat) (g : Nat → Int) : pg (catF (pfN b n) (pfF first b n) g) (pfN b n + m) b = (n, (pfN b n : Int), 0) := by
  obtain ⟨h1, h2, h3, h4, h5, h6, h7⟩ := pfE_ok h
  have hb8 := p8_bd h1 h2
  have hbd := pfN_bd b n
  have e0 : ¬ (b < 1 ∨ 8 < b) := by omega
  have e1 : ¬ pfN b n + m = 0 := by omega
  have e2 : catF (pfN b n) (pfF first b n) g 0 = pfF first b n 0 := by simp [catF]; omega
  unfold pg
  rw [if_neg e0, if_neg e1, e2]
  by_cases hs : n < p8 b - 1
  · have eF : pfF first b n 0 = first + n := by simp [pfF, hs, oneF]
    have eN : pfN b n = 1 := by simp [pfN, hs]
    rw [eF, low_p8 h1 h2 h5 h6 (by omega), if_pos hs, eN]
    rfl
  · have eF : pfF first b n 0 = first + (p8 b - 1) := by simp [pfF, hs, catF, oneF]
    have eN : pfN b n = 1 + dgN 4 (n - (p8 b - 1)).toNat := by simp [pfN, hs]
    have hm : (n - (p8 b - 1)).toNat < 128 ^ (4 + 1) := by
      have : (128 : Nat) ^ (4 + 1) = 34359738368 := by decide
      omega
    have hun : un 1 = 1 := rfl
    rw [eF, low_p8 h1 h2 h5 (by omega) (by omega), if_neg (by omega), gt_dig 4 (n - (p8 b - 1)).toNat 1 _ _ _ (Nat.le_refl _) hm (fun i hi => by
      have hi1 : 1 + i < pfN b n := by omega
      simp only [catF, if_pos hi1, pfF, if_neg hs]
      simp [catF]) (by omega) (by rw [hun]; omega), hun]
    refine Prod.ext ?_ (Prod.ext ?_ rfl)
    · simp
      omega
    · simp
      omega
theorem pg_cut {first b n : Int} (h : pfE first b n = 0) (q : Nat) (hq : pfN b n = q + 1) : pg (pfF first b n) q b = (0, 0, 3) := by
  obtain ⟨h1, h2, h3, h4, h5, h6, h7⟩ := pfE_ok h
  have hb8 := p8_bd h1 h2
  have e0 : ¬ (b < 1 ∨ 8 < b) := by omega
  unfold pg
  rw [if_neg e0]
  by_cases hz : q = 0
  · rw [if_pos hz]
  rw [if_neg hz]
  by_cases hs : n < p8 b - 1
  · have eN : pfN b n = 1 := by simp [pfN, hs]
    omega
  · have eF : pfF first b n 0 = first + (p8 b - 1) := by simp [pfF, hs, catF, oneF]
    have eN : pfN b n = 1 + dgN 4 (n - (p8 b - 1)).toNat := by simp [pfN, hs]
    rw [eF, low_p8 h1 h2 h5 (by omega) (by omega), if_neg (by omega)]
    exact gt_cut 4 (n - (p8 b - 1)).toNat 1 _ _ _ (fun i hi => by
      simp only [pfF, if_neg hs]
      simp [catF]) (by omega)
end
end Go.Proofs.YtnkcbljhgcgpaaaDoor
