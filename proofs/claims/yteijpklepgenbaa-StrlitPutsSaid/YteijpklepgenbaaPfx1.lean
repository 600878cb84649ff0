/- Layer 18: the contracts of the small functions of 'prefix' and of its reference: widths, powers, digits. -/
import Derived.Test.YteijpklepgenbaaOctW
import Derived.WalkMore
import Derived.ScopeJumps
namespace Go.Proofs.Yteijpklepgenbaa
open Go.RowKit

/-- 2 to the power of a width from 1 to 8. -/
def p8 (b : Int) : Int := if b = 1 then 2 else if b = 2 then 4 else if b = 3 then 8 else if b = 4 then 16 else if b = 5 then 32 else if b = 6 then 64 else if b = 7 then 128 else 256
theorem p8_cases {b : Int} (h1 : 1 ≤ b) (h2 : b ≤ 8) : (b = 1 ∧ p8 b = 2) ∨ (b = 2 ∧ p8 b = 4) ∨ (b = 3 ∧ p8 b = 8) ∨ (b = 4 ∧ p8 b = 16) ∨ (b = 5 ∧ p8 b = 32) ∨ (b = 6 ∧ p8 b = 64) ∨ (b = 7 ∧ p8 b = 128) ∨ (b = 8 ∧ p8 b = 256) := by
  have : b = 1 ∨ b = 2 ∨ b = 3 ∨ b = 4 ∨ b = 5 ∨ b = 6 ∨ b = 7 ∨ b = 8 := by omega
  rcases this with rfl | rfl | rfl | rfl | rfl | rfl | rfl | rfl <;> simp [p8]
theorem p8_bd {b : Int} (h1 : 1 ≤ b) (h2 : b ≤ 8) : 2 ≤ p8 b ∧ p8 b ≤ 256 := by
  have := p8_cases h1 h2
  omega
theorem wrap8 : ∀ n : Int, 0 ≤ n → n < 2 ^ 8 → IntKind.i64.wrap n = n := by
  intro n a b
  rw [IntKind.wrap_i64]
  omega
theorem and_p8 {x b : Int} (h0 : 0 ≤ x) (h1 : x ≤ 255) (b1 : 1 ≤ b) (b2 : b ≤ 8) : bits .and .i64 x (p8 b - 1) = x % p8 b := by
  rcases p8_cases b1 b2 with ⟨rfl, e⟩ | ⟨rfl, e⟩ | ⟨rfl, e⟩ | ⟨rfl, e⟩ | ⟨rfl, e⟩ | ⟨rfl, e⟩ | ⟨rfl, e⟩ | ⟨rfl, e⟩ <;> rw [e]
  · exact bits_mask .i64 8 (by decide) wrap8 1 (by decide) x h0 (by omega)
  · exact bits_mask .i64 8 (by decide) wrap8 2 (by decide) x h0 (by omega)
  · exact bits_mask .i64 8 (by decide) wrap8 3 (by decide) x h0 (by omega)
  · exact bits_mask .i64 8 (by decide) wrap8 4 (by decide) x h0 (by omega)
  · exact bits_mask .i64 8 (by decide) wrap8 5 (by decide) x h0 (by omega)
  · exact bits_mask .i64 8 (by decide) wrap8 6 (by decide) x h0 (by omega)
  · exact bits_mask .i64 8 (by decide) wrap8 7 (by decide) x h0 (by omega)
  · exact bits_mask .i64 8 (by decide) wrap8 8 (by decide) x h0 (by omega)
theorem or_p8 {x y b : Int} (h0 : 0 ≤ x) (h1 : x ≤ 255) (b1 : 1 ≤ b) (b2 : b ≤ 8) (hx : x % p8 b = 0) (y0 : 0 ≤ y) (y1 : y < p8 b) : bits .or .i64 x y = x + y := by
  rcases p8_cases b1 b2 with ⟨rfl, e⟩ | ⟨rfl, e⟩ | ⟨rfl, e⟩ | ⟨rfl, e⟩ | ⟨rfl, e⟩ | ⟨rfl, e⟩ | ⟨rfl, e⟩ | ⟨rfl, e⟩ <;> rw [e] at hx y1
  · exact bits_join .i64 8 (by decide) wrap8 1 x y h0 hx (by omega) y0 (by omega) (by omega)
  · exact bits_join .i64 8 (by decide) wrap8 2 x y h0 hx (by omega) y0 (by omega) (by omega)
  · exact bits_join .i64 8 (by decide) wrap8 3 x y h0 hx (by omega) y0 (by omega) (by omega)
  · exact bits_join .i64 8 (by decide) wrap8 4 x y h0 hx (by omega) y0 (by omega) (by omega)
  · exact bits_join .i64 8 (by decide) wrap8 5 x y h0 hx (by omega) y0 (by omega) (by omega)
  · exact bits_join .i64 8 (by decide) wrap8 6 x y h0 hx (by omega) y0 (by omega) (by omega)
  · exact bits_join .i64 8 (by decide) wrap8 7 x y h0 hx (by omega) y0 (by omega) (by omega)
  · exact bits_join .i64 8 (by decide) wrap8 8 x y h0 hx (by omega) y0 (by omega) (by omega)
/-- The room above the lower bits. -/
theorem p8_room {x y b : Int} (h1 : x ≤ 255) (b1 : 1 ≤ b) (b2 : b ≤ 8) (hx : x % p8 b = 0) (y1 : y < p8 b) : x + y ≤ 255 := by
  rcases p8_cases b1 b2 with ⟨rfl, e⟩ | ⟨rfl, e⟩ | ⟨rfl, e⟩ | ⟨rfl, e⟩ | ⟨rfl, e⟩ | ⟨rfl, e⟩ | ⟨rfl, e⟩ | ⟨rfl, e⟩ <;> rw [e] at hx y1 <;> omega

/-! ### the program's small ones -/
theorem wid_yes (s : Int) (w : World) (h1 : 1 ≤ s) (h2 : s ≤ 8) : Calls Try.prog 24 #[.int .i64 s] w fun e w' => e = .returned (.bool true) ∧ w = w' := by
  have hd : decide (s ≤ 8) = true := by simpa using h2
  have hd1 : decide (1 ≤ s) = true := by simpa using h1
  go_enter Try.func24, Try.ntmps24
  go_wp2
  go_ret
  exact ⟨rfl, rfl⟩
theorem wid_no (s : Int) (w : World) (h : s < 1 ∨ 8 < s) : Calls Try.prog 24 #[.int .i64 s] w fun e w' => e = .returned (.bool false) ∧ w = w' := by
  rcases h with h | h
  · have hd : decide (1 ≤ s) = false := by simpa using h
    go_enter Try.func24, Try.ntmps24
    go_wp2
    go_ret
    exact ⟨rfl, rfl⟩
  · have hd : decide (s ≤ 8) = false := by simpa using h
    have hd1 : decide (1 ≤ s) = true := by simp; omega
    go_enter Try.func24, Try.ntmps24
    go_wp2
    go_ret
    exact ⟨rfl, rfl⟩
theorem full_any (b : Int) (w : World) (h1 : 1 ≤ b) (h2 : b ≤ 8) : Calls Try.prog 25 #[.int .i64 b] w fun e w' => e = .returned (.int .i64 (p8 b - 1)) ∧ w = w' := by
  rcases p8_cases h1 h2 with ⟨rfl, e⟩ | ⟨rfl, e⟩ | ⟨rfl, e⟩ | ⟨rfl, e⟩ | ⟨rfl, e⟩ | ⟨rfl, e⟩ | ⟨rfl, e⟩ | ⟨rfl, e⟩
  all_goals
    rw [e]
    clear e h1 h2
    go_enter Try.func25, Try.ntmps25
    go_wp2
    go_ret
    exact ⟨rfl, rfl⟩
theorem rpow8 (b : Int) (w : World) (h1 : 1 ≤ b) (h2 : b ≤ 8) : Calls Try.prog 30 #[.int .i64 b] w fun e w' => e = .returned (.int .i64 (p8 b)) ∧ w = w' := by
  rcases p8_cases h1 h2 with ⟨rfl, e⟩ | ⟨rfl, e⟩ | ⟨rfl, e⟩ | ⟨rfl, e⟩ | ⟨rfl, e⟩ | ⟨rfl, e⟩ | ⟨rfl, e⟩ | ⟨rfl, e⟩
  all_goals
    rw [e]
    clear e h1 h2
    go_enter Try.func30, Try.ntmps30
    go_wp2
    go_rounds 9
    go_ret
    exact ⟨rfl, rfl⟩

/-! ### digits -/
/-- How many bytes of seven bits a number has (k more at most), and which. -/
def dgN : Nat → Nat → Nat
  | 0, _ => 1
  | k + 1, n => if n < 128 then 1 else 1 + dgN k (n / 128)
def dgF : Nat → Nat → Nat → Int
  | 0, n => oneF n
  | k + 1, n => if n < 128 then oneF n else catF 1 (oneF (128 + (n : Int) % 128)) (dgF k (n / 128))
theorem dgN_bd (k n : Nat) : 1 ≤ dgN k n ∧ dgN k n ≤ k + 1 := by
  induction k generalizing n with
  | zero => simp [dgN]
  | succ k ih =>
    have := ih (n / 128)
    unfold dgN
    split <;> omega
theorem catF_assoc (a b : Nat) (f g h : Nat → Int) : catF (a + b) (catF a f g) h = catF a f (catF b g h) := by
  funext i
  unfold catF
  by_cases h1 : i < a
  · have : i < a + b := by omega
    simp [h1, this]
  · by_cases h2 : i < a + b
    · have : i - a < b := by omega
      simp [h1, h2, this]
    · have h3 : ¬ i - a < b := by omega
      have h4 : i - (a + b) = i - a - b := by omega
      simp [h1, h2, h3, h4]
end Go.Proofs.Yteijpklepgenbaa
