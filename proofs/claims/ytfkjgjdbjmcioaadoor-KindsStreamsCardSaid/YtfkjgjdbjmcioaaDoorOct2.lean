/- The contracts of 'octet.Get' and of its reference: the number of the first bytes, or why there is none. -/
import Derived.Test.YtfkjgjdbjmcioaaDoorOct1
namespace Go.Proofs.YtfkjgjdbjmcioaaDoor
open Go.RowKit

theorem ofInt_i64n (a : Nat) (ha : a < 9223372036854775808) : (BitVec.ofInt 64 (a : Int)).toNat = a := by
  rw [BitVec.ofInt_natCast, BitVec.toNat_ofNat]; exact Nat.mod_eq_of_lt (by omega)
/-- A number shifted by a byte, and a byte: their bits don't meet. -/
theorem or_byte {v c : Int} (h0 : 0 ≤ v) (h1 : v < 16777216) (h2 : 0 ≤ c) (h3 : c ≤ 255) : bits .or .i64 (v * 256) c = v * 256 + c := by
  obtain ⟨a, rfl⟩ := Int.eq_ofNat_of_zero_le h0
  obtain ⟨b, rfl⟩ := Int.eq_ofNat_of_zero_le h2
  have hn : a * 256 ||| b = a * 256 + b := by
    have : a * 256 = 2 ^ 8 * a := by omega
    rw [this, Nat.two_pow_add_eq_or_of_lt (by omega)]
  have hx : a * 256 ||| b < 2 ^ 63 := by rw [hn]; omega
  show IntKind.i64.wrap ((BitVec.ofInt 64 ((a : Int) * 256) ||| BitVec.ofInt 64 (b : Int)).toNat : Int) = _
  rw [BitVec.toNat_or, show ((a : Int) * 256) = ((a * 256 : Nat) : Int) by omega, ofInt_i64n _ (by omega), ofInt_i64n b (by omega), hn, IntKind.wrap_i64]
  omega

theorem num_lt {f : Nat → Int} {n : Nat} (hb : Byt n f) (k : Nat) (hk : k ≤ n) (h4 : k < 4) : 0 ≤ num f k ∧ num f k < 16777216 := by
  obtain ⟨a, b⟩ := num_bd hb k hk (by omega)
  have : k = 0 ∨ k = 1 ∨ k = 2 ∨ k = 3 := by omega
  rcases this with rfl | rfl | rfl | rfl <;> simp at b <;> omega

/-! ### its reference -/
/-- 256 to the power of k, for k up to 4. -/
def p2 (k : Nat) : Int := if k = 0 then 1 else if k = 1 then 256 else if k = 2 then 65536 else if k = 3 then 16777216 else 4294967296
theorem p2_succ (k : Nat) (h : k < 4) : p2 (k + 1) = 256 * p2 k := by
  have : k = 0 ∨ k = 1 ∨ k = 2 ∨ k = 3 := by omega
  rcases this with rfl | rfl | rfl | rfl <;> simp [p2]
theorem p2_cases (k : Nat) (h : k ≤ 4) : ((k : Int) = 0 ∧ p2 k = 1) ∨ ((k : Int) = 1 ∧ p2 k = 256) ∨ ((k : Int) = 2 ∧ p2 k = 65536) ∨ ((k : Int) = 3 ∧ p2 k = 16777216) ∨ ((k : Int) = 4 ∧ p2 k = 4294967296) := by
  have : k = 0 ∨ k = 1 ∨ k = 2 ∨ k = 3 ∨ k = 4 := by omega
  rcases this with rfl | rfl | rfl | rfl | rfl <;> simp [p2]
theorem step_num {f : Nat → Int} {k s : Nat} (h : k < s) (h4 : s ≤ 4) : num f k * p2 (s - k) + f k * p2 (s - 1 - k) = num f (k + 1) * p2 (s - (k + 1)) := by
  have e1 : s - k = (s - (k + 1)) + 1 := by omega
  have e2 : s - 1 - k = s - (k + 1) := by omega
  rw [e1, e2, p2_succ _ (by omega)]
  simp only [num, Int.add_mul, Int.mul_assoc]
theorem step_bd {f : Nat → Int} {n k s : Nat} (hb : Byt n f) (hn : s ≤ n) (h : k < s) (h4 : s ≤ 4) :
    0 ≤ num f k * p2 (s - k) ∧ num f k * p2 (s - k) ≤ 4294967296 ∧ 0 ≤ f k * p2 (s - 1 - k) ∧ f k * p2 (s - 1 - k) ≤ 4294967296 := by
  obtain ⟨q3, q4⟩ := hb k (by omega)
  obtain ⟨a, b⟩ := num_bd hb k (by omega) (by omega)
  have hs : s = 1 ∨ s = 2 ∨ s = 3 ∨ s = 4 := by omega
  have hk : k = 0 ∨ k = 1 ∨ k = 2 ∨ k = 3 := by omega
  rcases hs with rfl | rfl | rfl | rfl <;> rcases hk with rfl | rfl | rfl | rfl <;> first | omega | (simp [p2] at *; omega)

end Go.Proofs.YtfkjgjdbjmcioaaDoor
