/- Whole numbers as words of binary64, more: those too great, bounds, the fraction's digits. Plain theorems; no program is named. -/
import Derived.Test.YtfgifdgbhikegaaFlo3
namespace Go.Proofs.Ytfgifdgbhikegaa
open Ieee

theorem read_max : double.read 4841369599423283200 = .number false 4503599627370496 0 := by decide
theorem val_max : Val 4841369599423283200 4503599627370496 := by
  refine ⟨false, 4503599627370496, 1074, by decide, ?_⟩
  simp only [Bool.false_eq_true, if_false, sc_eq, Int.natCast_mul]
  rfl
theorem one_scaled (k q : Nat) (h : q = 52 + k) : 4503599627370496 * 2 ^ k = 2 ^ q := by
  have e : (4503599627370496 : Nat) = 2 ^ 52 := by decide
  rw [e, ← Nat.pow_add, h]
theorem val_one : Val 4607182418800017408 1 := by
  refine ⟨false, 4503599627370496, 1022, by decide, ?_⟩
  rw [Int.one_mul]
  exact congrArg (fun z : Nat => (z : Int)) (one_scaled 1022 sc rfl)
theorem val_zero : Val 0 0 := ⟨false, 0, 0, by decide, by simp⟩

/-- A whole number past 2 ^ 53, as a word, is above 2 ^ 52. -/
theorem big_above (n : Int) (h1 : 9007199254740992 < n.natAbs) (h2 : n.natAbs ≤ 9223372036854775808) : double.order (floatOfInt .f64 n % 9223372036854775808) 4841369599423283200 = some .gt := by
  obtain ⟨fb, fl, fi, fs, ff⟩ := double_facts
  have ew : floatOfInt .f64 n = double.write (.number (decide (n < 0)) n.natAbs 0) := rfl
  rw [ew]
  generalize decide (n < 0) = s
  generalize n.natAbs = N at *
  have hN0 : N ≠ 0 := by omega
  have l1 : 53 ≤ N.log2 := (Nat.le_log2 hN0).2 (by omega)
  have l2 : N.log2 ≤ 63 := by
    have := (Nat.log2_lt (k := 64) hN0).2 (by omega)
    omega
  have hlast : max ((0 : Int) + (N.log2 : Int) - ((52 : Nat) : Int)) (-1074) = (N.log2 : Int) - 52 := by omega
  have t1 : ((0 : Int) - ((N.log2 : Int) - 52)).toNat = 0 := by omega
  have t2 : ((N.log2 : Int) - 52 - 0).toNat = N.log2 - 52 := by omega
  have t3 : ((N.log2 : Int) - 52 - -1074).toNat = N.log2 + 1022 := by omega
  have hk : ∃ K, Toward.even.cut s N (N.log2 - 52) = K ∧ 4503599627370496 ≤ K ∧ K ≤ 9007199254740992 := by
    refine ⟨_, rfl, ?_⟩
    unfold Toward.cut
    dsimp only
    rw [Nat.min_eq_left (by omega), Nat.shiftLeft_eq, Nat.one_mul]
    have hp := Nat.two_pow_pos (N.log2 - 52)
    have q1 : 4503599627370496 ≤ N / 2 ^ (N.log2 - 52) := by
      rw [Nat.le_div_iff_mul_le hp]
      have h3 := Nat.log2_self_le hN0
      have e : (4503599627370496 : Nat) = 2 ^ 52 := by decide
      rw [e, ← Nat.pow_add, show 52 + (N.log2 - 52) = N.log2 by omega]
      exact h3
    have q2 : N / 2 ^ (N.log2 - 52) < 9007199254740992 := by
      rw [Nat.div_lt_iff_lt_mul hp]
      have h3 := Nat.lt_log2_self (n := N)
      have e : (9007199254740992 : Nat) = 2 ^ 53 := by decide
      rw [e, ← Nat.pow_add, show 53 + (N.log2 - 52) = N.log2 + 1 by omega]
      exact h3
    generalize N / 2 ^ (N.log2 - 52) = low at *
    have hb : ∀ b : Bool, b.toNat ≤ 1 := by intro b; cases b <;> decide
    constructor
    · omega
    · refine Nat.le_trans (Nat.add_le_add_left (hb _) low) ?_
      omega
  obtain ⟨K, hK, k1, k2⟩ := hk
  have hw : double.write (.number s N 0) = double.word s ((N.log2 + 1022) * 4503599627370496 + K) := by
    simp only [Format.write, Format.nearest, hN0, if_false, ff, fl, fb, fi]
    rw [hlast, t1, t2, t3, Nat.shiftLeft_zero, hK, Nat.min_eq_left (by omega)]
  rw [hw]
  have q0 : (N.log2 + 1023) * 4503599627370496 ≤ (N.log2 + 1022) * 4503599627370496 + K := by
    rw [show N.log2 + 1023 = (N.log2 + 1022) + 1 by omega, Nat.add_mul (N.log2 + 1022) 1, Nat.one_mul]
    exact Nat.add_le_add_left k1 _
  have q9 : (N.log2 + 1022) * 4503599627370496 + K < 9218868437227405312 := by omega
  generalize (N.log2 + 1022) * 4503599627370496 + K = r at *
  have hmod : double.word s r % 9223372036854775808 = r := by
    unfold Format.word
    rw [fs]
    cases s
    · simp; omega
    · simp; omega
  rw [hmod]
  have q1 : N.log2 + 1023 ≤ r / 4503599627370496 := (Nat.le_div_iff_mul_le (by decide)).2 q0
  have hread : double.read r = .number false (4503599627370496 + r % 4503599627370496) (-1074 + ((r / 4503599627370496 - 1 : Nat) : Int)) := by
    have hd : (r / 9223372036854775808 % 2 == 1) = false := by
      rw [Nat.div_eq_of_lt (by omega)]; rfl
    have hr : r % 9223372036854775808 = r := Nat.mod_eq_of_lt (by omega)
    simp only [Format.read, fs, fb, fi, fl, hd, hr]
    rw [if_neg (by omega), if_pos (by omega)]
  unfold Format.order
  rw [hread, read_max]
  simp only [Datum.order]
  have hM : 4503599627370496 ≤ 4503599627370496 + r % 4503599627370496 := Nat.le_add_right _ _
  generalize 4503599627370496 + r % 4503599627370496 = M at *
  have e1 : min (-1074 + ((r / 4503599627370496 - 1 : Nat) : Int)) 0 = 0 := by omega
  rw [e1]
  have e2 : (-1074 + ((r / 4503599627370496 - 1 : Nat) : Int) - 0).toNat = (r / 4503599627370496 - 1076) + 1 := by omega
  rw [e2]
  generalize r / 4503599627370496 - 1076 = k
  have e3 : signed false M (k + 1) = ((M * 2 ^ k * 2 : Nat) : Int) := by
    rw [signed_eq, Nat.pow_succ, Nat.mul_assoc]; rfl
  have e4 : signed false 4503599627370496 ((0 : Int) - 0).toNat = 4503599627370496 := by rw [signed_eq]; decide
  rw [e3, e4]
  have e5 : M ≤ M * 2 ^ k := Nat.le_mul_of_pos_right _ (Nat.two_pow_pos k)
  have n1 : ¬ ((M * 2 ^ k * 2 : Nat) : Int) < 4503599627370496 := by omega
  have n2 : ¬ ((M * 2 ^ k * 2 : Nat) : Int) = 4503599627370496 := by omega
  simp only [compare, compareOfLessAndEq, n1, n2, if_false]
end Go.Proofs.Ytfgifdgbhikegaa
