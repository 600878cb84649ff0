/- Whole numbers as words of binary64, more: whole parts, products with 0 and 1, signs. Plain theorems; no program is named. -/
import Derived.Test.YtfgifdgbhikegaaFlo2
namespace Go.Proofs.Ytfgifdgbhikegaa
open Ieee

theorem cut_zero (s : Bool) (c d : Nat) : Toward.zero.cut s (c * 2 ^ d) d = c := by
  by_cases hc : c = 0
  · subst hc
    unfold Toward.cut
    simp
  · have hl : d ≤ (c * 2 ^ d).log2 := by
      rw [Nat.le_log2 (Nat.mul_ne_zero hc (by have := Nat.two_pow_pos d; omega))]
      exact Nat.le_mul_of_pos_left _ (by omega)
    unfold Toward.cut
    rw [Nat.min_eq_left (by omega), Nat.shiftLeft_eq, Nat.one_mul]
    have hp := Nat.two_pow_pos d
    have h1 : c * 2 ^ d / 2 ^ d = c := Nat.mul_div_cancel _ hp
    simp [h1]

/-- The magnitude of a datum that stands for a whole number. -/
theorem dval_mag {s : Bool} {m u : Nat} {n : Int} (h : (if s then -((m * 2 ^ u : Nat) : Int) else ((m * 2 ^ u : Nat) : Int)) = n * ((2 ^ sc : Nat) : Int)) : m * 2 ^ u = n.natAbs * 2 ^ sc := by
  have e := congrArg Int.natAbs h
  rw [Int.natAbs_mul, Int.natAbs_natCast] at e
  rw [← e]
  cases s
  · simp only [Bool.false_eq_true, if_false, Int.natAbs_natCast]
  · simp only [if_true, Int.natAbs_neg, Int.natAbs_natCast]
theorem dval_sign {s : Bool} {m u : Nat} {n : Int} (h : (if s then -((m * 2 ^ u : Nat) : Int) else ((m * 2 ^ u : Nat) : Int)) = n * ((2 ^ sc : Nat) : Int)) : (if s then -((n.natAbs : Nat) : Int) else ((n.natAbs : Nat) : Int)) = n := by
  have hp := two_pos sc
  cases s
  · simp only [Bool.false_eq_true, if_false] at h ⊢
    have : 0 ≤ n := by
      by_cases h0 : n < 0
      · have := Int.mul_neg_of_neg_of_pos h0 hp; omega
      · omega
    omega
  · simp only [if_true] at h ⊢
    have : n ≤ 0 := by
      by_cases h0 : 0 < n
      · have := Int.mul_pos h0 hp; omega
      · omega
    omega

theorem toInt_dval {d : Datum} {n : Int} (h : DVal d n) : d.toInt .zero = some n := by
  obtain ⟨s, m, u, rfl, he⟩ := h
  have hm := dval_mag he
  have hs := dval_sign he
  have key : Toward.zero.cut s (m <<< ((u : Int) - 1074).toNat) (-((u : Int) - 1074)).toNat = n.natAbs := by
    by_cases hu : 1074 ≤ u
    · have e1 : ((u : Int) - 1074).toNat = u - 1074 := by omega
      have e2 : (-((u : Int) - 1074)).toNat = 0 := by omega
      rw [e1, e2, Nat.shiftLeft_eq]
      have h2 : m * 2 ^ (u - 1074) * 2 ^ sc = n.natAbs * 2 ^ sc := by
        rw [Nat.mul_assoc, ← Nat.pow_add, show u - 1074 + sc = u by rw [sc_eq]; omega, hm]
      have h3 := Nat.eq_of_mul_eq_mul_right (Nat.two_pow_pos sc) h2
      rw [h3]
      have := cut_zero s n.natAbs 0
      rwa [Nat.pow_zero, Nat.mul_one] at this
    · have e1 : ((u : Int) - 1074).toNat = 0 := by omega
      have e2 : (-((u : Int) - 1074)).toNat = 1074 - u := by omega
      rw [e1, e2, Nat.shiftLeft_zero]
      have h2 : m * 2 ^ u = n.natAbs * 2 ^ (1074 - u) * 2 ^ u := by
        rw [Nat.mul_assoc, ← Nat.pow_add, show 1074 - u + u = sc by rw [sc_eq]; omega, hm]
      have h3 := Nat.eq_of_mul_eq_mul_right (Nat.two_pow_pos u) h2
      rw [h3]
      exact cut_zero s _ _
  simp only [Datum.toInt, Datum.integral, key, signed, Nat.shiftLeft_zero]
  exact congrArg some hs
theorem toInt_val {x : Nat} {n : Int} (h : Val x n) (h1 : -9223372036854775808 ≤ n) (h2 : n ≤ 9223372036854775807) : floatToIntVal .f64 x .i64 = some n := by
  unfold floatToIntVal
  have e : (FloatKind.f64.decode x).toInt .zero = some n := toInt_dval h
  rw [e]
  exact if_pos ⟨h1, h2⟩

/-- What is read has at most 53 digits. -/
theorem read_mag {x : Nat} {s : Bool} {m : Nat} {e : Int} (h : double.read x = .number s m e) : m < 9007199254740992 := by
  obtain ⟨fb, fl, fi, fs, ff⟩ := double_facts
  simp only [Format.read, fb, fl, fi, fs] at h
  have hq : x % 9223372036854775808 % 4503599627370496 < 4503599627370496 := Nat.mod_lt _ (by decide)
  split at h
  · injection h with _ h2 _; omega
  · split at h
    · injection h with _ h2 _; omega
    · split at h <;> cases h
theorem write_nought (s : Bool) (e : Int) : Val (double.write (.number s 0 e)) 0 := by
  have h := write_val s 0 0 0 (by simp) (by decide)
  have e2 : double.write (.number s 0 e) = double.write (.number s 0 (((0 : Nat) : Int) - 1074)) := by
    simp only [Format.write, Format.nearest, if_true]
  rw [e2]
  cases s <;> simpa using h

theorem read_zero : double.read 0 = .number false 0 (-1074) := by decide
theorem read_one : double.read 4607182418800017408 = .number false 4503599627370496 (-52) := by decide
theorem mul_zero_val {x : Nat} {a : Int} (hx : Val x a) : ∃ r, floatBits .mul .f64 x 0 = some r ∧ Val r 0 := by
  obtain ⟨s, m, u, hr, he⟩ := hx
  refine ⟨double.write (.number (s ^^ false) (m * 0) ((u : Int) - 1074 + -1074)), ?_, ?_⟩
  · show double.mul x 0 = _
    simp only [Format.mul, hr, read_zero, Datum.product, Option.map_some]
  · rw [Nat.mul_zero]
    exact write_nought _ _
theorem mul_one_val {x : Nat} {a : Int} (hx : Val x a) (h1 : -9007199254740992 ≤ a) (h2 : a ≤ 9007199254740992) : ∃ r, floatBits .mul .f64 x 4607182418800017408 = some r ∧ Val r a := by
  obtain ⟨s, m, u, hr, he⟩ := hx
  have hm := dval_mag he
  have hs := dval_sign he
  have hlt := read_mag hr
  refine ⟨double.write (.number (s ^^ false) (m * 4503599627370496) ((u : Int) - 1074 + -52)), ?_, ?_⟩
  · show double.mul x _ = _
    simp only [Format.mul, hr, read_one, Datum.product, Option.map_some]
  · rw [Bool.xor_false]
    by_cases hz : a = 0
    · subst hz
      have : m = 0 := by
        rw [Int.natAbs_zero, Nat.zero_mul] at hm
        rcases Nat.mul_eq_zero.1 hm with h0 | h0
        · exact h0
        · have := Nat.two_pow_pos u; omega
      subst this
      rw [Nat.zero_mul]
      exact write_nought _ _
    · have hu : 52 ≤ u := by
        by_cases hu : u < 52
        · exfalso
          have h3 : 2 ^ 53 * 2 ^ u ≤ m * 2 ^ u := by
            rw [hm]
            have h4 : 2 ^ 53 * 2 ^ u ≤ 2 ^ sc := by
              rw [← Nat.pow_add]
              exact Nat.pow_le_pow_right (by omega) (by rw [sc_eq]; omega)
            have h5 : 2 ^ sc ≤ a.natAbs * 2 ^ sc := Nat.le_mul_of_pos_left _ (by omega)
            omega
          have h6 := Nat.le_of_mul_le_mul_right h3 (Nat.two_pow_pos u)
          have e : (2 : Nat) ^ 53 = 9007199254740992 := by decide
          omega
        · omega
      have h := write_val s (m * 4503599627370496) (u - 52) a.natAbs (by
        rw [← hm, Nat.mul_assoc]
        refine congrArg (m * ·) ?_
        have e : (4503599627370496 : Nat) = 2 ^ 52 := by decide
        rw [e, ← Nat.pow_add, show 52 + (u - 52) = u by omega]) (by omega)
      rw [hs] at h
      have e : (u : Int) - 1074 + -52 = ((u - 52 : Nat) : Int) - 1074 := by omega
      rw [e]
      exact h

/-- The sign turned: the word's first bit. -/
theorem read_neg (x : Nat) : double.read (x ^^^ 9223372036854775808) = (double.read x).opposite := by
  obtain ⟨fb, fl, fi, fs, ff⟩ := double_facts
  have hm : (x ^^^ 9223372036854775808) % 9223372036854775808 = x % 9223372036854775808 := by
    have h := Nat.xor_mod_two_pow (a := x) (b := 9223372036854775808) (n := 63)
    have e : (2 : Nat) ^ 63 = 9223372036854775808 := by decide
    rw [e] at h
    rw [h, Nat.mod_self, Nat.xor_zero]
  have hd : ((x ^^^ 9223372036854775808) / 9223372036854775808 % 2 == 1) = !(x / 9223372036854775808 % 2 == 1) := by
    have h := Nat.xor_div_two_pow (a := x) (b := 9223372036854775808) (n := 63)
    have e : (2 : Nat) ^ 63 = 9223372036854775808 := by decide
    rw [e] at h
    rw [h]
    have h2 := Nat.xor_mod_two_pow (a := x / 9223372036854775808) (b := 1) (n := 1)
    rw [Nat.pow_one] at h2
    rw [show (9223372036854775808 : Nat) / 9223372036854775808 = 1 by decide, h2]
    have h3 : x / 9223372036854775808 % 2 < 2 := Nat.mod_lt _ (by decide)
    generalize x / 9223372036854775808 % 2 = z at *
    match z, h3 with
    | 0, _ => rfl
    | 1, _ => rfl
  simp only [Format.read, fb, fl, fi, fs, hm, hd]
  split
  · rfl
  · split
    · rfl
    · split <;> rfl
theorem neg_val {x : Nat} {a : Int} (hx : Val x a) : Val (Op.negFloat .f64 x) (-a) := by
  have e : Op.negFloat .f64 x = x ^^^ 9223372036854775808 := by
    unfold Op.negFloat
    exact congrArg (x ^^^ ·) (by decide)
  rw [e]
  unfold Val
  rw [read_neg]
  exact opp_dval hx
/-- The word without its first bit stands for the number without its sign. -/
theorem abs_val {x : Nat} {a : Int} (hx : Val x a) : Val (x % 9223372036854775808) (a.natAbs : Int) := by
  obtain ⟨fb, fl, fi, fs, ff⟩ := double_facts
  obtain ⟨s, m, u, hr, he⟩ := hx
  have hm := dval_mag he
  refine ⟨false, m, u, ?_, by simp only [Bool.false_eq_true, if_false]; rw [hm, Int.natCast_mul]⟩
  have hd : (x % 9223372036854775808 / 9223372036854775808 % 2 == 1) = false := by
    have : x % 9223372036854775808 / 9223372036854775808 = 0 := Nat.div_eq_of_lt (Nat.mod_lt _ (by decide))
    rw [this]; rfl
  simp only [Format.read, fb, fl, fi, fs, Nat.mod_mod, hd] at hr ⊢
  split at hr
  · rename_i h
    rw [if_pos h]
    injection hr with _ h2 h3
    rw [h2, h3]
  · rename_i h
    rw [if_neg h]
    split at hr
    · rename_i h'
      rw [if_pos h']
      injection hr with _ h2 h3
      rw [h2, h3]
    · split at hr <;> cases hr
end Go.Proofs.Ytfgifdgbhikegaa
