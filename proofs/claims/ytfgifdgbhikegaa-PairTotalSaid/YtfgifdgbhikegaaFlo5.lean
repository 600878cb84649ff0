/- Whole numbers as words of binary64, more: a word's exponent and the digits below the point. Plain theorems; no program is named. -/
import Derived.Test.YtfgifdgbhikegaaFlo4
namespace Go.Proofs.Ytfgifdgbhikegaa
open Ieee

theorem val_expo {x : Nat} {a : Int} (hx : Val x a) (h1 : 1 ≤ a.natAbs) (h2 : a.natAbs ≤ 4503599627370496) :
    ∃ L, L ≤ 52 ∧ x / 4503599627370496 % 2048 = L + 1023 ∧ 2 ^ (52 - L) ∣ x := by
  obtain ⟨fb, fl, fi, fs, ff⟩ := double_facts
  obtain ⟨s, m, u, hr, he⟩ := hx
  have hm := dval_mag he
  have hlt := read_mag hr
  have hN0 : a.natAbs ≠ 0 := by omega
  generalize a.natAbs = N at *
  have hlog := log2_scaled hm hN0
  have l2 : N.log2 ≤ 52 := by
    have := (Nat.log2_lt (k := 53) hN0).2 (by omega)
    omega
  simp only [Format.read, fb, fl, fi, fs] at hr
  have hE : x / 4503599627370496 % 2048 = x % 9223372036854775808 / 4503599627370496 := by omega
  have hx2 : x % 4503599627370496 = x % 9223372036854775808 % 4503599627370496 := by omega
  rw [hE]
  generalize x % 9223372036854775808 = r at *
  have hmlt : m ≠ 0 := by
    rintro rfl
    rw [Nat.zero_mul] at hm
    have : 0 < N * 2 ^ sc := Nat.mul_pos (by omega) (Nat.two_pow_pos _)
    omega
  have hml : m.log2 < 53 := by
    rw [Nat.log2_lt hmlt]
    have e : (2 : Nat) ^ 53 = 9007199254740992 := by decide
    rw [e]
    exact hlt
  split at hr
  · injection hr with _ h3 h4
    exfalso
    have hu : u = 0 := by omega
    rw [sc_eq] at hlog
    omega
  · split at hr
    · injection hr with _ h3 h4
      have hM : 4503599627370496 ≤ m := by rw [← h3]; exact Nat.le_add_right _ _
      have hml2 : m.log2 = 52 := by
        have := (Nat.le_log2 (k := 52) hmlt).2 hM
        omega
      rw [sc_eq] at hlog
      have hu : u = N.log2 + 1022 := by omega
      refine ⟨N.log2, l2, by omega, ?_⟩
      have e1 : m = N * 2 ^ (52 - N.log2) := by
        have e2 : m * 2 ^ u = N * 2 ^ (52 - N.log2) * 2 ^ u := by
          rw [hm, Nat.mul_assoc, ← Nat.pow_add, show 52 - N.log2 + u = sc by rw [sc_eq]; omega]
        exact Nat.eq_of_mul_eq_mul_right (Nat.two_pow_pos u) e2
      have d1 : 2 ^ (52 - N.log2) ∣ m := ⟨N, by rw [e1, Nat.mul_comm]⟩
      have d2 : 2 ^ (52 - N.log2) ∣ 4503599627370496 := by
        have e : (4503599627370496 : Nat) = 2 ^ 52 := by decide
        rw [e]
        exact Nat.pow_dvd_pow 2 (by omega)
      have d3 : 2 ^ (52 - N.log2) ∣ x % 4503599627370496 := by
        rw [hx2]
        rw [← h3] at d1
        exact (Nat.dvd_add_right d2).1 d1
      exact (Nat.dvd_mod_iff d2).1 d3
    · split at hr <;> cases hr

theorem clear_low (x k : Nat) (hk : k ≤ 64) (hx : x < 18446744073709551616) (hd : 2 ^ k ∣ x) : x &&& (18446744073709551615 - (2 ^ k - 1)) = x := by
  obtain ⟨c, rfl⟩ := hd
  have hp := Nat.two_pow_pos k
  have e64 : (18446744073709551616 : Nat) = 2 ^ (64 - k) * 2 ^ k := by
    rw [← Nat.pow_add, show 64 - k + k = 64 by omega]
  have hm : 18446744073709551615 - (2 ^ k - 1) = (2 ^ (64 - k) - 1) <<< k := by
    rw [Nat.shiftLeft_eq, Nat.sub_mul, Nat.one_mul, ← e64]
    omega
  have hc : c < 2 ^ (64 - k) := by
    rw [e64, Nat.mul_comm] at hx
    exact Nat.lt_of_mul_lt_mul_right hx
  rw [hm, Nat.mul_comm, ← Nat.shiftLeft_eq, ← Nat.shiftLeft_and_distrib, Nat.and_two_pow_sub_one_eq_mod, Nat.mod_eq_of_lt hc]
theorem clear_sign (x : Nat) : x &&& (18446744073709551615 - 9223372036854775808) = x % 9223372036854775808 := by
  have h := Nat.and_two_pow_sub_one_eq_mod x 63
  have e : (2 : Nat) ^ 63 = 9223372036854775808 := by decide
  rw [e] at h
  exact h
end Go.Proofs.Ytfgifdgbhikegaa
