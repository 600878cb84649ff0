/- Whole numbers as words of binary64: what is written stands for the number, sums and orders are those of the numbers. Plain theorems; no program is named. -/
import Derived.Laws.FloatArith
import Derived.Laws.ComplexArith
namespace Go.Proofs.Ytfgifdgbhikegaa
open Ieee

/-- The scale: each finite word is a multiple of 2 ^ (- sc). -/
def sc : Nat := 1074
theorem sc_eq : sc = 1074 := rfl
/-- The datum stands for the whole number n; its place is 2 ^ (u - 1074). -/
def DVal (d : Datum) (n : Int) : Prop := ∃ (s : Bool) (m u : Nat), d = .number s m ((u : Int) - 1074) ∧ (if s then -((m * 2 ^ u : Nat) : Int) else ((m * 2 ^ u : Nat) : Int)) = n * ((2 ^ sc : Nat) : Int)
/-- The word stands for the whole number n. -/
def Val (x : Nat) (n : Int) : Prop := DVal (double.read x) n

theorem signed_eq (s : Bool) (m u : Nat) : signed s m u = if s then -((m * 2 ^ u : Nat) : Int) else ((m * 2 ^ u : Nat) : Int) := by
  unfold signed
  rw [Nat.shiftLeft_eq]

theorem cut_exact (s : Bool) (c d : Nat) (hc : c ≠ 0) : Toward.even.cut s (c * 2 ^ d) d = c := by
  have hl : d ≤ (c * 2 ^ d).log2 := by
    rw [Nat.le_log2 (Nat.mul_ne_zero hc (by have := Nat.two_pow_pos d; omega))]
    exact Nat.le_mul_of_pos_left _ (by omega)
  unfold Toward.cut
  rw [Nat.min_eq_left (by omega), Nat.shiftLeft_eq, Nat.one_mul]
  have hp := Nat.two_pow_pos d
  have h1 : c * 2 ^ d / 2 ^ d = c := Nat.mul_div_cancel _ hp
  have h2 : c * 2 ^ d % 2 ^ d = 0 := Nat.mul_mod_left _ _
  have h3 : ¬ 2 ^ d = 0 := by omega
  simp [h1, h2, h3]

theorem double_facts : double.binade = 4503599627370496 ∧ double.leastPlace = -1074 ∧ double.infRung = 9218868437227405312 ∧ double.signWeight = 9223372036854775808 ∧ double.fractionBits = 52 := by
  refine ⟨by decide, by decide, by decide, by decide, rfl⟩

theorem log2_scaled {m u N : Nat} (h : m * 2 ^ u = N * 2 ^ sc) (hN : N ≠ 0) : m.log2 + u = N.log2 + sc := by
  have hm : m ≠ 0 := by
    rintro rfl
    rw [Nat.zero_mul] at h
    have : 0 < N * 2 ^ sc := Nat.mul_pos (by omega) (Nat.two_pow_pos _)
    omega
  have e : ∀ a k : Nat, a ≠ 0 → (a * 2 ^ k).log2 = a.log2 + k := by
    intro a k ha
    rw [Nat.log2_eq_iff (Nat.mul_ne_zero ha (by have := Nat.two_pow_pos k; omega))]
    have h1 := Nat.log2_self_le ha
    have h2 := Nat.lt_log2_self (n := a)
    constructor
    · rw [Nat.pow_add]
      exact Nat.mul_le_mul_right _ h1
    · rw [show a.log2 + k + 1 = (a.log2 + 1) + k by omega, Nat.pow_add]
      exact Nat.mul_lt_mul_of_pos_right h2 (Nat.two_pow_pos k)
  rw [← e m u hm, ← e N sc hN, h]

theorem pow_split {a b c d : Nat} (h : a + b = c + d) : 2 ^ a * 2 ^ b = 2 ^ c * 2 ^ d := by rw [← Nat.pow_add, ← Nat.pow_add, h]
/-- What is kept of a whole number. -/
theorem kept_eq (s : Bool) {m u N : Nat} (h : m * 2 ^ u = N * 2 ^ sc) (hN : N ≠ 0) (hN2 : N ≤ 9007199254740992) :
    ∃ K, Toward.even.cut s (m <<< ((u : Int) - 1074 - ((N.log2 : Int) - 52)).toNat) ((N.log2 : Int) - 52 - ((u : Int) - 1074)).toNat = K ∧ K * 2 ^ (N.log2 + 1022) = N * 2 ^ sc := by
  have hL : N.log2 ≤ 53 := by
    have := (Nat.log2_lt (k := 54) hN).2 (by omega)
    omega
  by_cases hu : N.log2 + 1022 ≤ u
  · have e1 : ((u : Int) - 1074 - ((N.log2 : Int) - 52)).toNat = u - (N.log2 + 1022) := by omega
    have e2 : ((N.log2 : Int) - 52 - ((u : Int) - 1074)).toNat = 0 := by omega
    rw [e1, e2, Nat.shiftLeft_eq]
    have hm : m * 2 ^ (u - (N.log2 + 1022)) ≠ 0 := by
      intro h0
      have h2 : m * 2 ^ u = m * 2 ^ (u - (N.log2 + 1022)) * 2 ^ (N.log2 + 1022) := by rw [Nat.mul_assoc, ← Nat.pow_add, Nat.sub_add_cancel hu]
      rw [h0, Nat.zero_mul, h] at h2
      have : 0 < N * 2 ^ sc := Nat.mul_pos (by omega) (Nat.two_pow_pos _)
      omega
    have := cut_exact s (m * 2 ^ (u - (N.log2 + 1022))) 0 hm
    rw [Nat.pow_zero, Nat.mul_one] at this
    rw [this]
    exact ⟨_, rfl, by rw [Nat.mul_assoc, ← Nat.pow_add, Nat.sub_add_cancel hu, h]⟩
  · have e1 : ((u : Int) - 1074 - ((N.log2 : Int) - 52)).toNat = 0 := by omega
    have e2 : ((N.log2 : Int) - 52 - ((u : Int) - 1074)).toNat = N.log2 + 1022 - u := by omega
    rw [e1, e2, Nat.shiftLeft_zero]
    have hdvd : ∃ c, N * 2 ^ sc = c * 2 ^ (N.log2 + 1022) := by
      by_cases h53 : N.log2 = 53
      · have hN3 : 2 ^ N.log2 = N := by
          have h1 := Nat.log2_self_le hN
          have h2 : 2 ^ N.log2 = 9007199254740992 := by rw [h53]
          omega
        refine ⟨2 ^ 52, ?_⟩
        have h3 : 2 ^ N.log2 * 2 ^ sc = 2 ^ 52 * 2 ^ (N.log2 + 1022) := pow_split (by rw [sc_eq]; omega)
        rw [hN3] at h3
        exact h3
      · exact ⟨N * 2 ^ (52 - N.log2), by rw [Nat.mul_assoc, ← Nat.pow_add, show 52 - N.log2 + (N.log2 + 1022) = sc by rw [sc_eq]; omega]⟩
    obtain ⟨c, hc⟩ := hdvd
    have hmc : m = c * 2 ^ (N.log2 + 1022 - u) := by
      have h2 : m * 2 ^ u = c * 2 ^ (N.log2 + 1022 - u) * 2 ^ u := by rw [Nat.mul_assoc, ← Nat.pow_add, Nat.sub_add_cancel (by omega), ← hc, h]
      exact Nat.eq_of_mul_eq_mul_right (Nat.two_pow_pos u) h2
    have hc0 : c ≠ 0 := by
      rintro rfl
      rw [Nat.zero_mul] at hc
      have : 0 < N * 2 ^ sc := Nat.mul_pos (by omega) (Nat.two_pow_pos _)
      omega
    rw [hmc, cut_exact s c _ hc0]
    exact ⟨c, rfl, hc.symm⟩

/-- A whole number up to 2 ^ 53, however it is told, is written as a word that stands for it. -/
theorem write_val (s : Bool) (m u N : Nat) (h : m * 2 ^ u = N * 2 ^ sc) (hN : N ≤ 9007199254740992) : Val (double.write (.number s m ((u : Int) - 1074))) (if s then -(N : Int) else N) := by
  obtain ⟨fb, fl, fi, fs, ff⟩ := double_facts
  unfold Val
  by_cases hN0 : N = 0
  · subst hN0
    have hm : m = 0 := by
      rw [Nat.zero_mul] at h
      rcases Nat.mul_eq_zero.1 h with h0 | h0
      · exact h0
      · have := Nat.two_pow_pos u; omega
    subst hm
    simp only [Format.write, Format.nearest, if_true, Format.word, Format.read, fb, fs, fl]
    cases s
    · exact ⟨false, 0, 0, by decide, by simp⟩
    · exact ⟨true, 0, 0, by decide, by simp⟩
  · have hm : m ≠ 0 := by
      rintro rfl
      rw [Nat.zero_mul] at h
      have : 0 < N * 2 ^ sc := Nat.mul_pos (by omega) (Nat.two_pow_pos _)
      omega
    have hlog := log2_scaled h hN0
    rw [sc_eq] at hlog
    have hL : N.log2 ≤ 53 := by
      have := (Nat.log2_lt (k := 54) hN0).2 (by omega)
      omega
    obtain ⟨K, hK, hK2⟩ := kept_eq s h hN0 hN
    have hlast : max ((u : Int) - 1074 + (m.log2 : Int) - ((52 : Nat) : Int)) (-1074) = (N.log2 : Int) - 52 := by omega
    -- K has 53 digits
    have k1 : 4503599627370496 ≤ K := by
      have h1 := Nat.log2_self_le hN0
      have h2 : 2 ^ 52 * 2 ^ (N.log2 + 1022) ≤ K * 2 ^ (N.log2 + 1022) := by
        rw [hK2, ← Nat.pow_add, show 52 + (N.log2 + 1022) = N.log2 + sc by rw [sc_eq]; omega, Nat.pow_add]
        exact Nat.mul_le_mul_right _ h1
      have h3 := Nat.le_of_mul_le_mul_right h2 (Nat.two_pow_pos _)
      have e : (2 : Nat) ^ 52 = 4503599627370496 := by decide
      omega
    have k2 : K < 9007199254740992 := by
      have h1 := Nat.lt_log2_self (n := N)
      have h2 : K * 2 ^ (N.log2 + 1022) < 2 ^ 53 * 2 ^ (N.log2 + 1022) := by
        rw [hK2, ← Nat.pow_add, show 53 + (N.log2 + 1022) = (N.log2 + 1) + sc by rw [sc_eq]; omega, Nat.pow_add (m := N.log2 + 1)]
        exact Nat.mul_lt_mul_of_pos_right h1 (Nat.two_pow_pos _)
      have h3 := Nat.lt_of_mul_lt_mul_right h2
      have e : (2 : Nat) ^ 53 = 9007199254740992 := by decide
      omega
    have hw : double.write (.number s m ((u : Int) - 1074)) = double.word s ((N.log2 + 1022) * 4503599627370496 + K) := by
      simp only [Format.write, Format.nearest, hm, if_false, ff, fl, fb, fi]
      rw [hlast, hK, show ((N.log2 : Int) - 52 - -1074).toNat = N.log2 + 1022 by omega, Nat.min_eq_left (by omega)]
    rw [hw]
    generalize hr : (N.log2 + 1022) * 4503599627370496 + K = r
    have hneg : (double.word s r / 9223372036854775808 % 2 == 1) = s := by
      unfold Format.word
      rw [fs]
      cases s
      · simp; omega
      · simp; omega
    have hmod : double.word s r % 9223372036854775808 = r := by
      unfold Format.word
      rw [fs]
      cases s
      · simp; omega
      · simp; omega
    have hread : double.read (double.word s r) = .number s K (((N.log2 + 1022 : Nat) : Int) - 1074) := by
      simp only [Format.read, fs, fb, fi, fl, hneg, hmod]
      have q0 : K / 4503599627370496 = 1 := by omega
      have q1 : r / 4503599627370496 = N.log2 + 1023 := by
        rw [← hr, Nat.add_comm, Nat.add_mul_div_right _ _ (by decide), q0]
        omega
      have q2 : r % 4503599627370496 = K - 4503599627370496 := by
        rw [← hr, Nat.add_comm, Nat.add_mul_mod_self_right]
        omega
      have e1 : 4503599627370496 + r % 4503599627370496 = K := (congrArg (fun z => 4503599627370496 + z) q2).trans (Nat.add_sub_cancel' k1)
      have e2 : ((N.log2 + 1023 - 1 : Nat) : Int) = (N.log2 : Int) + 1022 := by omega
      have e3 : ((N.log2 + 1022 : Nat) : Int) = (N.log2 : Int) + 1022 := by omega
      have e4 : (-1074 : Int) + ((N.log2 : Int) + 1022) = (N.log2 : Int) + 1022 - 1074 := by omega
      rw [if_neg (by omega), if_pos (by omega), e1, q1, e2, e3, e4]
    rw [hread]
    refine ⟨s, K, N.log2 + 1022, rfl, ?_⟩
    rw [hK2]
    cases s
    · simp
    · simp only [if_true, Int.natCast_mul, Int.neg_mul]
end Go.Proofs.Ytfgifdgbhikegaa
