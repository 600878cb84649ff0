/- Flo, Flo2, Flo3, Flo4, Flo5 in one text. -/
import Derived.Laws.FloatArith
import Derived.Laws.ComplexArith
namespace Go.Proofs.Ytopgcimjdlhclaa
section
open Ieee

/-- The scale: each finite word is a multiple of 2 ^ (- sc). -/
def sc : Nat := 1074
theorem sc_eq : sc = 1074 := rfl
/-- The datum stands for the whole number n; its place is 2 ^ (u - 1074). -/
def DVal (d : Datum) (n : Int) : Prop := ∃ (s : Bool) (m u : Nat), d = .number s m ((u : Int) - 1074) ∧ (if s then -((m * 2 ^ u : Nat) : Int) else ((m * 2 ^ u : Nat) : Int)) = n * ((2 ^ sc : Nat) : Int)
/-- The word stands for the whole number n. -/
def Val (x : Nat) (n : Int) : Prop := DVal (double.read x) n

theorem signed_eq (s : Bool) (m u : Nat) : signed s m u = if s then -((m * 2 ^ u : Nat) : Int) else ((m * 2 ^ u : Nat) : Int) := by
  unfold signed
  rw [Nat.shiftLeft_eq]

theorem cut_exact (s : Bool) (c d : Nat) (hc : c ≠ 0) : Toward.even.cut s (c * 2 ^ d) d = c := by
  have hl : d ≤ (c * 2 ^ d).log2 := by
    rw [Nat.le_log2 (Nat.mul_ne_zero hc (by have := Nat.two_pow_pos d; omega))]
    exact Nat.le_mul_of_pos_left _ (by omega)
  unfold Toward.cut
  rw [Nat.min_eq_left (by omega), Nat.shiftLeft_eq, Nat.one_mul]
  have hp := Nat.two_pow_pos d
  have h1 : c * 2 ^ d / 2 ^ d = c := Nat.mul_div_cancel _ hp
  have h2 : c * 2 ^ d % 2 ^ d = 0 := Nat.mul_mod_left _ _
  have h3 : ¬ 2 ^ d = 0 := by omega
  simp [h1, h2, h3]

theorem double_facts : double.binade = 4503599627370496 ∧ double.leastPlace = -1074 ∧ double.infRung = 9218868437227405312 ∧ double.signWeight = 9223372036854775808 ∧ double.fractionBits = 52 := by
  refine ⟨by decide, by decide, by decide, by decide, rfl⟩

theorem log2_scaled {m u N : Nat} (h : m * 2 ^ u = N * 2 ^ sc) (hN : N ≠ 0) : m.log2 + u = N.log2 + sc := by
  have hm : m ≠ 0 := by
    rintro rfl
    rw [Nat.zero_mul] at h
    have : 0 < N * 2 ^ sc := Nat.mul_pos (by omega) (Nat.two_pow_pos _)
    omega
  have e : ∀ a k : Nat, a ≠ 0 → (a * 2 ^ k).log2 = a.log2 + k := by
    intro a k ha
    rw [Nat.log2_eq_iff (Nat.mul_ne_zero ha (by have := Nat.two_pow_pos k; omega))]
    have h1 := Nat.log2_self_le ha
    have h2 := Nat.lt_log2_self (n := a)
    constructor
    · rw [Nat.pow_add]
      exact Nat.mul_le_mul_right _ h1
    · rw [show a.log2 + k + 1 = (a.log2 + 1) + k by omega, Nat.pow_add]
      exact Nat.mul_lt_mul_of_pos_right h2 (Nat.two_pow_pos k)
  rw [← e m u hm, ← e N sc hN, h]

theorem pow_split {a b c d : Nat} (h : a + b = c + d) : 2 ^ a * 2 ^ b = 2 ^ c * 2 ^ d := by rw [← Nat.pow_add, ← Nat.pow_add, h]
/-- What is kept of a whole number. -/
theorem kept_eq (s : Bool) {m u N : Nat} (h : m * 2 ^ u = N * 2 ^ sc) (hN : N ≠ 0) (hN2 : N ≤ 9007199254740992) :
    ∃ K, Toward.even.cut s (m <<< ((u : Int) - 1074 - ((N.log2 : Int) - 52)).toNat) ((N.log2 : Int) - 52 - ((u : Int) - 1074)).toNat = K ∧ K * 2 ^ (N.log2 + 1022) = N * 2 ^ sc := by
  have hL : N.log2 ≤ 53 := by
    have := (Nat.log2_lt (k := 54) hN).2 (by omega)
    omega
  by_cases hu : N.log2 + 1022 ≤ u
  · have e1 : ((u : Int) - 1074 - ((N.log2 : Int) - 52)).toNat = u - (N.log2 + 1022) := by omega
    have e2 : ((N.log2 : Int) - 52 - ((u : Int) - 1074)).toNat = 0 := by omega
    rw [e1, e2, Nat.shiftLeft_eq]
    have hm : m * 2 ^ (u - (N.log2 + 1022)) ≠ 0 := by
      intro h0
      have h2 : m * 2 ^ u = m * 2 ^ (u - (N.log2 + 1022)) * 2 ^ (N.log2 + 1022) := by rw [Nat.mul_assoc, ← Nat.pow_add, Nat.sub_add_cancel hu]
      rw [h0, Nat.zero_mul, h] at h2
      have : 0 < N * 2 ^ sc := Nat.mul_pos (by omega) (Nat.two_pow_pos _)
      omega
    have := cut_exact s (m * 2 ^ (u - (N.log2 + 1022))) 0 hm
    rw [Nat.pow_zero, Nat.mul_one] at this
    rw [this]
    exact ⟨_, rfl, by rw [Nat.mul_assoc, ← Nat.pow_add, Nat.sub_add_cancel hu, h]⟩
  · have e1 : ((u : Int) - 1074 - ((N.log2 : Int) - 52)).toNat = 0 := by omega
    have e2 : ((N.log2 : Int) - 52 - ((u : Int) - 1074)).toNat = N.log2 + 1022 - u := by omega
    rw [e1, e2, Nat.shiftLeft_zero]
    have hdvd : ∃ c, N * 2 ^ sc = c * 2 ^ (N.log2 + 1022) := by
      by_cases h53 : N.log2 = 53
      · have hN3 : 2 ^ N.log2 = N := by
          have h1 := Nat.log2_self_le hN
          have h2 : 2 ^ N.log2 = 9007199254740992 := by rw [h53]
          omega
        refine ⟨2 ^ 52, ?_⟩
        have h3 : 2 ^ N.log2 * 2 ^ sc = 2 ^ 52 * 2 ^ (N.log2 + 1022) := pow_split (by rw [sc_eq]; omega)
        rw [hN3] at h3
        exact h3
      · exact ⟨N * 2 ^ (52 - N.log2), by rw [Nat.mul_assoc, ← Nat.pow_add, show 52 - N.log2 + (N.log2 + 1022) = sc by rw [sc_eq]; omega]⟩
    obtain ⟨c, hc⟩ := hdvd
    have hmc : m = c * 2 ^ (N.log2 + 1022 - u) := by
      have h2 : m * 2 ^ u = c * 2 ^ (N.log2 + 1022 - u) * 2 ^ u := by rw [Nat.mul_assoc, ← Nat.pow_add, Nat.sub_add_cancel (by omega), ← hc, h]
      exact Nat.eq_of_mul_eq_mul_right (Nat.two_pow_pos u) h2
    have hc0 : c ≠ 0 := by
      rintro rfl
      rw [Nat.zero_mul] at hc
      have : 0 < N * 2 ^ sc := Nat.mul_pos (by omega) (Nat.two_pow_pos _)
      omega
    rw [hmc, cut_exact s c _ hc0]
    exact ⟨c, rfl, hc.symm⟩

/-- A whole number up to 2 ^ 53, however it is told, is written as a word that stands for it. -/
theorem write_val (s : Bool) (m u N : Nat) (h : m * 2 ^ u = N * 2 ^ sc) (hN : N ≤ 9007199254740992) : Val (double.write (.number s m ((u : Int) - 1074))) (if s then -(N : Int) else N) := by
  obtain ⟨fb, fl, fi, fs, ff⟩ := double_facts
  unfold Val
  by_cases hN0 : N = 0
  · subst hN0
    have hm : m = 0 := by
      rw [Nat.zero_mul] at h
      rcases Nat.mul_eq_zero.1 h with h0 | h0
      · exact h0
      · have := Nat.two_pow_pos u; omega
    subst hm
    simp only [Format.write, Format.nearest, if_true, Format.word, Format.read, fb, fs, fl]
    cases s
    · exact ⟨false, 0, 0, by decide, by simp⟩
    · exact ⟨true, 0, 0, by decide, by simp⟩
  · have hm : m ≠ 0 := by
      rintro rfl
      rw [Nat.zero_mul] at h
      have : 0 < N * 2 ^ sc := Nat.mul_pos (by omega) (Nat.two_pow_pos _)
      omega
    have hlog := log2_scaled h hN0
    rw [sc_eq] at hlog
    have hL : N.log2 ≤ 53 := by
      have := (Nat.log2_lt (k := 54) hN0).2 (by omega)
      omega
    obtain ⟨K, hK, hK2⟩ := kept_eq s h hN0 hN
    have hlast : max ((u : Int) - 1074 + (m.log2 : Int) - ((52 : Nat) : Int)) (-1074) = (N.log2 : Int) - 52 := by omega
    -- K has 53 digits
    have k1 : 4503599627370496 ≤ K := by
      have h1 := Nat.log2_self_le hN0
      have h2 : 2 ^ 52 * 2 ^ (N.log2 + 1022) ≤ K * 2 ^ (N.log2 + 1022) := by
        rw [hK2, ← Nat.pow_add, show 52 + (N.log2 + 1022) = N.log2 + sc by rw [sc_eq]; omega, Nat.pow_add]
        exact Nat.mul_le_mul_right _ h1
      have h3 := Nat.le_of_mul_le_mul_right h2 (Nat.two_pow_pos _)
      have e : (2 : Nat) ^ 52 = 4503599627370496 := by decide
      omega
    have k2 : K < 9007199254740992 := by
      have h1 := Nat.lt_log2_self (n := N)
      have h2 : K * 2 ^ (N.log2 + 1022) < 2 ^ 53 * 2 ^ (N.log2 + 1022) := by
        rw [hK2, ← Nat.pow_add, show 53 + (N.log2 + 1022) = (N.log2 + 1) + sc by rw [sc_eq]; omega, Nat.pow_add (m := N.log2 + 1)]
        exact Nat.mul_lt_mul_of_pos_right h1 (Nat.two_pow_pos _)
      have h3 := Nat.lt_of_mul_lt_mul_right h2
      have e : (2 : Nat) ^ 53 = 9007199254740992 := by decide
      omega
    have hw : double.write (.number s m ((u : Int) - 1074)) = double.word s ((N.log2 + 1022) * 4503599627370496 + K) := by
      simp only [Format.write, Format.nearest, hm, if_false, ff, fl, fb, fi]
      rw [hlast, hK, show ((N.log2 : Int) - 52 - -1074).toNat = N.log2 + 1022 by omega, Nat.min_eq_left (by omega)]
    rw [hw]
    generalize hr : (N.log2 + 1022) * 4503599627370496 + K = r
    have hneg : (double.word s r / 9223372036854775808 % 2 == 1) = s := by
      unfold Format.word
      rw [fs]
      cases s
      · simp; omega
      · simp; omega
    have hmod : double.word s r % 9223372036854775808 = r := by
      unfold Format.word
      rw [fs]
      cases s
      · simp; omega
      · simp; omega
    have hread : double.read (double.word s r) = .number s K (((N.log2 + 1022 : Nat) : Int) - 1074) := by
      simp only [Format.read, fs, fb, fi, fl, hneg, hmod]
      have q0 : K / 4503599627370496 = 1 := by omega
      have q1 : r / 4503599627370496 = N.log2 + 1023 := by
        rw [← hr, Nat.add_comm, Nat.add_mul_div_right _ _ (by decide), q0]
        omega
      have q2 : r % 4503599627370496 = K - 4503599627370496 := by
        rw [← hr, Nat.add_comm, Nat.add_mul_mod_self_right]
        omega
      have e1 : 4503599627370496 + r % 4503599627370496 = K := (congrArg (fun z => 4503599627370496 + z) q2).trans (Nat.add_sub_cancel' k1)
      have e2 : ((N.log2 + 1023 - 1 : Nat) : Int) = (N.log2 : Int) + 1022 := by omega
      have e3 : ((N.log2 + 1022 : Nat) : Int) = (N.log2 : Int) + 1022 := by omega
      have e4 : (-1074 : Int) + ((N.log2 : Int) + 1022) = (N.log2 : Int) + 1022 - 1074 := by omega
      rw [if_neg (by omega), if_pos (by omega), e1, q1, e2, e3, e4]
    rw [hread]
    refine ⟨s, K, N.log2 + 1022, rfl, ?_⟩
    rw [hK2]
    cases s
    · simp
    · simp only [if_true, Int.natCast_mul, Int.neg_mul]
end

section
open Ieee

theorem signed_add (s : Bool) (m p q : Nat) : signed s m (p + q) = signed s m p * ((2 ^ q : Nat) : Int) := by
  rw [signed_eq, signed_eq, Nat.pow_add, ← Nat.mul_assoc]
  cases s
  · simp only [Bool.false_eq_true, if_false, Int.natCast_mul]
  · simp only [if_true, Int.natCast_mul, Int.neg_mul]
theorem two_pos (q : Nat) : (0 : Int) < ((2 ^ q : Nat) : Int) := by have := Nat.two_pow_pos q; omega
theorem compare_mul (a b c : Int) (hc : 0 < c) : compare (a * c) (b * c) = compare a b := by
  rcases Int.lt_trichotomy a b with h | h | h
  · have h2 : a * c < b * c := Int.mul_lt_mul_of_pos_right h hc
    simp only [compare, compareOfLessAndEq, h, h2, if_true]
  · subst h
    simp [compare, compareOfLessAndEq]
  · have h2 : b * c < a * c := Int.mul_lt_mul_of_pos_right h hc
    have n1 : ¬ a < b := by omega
    have n2 : ¬ a * c < b * c := by omega
    have n3 : ¬ a = b := by omega
    have n4 : ¬ a * c = b * c := by omega
    simp only [compare, compareOfLessAndEq, n1, n2, n3, n4, if_false]
theorem of_int (n : Int) (h1 : -9007199254740992 ≤ n) (h2 : n ≤ 9007199254740992) : Val (floatOfInt .f64 n) n := by
  have h := write_val (decide (n < 0)) n.natAbs sc n.natAbs rfl (by omega)
  have e : (if decide (n < 0) then -((n.natAbs : Nat) : Int) else ((n.natAbs : Nat) : Int)) = n := by
    by_cases hn : n < 0
    · simp only [hn, decide_true, if_true]; omega
    · simp only [hn, decide_false, Bool.false_eq_true, if_false]; omega
  rw [e] at h
  exact h

theorem order_val {x y : Nat} {a b : Int} (hx : Val x a) (hy : Val y b) : double.order x y = some (compare a b) := by
  obtain ⟨s, m, u, hr, he⟩ := hx
  obtain ⟨t, n, v, hr2, he2⟩ := hy
  unfold Format.order
  rw [hr, hr2]
  simp only [Datum.order]
  rw [← signed_eq] at he he2
  have key : ∀ B : Nat, B = min u v → compare (signed s m (u - B)) (signed t n (v - B)) = compare a b := by
    intro B hB
    have e1 := signed_add s m (u - B) B
    have e2 := signed_add t n (v - B) B
    rw [Nat.sub_add_cancel (by omega), he] at e1
    rw [Nat.sub_add_cancel (by omega), he2] at e2
    rw [← compare_mul _ _ _ (two_pos B), ← e1, ← e2, compare_mul _ _ _ (two_pos sc)]
  have q1 : ((u : Int) - 1074 - min ((u : Int) - 1074) ((v : Int) - 1074)).toNat = u - min u v := by omega
  have q2 : ((v : Int) - 1074 - min ((u : Int) - 1074) ((v : Int) - 1074)).toNat = v - min u v := by omega
  rw [q1, q2, key _ rfl]

/-- A datum that stands for a small whole number is written as a word that does. -/
theorem write_dval {d : Datum} {n : Int} (h : DVal d n) (h1 : -9007199254740992 ≤ n) (h2 : n ≤ 9007199254740992) : Val (double.write d) n := by
  obtain ⟨s, m, u, rfl, he⟩ := h
  have hp := two_pos sc
  by_cases hz : n = 0
  · subst hz
    have hm : m * 2 ^ u = 0 * 2 ^ sc := by
      rw [Int.zero_mul] at he
      cases s
      · simp only [Bool.false_eq_true, if_false] at he; omega
      · simp only [if_true] at he; omega
    have := write_val s m u 0 hm (by omega)
    cases s <;> simpa using this
  · have hs : s = decide (n < 0) := by
      cases s
      · simp only [Bool.false_eq_true, if_false] at he
        have : 0 ≤ n := by
          by_cases h : n < 0
          · have := Int.mul_neg_of_neg_of_pos h hp; omega
          · omega
        simp; omega
      · simp only [if_true] at he
        have : n ≤ 0 := by
          by_cases h : 0 < n
          · have := Int.mul_pos h hp; omega
          · omega
        simp; omega
    have hm : m * 2 ^ u = n.natAbs * 2 ^ sc := by
      have e := congrArg Int.natAbs he
      rw [Int.natAbs_mul, Int.natAbs_natCast] at e
      rw [← e]
      cases s
      · simp only [Bool.false_eq_true, if_false, Int.natAbs_natCast]
      · simp only [if_true, Int.natAbs_neg, Int.natAbs_natCast]
    have h := write_val s m u n.natAbs hm (by omega)
    have e : (if s then -((n.natAbs : Nat) : Int) else ((n.natAbs : Nat) : Int)) = n := by
      subst hs
      by_cases hn : n < 0
      · simp only [hn, decide_true, if_true]; omega
      · simp only [hn, decide_false, Bool.false_eq_true, if_false]; omega
    rw [e] at h
    exact h

theorem sum_dval {d e : Datum} {a b : Int} (hd : DVal d a) (he : DVal e b) : ∃ r, d.sum e = some r ∧ DVal r (a + b) := by
  obtain ⟨s, m, u, rfl, h1⟩ := hd
  obtain ⟨t, n, v, rfl, h2⟩ := he
  rw [← signed_eq] at h1 h2
  have q1 : ((u : Int) - 1074 - (((min u v : Nat) : Int) - 1074)).toNat = u - min u v := by omega
  have q2 : ((v : Int) - 1074 - (((min u v : Nat) : Int) - 1074)).toNat = v - min u v := by omega
  have q3 : min ((u : Int) - 1074) ((v : Int) - 1074) = ((min u v : Nat) : Int) - 1074 := by omega
  simp only [Datum.sum, q3, q1, q2]
  refine ⟨_, rfl, ?_⟩
  have e1 := signed_add s m (u - min u v) (min u v)
  have e2 := signed_add t n (v - min u v) (min u v)
  rw [Nat.sub_add_cancel (by omega), h1] at e1
  rw [Nat.sub_add_cancel (by omega), h2] at e2
  generalize signed s m (u - min u v) = p at *
  generalize signed t n (v - min u v) = q at *
  refine ⟨_, (p + q).natAbs, min u v, rfl, ?_⟩
  rw [Int.natCast_mul, Int.add_mul, e1, e2, ← Int.add_mul]
  generalize ((2 ^ min u v : Nat) : Int) = z
  by_cases hz : p + q = 0
  · rw [if_pos hz, hz]
    simp
  · rw [if_neg hz]
    by_cases hn : p + q < 0
    · simp only [hn, decide_true, if_true]
      rw [show ((p + q).natAbs : Int) = -(p + q) by omega, Int.neg_mul, Int.neg_neg]
    · simp only [hn, decide_false, Bool.false_eq_true, if_false]
      rw [show ((p + q).natAbs : Int) = p + q by omega]
theorem opp_dval {d : Datum} {a : Int} (h : DVal d a) : DVal d.opposite (-a) := by
  obtain ⟨s, m, u, rfl, he⟩ := h
  refine ⟨!s, m, u, rfl, ?_⟩
  rw [Int.neg_mul, ← he]
  cases s <;> simp

theorem add_val {x y : Nat} {a b : Int} (hx : Val x a) (hy : Val y b) (h1 : -9007199254740992 ≤ a + b) (h2 : a + b ≤ 9007199254740992) : ∃ r, floatBits .add .f64 x y = some r ∧ Val r (a + b) := by
  obtain ⟨d, hd, hv⟩ := sum_dval hx hy
  refine ⟨double.write d, ?_, write_dval hv h1 h2⟩
  show double.add x y = some (double.write d)
  simp only [Format.add, hd, Option.map_some]
theorem sub_val {x y : Nat} {a b : Int} (hx : Val x a) (hy : Val y b) (h1 : -9007199254740992 ≤ a - b) (h2 : a - b ≤ 9007199254740992) : ∃ r, floatBits .sub .f64 x y = some r ∧ Val r (a - b) := by
  obtain ⟨d, hd, hv⟩ := sum_dval hx (opp_dval hy)
  have e : a + -b = a - b := by omega
  rw [e] at hv
  refine ⟨double.write d, ?_, write_dval hv h1 h2⟩
  show double.sub x y = some (double.write d)
  simp only [Format.sub, hd, Option.map_some]
end

section
open Ieee

theorem cut_zero (s : Bool) (c d : Nat) : Toward.zero.cut s (c * 2 ^ d) d = c := by
  by_cases hc : c = 0
  · subst hc
    unfold Toward.cut
    simp
  · have hl : d ≤ (c * 2 ^ d).log2 := by
      rw [Nat.le_log2 (Nat.mul_ne_zero hc (by have := Nat.two_pow_pos d; omega))]
      exact Nat.le_mul_of_pos_left _ (by omega)
    unfold Toward.cut
    rw [Nat.min_eq_left (by omega), Nat.shiftLeft_eq, Nat.one_mul]
    have hp := Nat.two_pow_pos d
    have h1 : c * 2 ^ d / 2 ^ d = c := Nat.mul_div_cancel _ hp
    simp [h1]

/-- The magnitude of a datum that stands for a whole number. -/
theorem dval_mag {s : Bool} {m u : Nat} {n : Int} (h : (if s then -((m * 2 ^ u : Nat) : Int) else ((m * 2 ^ u : Nat) : Int)) = n * ((2 ^ sc : Nat) : Int)) : m * 2 ^ u = n.natAbs * 2 ^ sc := by
  have e := congrArg Int.natAbs h
  rw [Int.natAbs_mul, Int.natAbs_natCast] at e
  rw [← e]
  cases s
  · simp only [Bool.false_eq_true, if_false, Int.natAbs_natCast]
  · simp only [if_true, Int.natAbs_neg, Int.natAbs_natCast]
theorem dval_sign {s : Bool} {m u : Nat} {n : Int} (h : (if s then -((m * 2 ^ u : Nat) : Int) else ((m * 2 ^ u : Nat) : Int)) = n * ((2 ^ sc : Nat) : Int)) : (if s then -((n.natAbs : Nat) : Int) else ((n.natAbs : Nat) : Int)) = n := by
  have hp := two_pos sc
  cases s
  · simp only [Bool.false_eq_true, if_false] at h ⊢
    have : 0 ≤ n := by
      by_cases h0 : n < 0
      · have := Int.mul_neg_of_neg_of_pos h0 hp; omega
      · omega
    omega
  · simp only [if_true] at h ⊢
    have : n ≤ 0 := by
      by_cases h0 : 0 < n
      · have := Int.mul_pos h0 hp; omega
      · omega
    omega

theorem toInt_dval {d : Datum} {n : Int} (h : DVal d n) : d.toInt .zero = some n := by
  obtain ⟨s, m, u, rfl, he⟩ := h
  have hm := dval_mag he
  have hs := dval_sign he
  have key : Toward.zero.cut s (m <<< ((u : Int) - 1074).toNat) (-((u : Int) - 1074)).toNat = n.natAbs := by
    by_cases hu : 1074 ≤ u
    · have e1 : ((u : Int) - 1074).toNat = u - 1074 := by omega
      have e2 : (-((u : Int) - 1074)).toNat = 0 := by omega
      rw [e1, e2, Nat.shiftLeft_eq]
      have h2 : m * 2 ^ (u - 1074) * 2 ^ sc = n.natAbs * 2 ^ sc := by
        rw [Nat.mul_assoc, ← Nat.pow_add, show u - 1074 + sc = u by rw [sc_eq]; omega, hm]
      have h3 := Nat.eq_of_mul_eq_mul_right (Nat.two_pow_pos sc) h2
      rw [h3]
      have := cut_zero s n.natAbs 0
      rwa [Nat.pow_zero, Nat.mul_one] at this
    · have e1 : ((u : Int) - 1074).toNat = 0 := by omega
      have e2 : (-((u : Int) - 1074)).toNat = 1074 - u := by omega
      rw [e1, e2, Nat.shiftLeft_zero]
      have h2 : m * 2 ^ u = n.natAbs * 2 ^ (1074 - u) * 2 ^ u := by
        rw [Nat.mul_assoc, ← Nat.pow_add, show 1074 - u + u = sc by rw [sc_eq]; omega, hm]
      have h3 := Nat.eq_of_mul_eq_mul_right (Nat.two_pow_pos u) h2
      rw [h3]
      exact cut_zero s _ _
  simp only [Datum.toInt, Datum.integral, key, signed, Nat.shiftLeft_zero]
  exact congrArg some hs
theorem toInt_val {x : Nat} {n : Int} (h : Val x n) (h1 : -9223372036854775808 ≤ n) (h2 : n ≤ 9223372036854775807) : floatToIntVal .f64 x .i64 = some n := by
  unfold floatToIntVal
  have e : (FloatKind.f64.decode x).toInt .zero = some n := toInt_dval h
  rw [e]
  exact if_pos ⟨h1, h2⟩

/-- What is read has at most 53 digits. -/
theorem read_mag {x : Nat} {s : Bool} {m : Nat} {e : Int} (h : double.read x = .number s m e) : m < 9007199254740992 := by
  obtain ⟨fb, fl, fi, fs, ff⟩ := double_facts
  simp only [Format.read, fb, fl, fi, fs] at h
  have hq : x % 9223372036854775808 % 4503599627370496 < 4503599627370496 := Nat.mod_lt _ (by decide)
  split at h
  · injection h with _ h2 _; omega
  · split at h
    · injection h with _ h2 _; omega
    · split at h <;> cases h
theorem write_nought (s : Bool) (e : Int) : Val (double.write (.number s 0 e)) 0 := by
  have h := write_val s 0 0 0 (by simp) (by decide)
  have e2 : double.write (.number s 0 e) = double.write (.number s 0 (((0 : Nat) : Int) - 1074)) := by
    simp only [Format.write, Format.nearest, if_true]
  rw [e2]
  cases s <;> simpa using h

theorem read_zero : double.read 0 = .number false 0 (-1074) := by decide
theorem read_one : double.read 4607182418800017408 = .number false 4503599627370496 (-52) := by decide
theorem mul_zero_val {x : Nat} {a : Int} (hx : Val x a) : ∃ r, floatBits .mul .f64 x 0 = some r ∧ Val r 0 := by
  obtain ⟨s, m, u, hr, he⟩ := hx
  refine ⟨double.write (.number (s ^^ false) (m * 0) ((u : Int) - 1074 + -1074)), ?_, ?_⟩
  · show double.mul x 0 = _
    simp only [Format.mul, hr, read_zero, Datum.product, Option.map_some]
  · rw [Nat.mul_zero]
    exact write_nought _ _
theorem mul_one_val {x : Nat} {a : Int} (hx : Val x a) (h1 : -9007199254740992 ≤ a) (h2 : a ≤ 9007199254740992) : ∃ r, floatBits .mul .f64 x 4607182418800017408 = some r ∧ Val r a := by
  obtain ⟨s, m, u, hr, he⟩ := hx
  have hm := dval_mag he
  have hs := dval_sign he
  have hlt := read_mag hr
  refine ⟨double.write (.number (s ^^ false) (m * 4503599627370496) ((u : Int) - 1074 + -52)), ?_, ?_⟩
  · show double.mul x _ = _
    simp only [Format.mul, hr, read_one, Datum.product, Option.map_some]
  · rw [Bool.xor_false]
    by_cases hz : a = 0
    · subst hz
      have : m = 0 := by
        rw [Int.natAbs_zero, Nat.zero_mul] at hm
        rcases Nat.mul_eq_zero.1 hm with h0 | h0
        · exact h0
        · have := Nat.two_pow_pos u; omega
      subst this
      rw [Nat.zero_mul]
      exact write_nought _ _
    · have hu : 52 ≤ u := by
        by_cases hu : u < 52
        · exfalso
          have h3 : 2 ^ 53 * 2 ^ u ≤ m * 2 ^ u := by
            rw [hm]
            have h4 : 2 ^ 53 * 2 ^ u ≤ 2 ^ sc := by
              rw [← Nat.pow_add]
              exact Nat.pow_le_pow_right (by omega) (by rw [sc_eq]; omega)
            have h5 : 2 ^ sc ≤ a.natAbs * 2 ^ sc := Nat.le_mul_of_pos_left _ (by omega)
            omega
          have h6 := Nat.le_of_mul_le_mul_right h3 (Nat.two_pow_pos u)
          have e : (2 : Nat) ^ 53 = 9007199254740992 := by decide
          omega
        · omega
      have h := write_val s (m * 4503599627370496) (u - 52) a.natAbs (by
        rw [← hm, Nat.mul_assoc]
        refine congrArg (m * ·) ?_
        have e : (4503599627370496 : Nat) = 2 ^ 52 := by decide
        rw [e, ← Nat.pow_add, show 52 + (u - 52) = u by omega]) (by omega)
      rw [hs] at h
      have e : (u : Int) - 1074 + -52 = ((u - 52 : Nat) : Int) - 1074 := by omega
      rw [e]
      exact h

/-- The sign turned: the word's first bit. -/
theorem read_neg (x : Nat) : double.read (x ^^^ 9223372036854775808) = (double.read x).opposite := by
  obtain ⟨fb, fl, fi, fs, ff⟩ := double_facts
  have hm : (x ^^^ 9223372036854775808) % 9223372036854775808 = x % 9223372036854775808 := by
    have h := Nat.xor_mod_two_pow (a := x) (b := 9223372036854775808) (n := 63)
    have e : (2 : Nat) ^ 63 = 9223372036854775808 := by decide
    rw [e] at h
    rw [h, Nat.mod_self, Nat.xor_zero]
  have hd : ((x ^^^ 9223372036854775808) / 9223372036854775808 % 2 == 1) = !(x / 9223372036854775808 % 2 == 1) := by
    have h := Nat.xor_div_two_pow (a := x) (b := 9223372036854775808) (n := 63)
    have e : (2 : Nat) ^ 63 = 9223372036854775808 := by decide
    rw [e] at h
    rw [h]
    have h2 := Nat.xor_mod_two_pow (a := x / 9223372036854775808) (b := 1) (n := 1)
    rw [Nat.pow_one] at h2
    rw [show (9223372036854775808 : Nat) / 9223372036854775808 = 1 by decide, h2]
    have h3 : x / 9223372036854775808 % 2 < 2 := Nat.mod_lt _ (by decide)
    generalize x / 9223372036854775808 % 2 = z at *
    match z, h3 with
    | 0, _ => rfl
    | 1, _ => rfl
  simp only [Format.read, fb, fl, fi, fs, hm, hd]
  split
  · rfl
  · split
    · rfl
    · split <;> rfl
theorem neg_val {x : Nat} {a : Int} (hx : Val x a) : Val (Op.negFloat .f64 x) (-a) := by
  have e : Op.negFloat .f64 x = x ^^^ 9223372036854775808 := by
    unfold Op.negFloat
    exact congrArg (x ^^^ ·) (by decide)
  rw [e]
  unfold Val
  rw [read_neg]
  exact opp_dval hx
/-- The word without its first bit stands for the number without its sign. -/
theorem abs_val {x : Nat} {a : Int} (hx : Val x a) : Val (x % 9223372036854775808) (a.natAbs : Int) := by
  obtain ⟨fb, fl, fi, fs, ff⟩ := double_facts
  obtain ⟨s, m, u, hr, he⟩ := hx
  have hm := dval_mag he
  refine ⟨false, m, u, ?_, by simp only [Bool.false_eq_true, if_false]; rw [hm, Int.natCast_mul]⟩
  have hd : (x % 9223372036854775808 / 9223372036854775808 % 2 == 1) = false := by
    have : x % 9223372036854775808 / 9223372036854775808 = 0 := Nat.div_eq_of_lt (Nat.mod_lt _ (by decide))
    rw [this]; rfl
  simp only [Format.read, fb, fl, fi, fs, Nat.mod_mod, hd] at hr ⊢
  split at hr
  · rename_i h
    rw [if_pos h]
    injection hr with _ h2 h3
    rw [h2, h3]
  · rename_i h
    rw [if_neg h]
    split at hr
    · rename_i h'
      rw [if_pos h']
      injection hr with _ h2 h3
      rw [h2, h3]
    · split at hr <;> cases hr
end

section
open Ieee

theorem read_max : double.read 4841369599423283200 = .number false 4503599627370496 0 := by decide
theorem val_max : Val 4841369599423283200 4503599627370496 := by
  refine ⟨false, 4503599627370496, 1074, by decide, ?_⟩
  simp only [Bool.false_eq_true, if_false, sc_eq, Int.natCast_mul]
  rfl
theorem one_scaled (k q : Nat) (h : q = 52 + k) : 4503599627370496 * 2 ^ k = 2 ^ q := by
  have e : (4503599627370496 : Nat) = 2 ^ 52 := by decide
  rw [e, ← Nat.pow_add, h]
theorem val_one : Val 4607182418800017408 1 := by
  refine ⟨false, 4503599627370496, 1022, by decide, ?_⟩
  rw [Int.one_mul]
  exact congrArg (fun z : Nat => (z : Int)) (one_scaled 1022 sc rfl)
theorem val_zero : Val 0 0 := ⟨false, 0, 0, by decide, by simp⟩

/-- A whole number past 2 ^ 53, as a word, is above 2 ^ 52. -/
theorem big_above (n : Int) (h1 : 9007199254740992 < n.natAbs) (h2 : n.natAbs ≤ 9223372036854775808) : double.order (floatOfInt .f64 n % 9223372036854775808) 4841369599423283200 = some .gt := by
  obtain ⟨fb, fl, fi, fs, ff⟩ := double_facts
  have ew : floatOfInt .f64 n = double.write (.number (decide (n < 0)) n.natAbs 0) := rfl
  rw [ew]
  generalize decide (n < 0) = s
  generalize n.natAbs = N at *
  have hN0 : N ≠ 0 := by omega
  have l1 : 53 ≤ N.log2 := (Nat.le_log2 hN0).2 (by omega)
  have l2 : N.log2 ≤ 63 := by
    have := (Nat.log2_lt (k := 64) hN0).2 (by omega)
    omega
  have hlast : max ((0 : Int) + (N.log2 : Int) - ((52 : Nat) : Int)) (-1074) = (N.log2 : Int) - 52 := by omega
  have t1 : ((0 : Int) - ((N.log2 : Int) - 52)).toNat = 0 := by omega
  have t2 : ((N.log2 : Int) - 52 - 0).toNat = N.log2 - 52 := by omega
  have t3 : ((N.log2 : Int) - 52 - -1074).toNat = N.log2 + 1022 := by omega
  have hk : ∃ K, Toward.even.cut s N (N.log2 - 52) = K ∧ 4503599627370496 ≤ K ∧ K ≤ 9007199254740992 := by
    refine ⟨_, rfl, ?_⟩
    unfold Toward.cut
    dsimp only
    rw [Nat.min_eq_left (by omega), Nat.shiftLeft_eq, Nat.one_mul]
    have hp := Nat.two_pow_pos (N.log2 - 52)
    have q1 : 4503599627370496 ≤ N / 2 ^ (N.log2 - 52) := by
      rw [Nat.le_div_iff_mul_le hp]
      have h3 := Nat.log2_self_le hN0
      have e : (4503599627370496 : Nat) = 2 ^ 52 := by decide
      rw [e, ← Nat.pow_add, show 52 + (N.log2 - 52) = N.log2 by omega]
      exact h3
    have q2 : N / 2 ^ (N.log2 - 52) < 9007199254740992 := by
      rw [Nat.div_lt_iff_lt_mul hp]
      have h3 := Nat.lt_log2_self (n := N)
      have e : (9007199254740992 : Nat) = 2 ^ 53 := by decide
      rw [e, ← Nat.pow_add, show 53 + (N.log2 - 52) = N.log2 + 1 by omega]
      exact h3
    generalize N / 2 ^ (N.log2 - 52) = low at *
    have hb : ∀ b : Bool, b.toNat ≤ 1 := by intro b; cases b <;> decide
    constructor
    · omega
    · refine Nat.le_trans (Nat.add_le_add_left (hb _) low) ?_
      omega
  obtain ⟨K, hK, k1, k2⟩ := hk
  have hw : double.write (.number s N 0) = double.word s ((N.log2 + 1022) * 4503599627370496 + K) := by
    simp only [Format.write, Format.nearest, hN0, if_false, ff, fl, fb, fi]
    rw [hlast, t1, t2, t3, Nat.shiftLeft_zero, hK, Nat.min_eq_left (by omega)]
  rw [hw]
  have q0 : (N.log2 + 1023) * 4503599627370496 ≤ (N.log2 + 1022) * 4503599627370496 + K := by
    rw [show N.log2 + 1023 = (N.log2 + 1022) + 1 by omega, Nat.add_mul (N.log2 + 1022) 1, Nat.one_mul]
    exact Nat.add_le_add_left k1 _
  have q9 : (N.log2 + 1022) * 4503599627370496 + K < 9218868437227405312 := by omega
  generalize (N.log2 + 1022) * 4503599627370496 + K = r at *
  have hmod : double.word s r % 9223372036854775808 = r := by
    unfold Format.word
    rw [fs]
    cases s
    · simp; omega
    · simp; omega
  rw [hmod]
  have q1 : N.log2 + 1023 ≤ r / 4503599627370496 := (Nat.le_div_iff_mul_le (by decide)).2 q0
  have hread : double.read r = .number false (4503599627370496 + r % 4503599627370496) (-1074 + ((r / 4503599627370496 - 1 : Nat) : Int)) := by
    have hd : (r / 9223372036854775808 % 2 == 1) = false := by
      rw [Nat.div_eq_of_lt (by omega)]; rfl
    have hr : r % 9223372036854775808 = r := Nat.mod_eq_of_lt (by omega)
    simp only [Format.read, fs, fb, fi, fl, hd, hr]
    rw [if_neg (by omega), if_pos (by omega)]
  unfold Format.order
  rw [hread, read_max]
  simp only [Datum.order]
  have hM : 4503599627370496 ≤ 4503599627370496 + r % 4503599627370496 := Nat.le_add_right _ _
  generalize 4503599627370496 + r % 4503599627370496 = M at *
  have e1 : min (-1074 + ((r / 4503599627370496 - 1 : Nat) : Int)) 0 = 0 := by omega
  rw [e1]
  have e2 : (-1074 + ((r / 4503599627370496 - 1 : Nat) : Int) - 0).toNat = (r / 4503599627370496 - 1076) + 1 := by omega
  rw [e2]
  generalize r / 4503599627370496 - 1076 = k
  have e3 : signed false M (k + 1) = ((M * 2 ^ k * 2 : Nat) : Int) := by
    rw [signed_eq, Nat.pow_succ, Nat.mul_assoc]; rfl
  have e4 : signed false 4503599627370496 ((0 : Int) - 0).toNat = 4503599627370496 := by rw [signed_eq]; decide
  rw [e3, e4]
  have e5 : M ≤ M * 2 ^ k := Nat.le_mul_of_pos_right _ (Nat.two_pow_pos k)
  have n1 : ¬ ((M * 2 ^ k * 2 : Nat) : Int) < 4503599627370496 := by omega
  have n2 : ¬ ((M * 2 ^ k * 2 : Nat) : Int) = 4503599627370496 := by omega
  simp only [compare, compareOfLessAndEq, n1, n2, if_false]
end

section
open Ieee

theorem val_expo {x : Nat} {a : Int} (hx : Val x a) (h1 : 1 ≤ a.natAbs) (h2 : a.natAbs ≤ 4503599627370496) :
    ∃ L, L ≤ 52 ∧ x / 4503599627370496 % 2048 = L + 1023 ∧ 2 ^ (52 - L) ∣ x := by
  obtain ⟨fb, fl, fi, fs, ff⟩ := double_facts
  obtain ⟨s, m, u, hr, he⟩ := hx
  have hm := dval_mag he
  have hlt := read_mag hr
  have hN0 : a.natAbs ≠ 0 := by omega
  generalize a.natAbs = N at *
  have hlog := log2_scaled hm hN0
  have l2 : N.log2 ≤ 52 := by
    have := (Nat.log2_lt (k := 53) hN0).2 (by omega)
    omega
  simp only [Format.read, fb, fl, fi, fs] at hr
  have hE : x / 4503599627370496 % 2048 = x % 9223372036854775808 / 4503599627370496 := by omega
  have hx2 : x % 4503599627370496 = x % 9223372036854775808 % 4503599627370496 := by omega
  rw [hE]
  generalize x % 9223372036854775808 = r at *
  have hmlt : m ≠ 0 := by
    rintro rfl
    rw [Nat.zero_mul] at hm
    have : 0 < N * 2 ^ sc := Nat.mul_pos (by omega) (Nat.two_pow_pos _)
    omega
  have hml : m.log2 < 53 := by
    rw [Nat.log2_lt hmlt]
    have e : (2 : Nat) ^ 53 = 9007199254740992 := by decide
    rw [e]
    exact hlt
  split at hr
  · injection hr with _ h3 h4
    exfalso
    have hu : u = 0 := by omega
    rw [sc_eq] at hlog
    omega
  · split at hr
    · injection hr with _ h3 h4
      have hM : 4503599627370496 ≤ m := by rw [← h3]; exact Nat.le_add_right _ _
      have hml2 : m.log2 = 52 := by
        have := (Nat.le_log2 (k := 52) hmlt).2 hM
        omega
      rw [sc_eq] at hlog
      have hu : u = N.log2 + 1022 := by omega
      refine ⟨N.log2, l2, by omega, ?_⟩
      have e1 : m = N * 2 ^ (52 - N.log2) := by
        have e2 : m * 2 ^ u = N * 2 ^ (52 - N.log2) * 2 ^ u := by
          rw [hm, Nat.mul_assoc, ← Nat.pow_add, show 52 - N.log2 + u = sc by rw [sc_eq]; omega]
        exact Nat.eq_of_mul_eq_mul_right (Nat.two_pow_pos u) e2
      have d1 : 2 ^ (52 - N.log2) ∣ m := ⟨N, by rw [e1, Nat.mul_comm]⟩
      have d2 : 2 ^ (52 - N.log2) ∣ 4503599627370496 := by
        have e : (4503599627370496 : Nat) = 2 ^ 52 := by decide
        rw [e]
        exact Nat.pow_dvd_pow 2 (by omega)
      have d3 : 2 ^ (52 - N.log2) ∣ x % 4503599627370496 := by
        rw [hx2]
        rw [← h3] at d1
        exact (Nat.dvd_add_right d2).1 d1
      exact (Nat.dvd_mod_iff d2).1 d3
    · split at hr <;> cases hr

theorem clear_low (x k : Nat) (hk : k ≤ 64) (hx : x < 18446744073709551616) (hd : 2 ^ k ∣ x) : x &&& (18446744073709551615 - (2 ^ k - 1)) = x := by
  obtain ⟨c, rfl⟩ := hd
  have hp := Nat.two_pow_pos k
  have e64 : (18446744073709551616 : Nat) = 2 ^ (64 - k) * 2 ^ k := by
    rw [← Nat.pow_add, show 64 - k + k = 64 by omega]
  have hm : 18446744073709551615 - (2 ^ k - 1) = (2 ^ (64 - k) - 1) <<< k := by
    rw [Nat.shiftLeft_eq, Nat.sub_mul, Nat.one_mul, ← e64]
    omega
  have hc : c < 2 ^ (64 - k) := by
    rw [e64, Nat.mul_comm] at hx
    exact Nat.lt_of_mul_lt_mul_right hx
  rw [hm, Nat.mul_comm, ← Nat.shiftLeft_eq, ← Nat.shiftLeft_and_distrib, Nat.and_two_pow_sub_one_eq_mod, Nat.mod_eq_of_lt hc]
theorem clear_sign (x : Nat) : x &&& (18446744073709551615 - 9223372036854775808) = x % 9223372036854775808 := by
  have h := Nat.and_two_pow_sub_one_eq_mod x 63
  have e : (2 : Nat) ^ 63 = 9223372036854775808 := by decide
  rw [e] at h
  exact h
end
end Go.Proofs.Ytopgcimjdlhclaa
