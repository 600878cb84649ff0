/- Whole numbers as words of binary64, more: orders, sums, products, whole parts. Plain theorems; no program is named. -/
import Derived.Test.YtfgifdgbhikegaaFlo
namespace Go.Proofs.Ytfgifdgbhikegaa
open Ieee

theorem signed_add (s : Bool) (m p q : Nat) : signed s m (p + q) = signed s m p * ((2 ^ q : Nat) : Int) := by
  rw [signed_eq, signed_eq, Nat.pow_add, ← Nat.mul_assoc]
  cases s
  · simp only [Bool.false_eq_true, if_false, Int.natCast_mul]
  · simp only [if_true, Int.natCast_mul, Int.neg_mul]
theorem two_pos (q : Nat) : (0 : Int) < ((2 ^ q : Nat) : Int) := by have := Nat.two_pow_pos q; omega
theorem compare_mul (a b c : Int) (hc : 0 < c) : compare (a * c) (b * c) = compare a b := by
  rcases Int.lt_trichotomy a b with h | h | h
  · have h2 : a * c < b * c := Int.mul_lt_mul_of_pos_right h hc
    simp only [compare, compareOfLessAndEq, h, h2, if_true]
  · subst h
    simp [compare, compareOfLessAndEq]
  · have h2 : b * c < a * c := Int.mul_lt_mul_of_pos_right h hc
    have n1 : ¬ a < b := by omega
    have n2 : ¬ a * c < b * c := by omega
    have n3 : ¬ a = b := by omega
    have n4 : ¬ a * c = b * c := by omega
    simp only [compare, compareOfLessAndEq, n1, n2, n3, n4, if_false]
theorem of_int (n : Int) (h1 : -9007199254740992 ≤ n) (h2 : n ≤ 9007199254740992) : Val (floatOfInt .f64 n) n := by
  have h := write_val (decide (n < 0)) n.natAbs sc n.natAbs rfl (by omega)
  have e : (if decide (n < 0) then -((n.natAbs : Nat) : Int) else ((n.natAbs : Nat) : Int)) = n := by
    by_cases hn : n < 0
    · simp only [hn, decide_true, if_true]; omega
    · simp only [hn, decide_false, Bool.false_eq_true, if_false]; omega
  rw [e] at h
  exact h

theorem order_val {x y : Nat} {a b : Int} (hx : Val x a) (hy : Val y b) : double.order x y = some (compare a b) := by
  obtain ⟨s, m, u, hr, he⟩ := hx
  obtain ⟨t, n, v, hr2, he2⟩ := hy
  unfold Format.order
  rw [hr, hr2]
  simp only [Datum.order]
  rw [← signed_eq] at he he2
  have key : ∀ B : Nat, B = min u v → compare (signed s m (u - B)) (signed t n (v - B)) = compare a b := by
    intro B hB
    have e1 := signed_add s m (u - B) B
    have e2 := signed_add t n (v - B) B
    rw [Nat.sub_add_cancel (by omega), he] at e1
    rw [Nat.sub_add_cancel (by omega), he2] at e2
    rw [← compare_mul _ _ _ (two_pos B), ← e1, ← e2, compare_mul _ _ _ (two_pos sc)]
  have q1 : ((u : Int) - 1074 - min ((u : Int) - 1074) ((v : Int) - 1074)).toNat = u - min u v := by omega
  have q2 : ((v : Int) - 1074 - min ((u : Int) - 1074) ((v : Int) - 1074)).toNat = v - min u v := by omega
  rw [q1, q2, key _ rfl]

/-- A datum that stands for a small whole number is written as a word that does. -/
theorem write_dval {d : Datum} {n : Int} (h : DVal d n) (h1 : -9007199254740992 ≤ n) (h2 : n ≤ 9007199254740992) : Val (double.write d) n := by
  obtain ⟨s, m, u, rfl, he⟩ := h
  have hp := two_pos sc
  by_cases hz : n = 0
  · subst hz
    have hm : m * 2 ^ u = 0 * 2 ^ sc := by
      rw [Int.zero_mul] at he
      cases s
      · simp only [Bool.false_eq_true, if_false] at he; omega
      · simp only [if_true] at he; omega
    have := write_val s m u 0 hm (by omega)
    cases s <;> simpa using this
  · have hs : s = decide (n < 0) := by
      cases s
      · simp only [Bool.false_eq_true, if_false] at he
        have : 0 ≤ n := by
          by_cases h : n < 0
          · have := Int.mul_neg_of_neg_of_pos h hp; omega
          · omega
        simp; omega
      · simp only [if_true] at he
        have : n ≤ 0 := by
          by_cases h : 0 < n
          · have := Int.mul_pos h hp; omega
          · omega
        simp; omega
    have hm : m * 2 ^ u = n.natAbs * 2 ^ sc := by
      have e := congrArg Int.natAbs he
      rw [Int.natAbs_mul, Int.natAbs_natCast] at e
      rw [← e]
      cases s
      · simp only [Bool.false_eq_true, if_false, Int.natAbs_natCast]
      · simp only [if_true, Int.natAbs_neg, Int.natAbs_natCast]
    have h := write_val s m u n.natAbs hm (by omega)
    have e : (if s then -((n.natAbs : Nat) : Int) else ((n.natAbs : Nat) : Int)) = n := by
      subst hs
      by_cases hn : n < 0
      · simp only [hn, decide_true, if_true]; omega
      · simp only [hn, decide_false, Bool.false_eq_true, if_false]; omega
    rw [e] at h
    exact h

theorem sum_dval {d e : Datum} {a b : Int} (hd : DVal d a) (he : DVal e b) : ∃ r, d.sum e = some r ∧ DVal r (a + b) := by
  obtain ⟨s, m, u, rfl, h1⟩ := hd
  obtain ⟨t, n, v, rfl, h2⟩ := he
  rw [← signed_eq] at h1 h2
  have q1 : ((u : Int) - 1074 - (((min u v : Nat) : Int) - 1074)).toNat = u - min u v := by omega
  have q2 : ((v : Int) - 1074 - (((min u v : Nat) : Int) - 1074)).toNat = v - min u v := by omega
  have q3 : min ((u : Int) - 1074) ((v : Int) - 1074) = ((min u v : Nat) : Int) - 1074 := by omega
  simp only [Datum.sum, q3, q1, q2]
  refine ⟨_, rfl, ?_⟩
  have e1 := signed_add s m (u - min u v) (min u v)
  have e2 := signed_add t n (v - min u v) (min u v)
  rw [Nat.sub_add_cancel (by omega), h1] at e1
  rw [Nat.sub_add_cancel (by omega), h2] at e2
  generalize signed s m (u - min u v) = p at *
  generalize signed t n (v - min u v) = q at *
  refine ⟨_, (p + q).natAbs, min u v, rfl, ?_⟩
  rw [Int.natCast_mul, Int.add_mul, e1, e2, ← Int.add_mul]
  generalize ((2 ^ min u v : Nat) : Int) = z
  by_cases hz : p + q = 0
  · rw [if_pos hz, hz]
    simp
  · rw [if_neg hz]
    by_cases hn : p + q < 0
    · simp only [hn, decide_true, if_true]
      rw [show ((p + q).natAbs : Int) = -(p + q) by omega, Int.neg_mul, Int.neg_neg]
    · simp only [hn, decide_false, Bool.false_eq_true, if_false]
      rw [show ((p + q).natAbs : Int) = p + q by omega]
theorem opp_dval {d : Datum} {a : Int} (h : DVal d a) : DVal d.opposite (-a) := by
  obtain ⟨s, m, u, rfl, he⟩ := h
  refine ⟨!s, m, u, rfl, ?_⟩
  rw [Int.neg_mul, ← he]
  cases s <;> simp

theorem add_val {x y : Nat} {a b : Int} (hx : Val x a) (hy : Val y b) (h1 : -9007199254740992 ≤ a + b) (h2 : a + b ≤ 9007199254740992) : ∃ r, floatBits .add .f64 x y = some r ∧ Val r (a + b) := by
  obtain ⟨d, hd, hv⟩ := sum_dval hx hy
  refine ⟨double.write d, ?_, write_dval hv h1 h2⟩
  show double.add x y = some (double.write d)
  simp only [Format.add, hd, Option.map_some]
theorem sub_val {x y : Nat} {a b : Int} (hx : Val x a) (hy : Val y b) (h1 : -9007199254740992 ≤ a - b) (h2 : a - b ≤ 9007199254740992) : ∃ r, floatBits .sub .f64 x y = some r ∧ Val r (a - b) := by
  obtain ⟨d, hd, hv⟩ := sum_dval hx (opp_dval hy)
  have e : a + -b = a - b := by omega
  rw [e] at hv
  refine ⟨double.write d, ?_, write_dval hv h1 h2⟩
  show double.sub x y = some (double.write d)
  simp only [Format.sub, hd, Option.map_some]
end Go.Proofs.Ytfgifdgbhikegaa
