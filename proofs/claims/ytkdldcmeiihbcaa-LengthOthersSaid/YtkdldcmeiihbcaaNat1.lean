/- Layer 3: digits up to a limit: the number, told by a function of the bytes. Plain theorems; no program is named. -/
import Derived.Test.YtkdldcmeiihbcaaMem
import Derived.PlainAid
namespace Go.Proofs.Ytkdldcmeiihbcaa
open Go.RowKit Go.PlainAid

/-- The number of the first k digits, while it is not above most. -/
def natG (f : Nat → Int) (most : Int) : Nat → Option Int
  | 0 => some 0
  | k + 1 => match natG f most k with
    | none => none
    | some n => if 48 ≤ f k ∧ f k ≤ 57 ∧ 10 * n + (f k - 48) ≤ most then some (10 * n + (f k - 48)) else none
theorem natG_yes {f : Nat → Int} {most n : Int} {k : Nat} (h : natG f most k = some n) (h1 : 48 ≤ f k) (h2 : f k ≤ 57) (h3 : 10 * n + (f k - 48) ≤ most) : natG f most (k + 1) = some (10 * n + (f k - 48)) := by
  simp only [natG, h]
  rw [if_pos ⟨h1, h2, h3⟩]
theorem natG_no {f : Nat → Int} {most n : Int} {k : Nat} (h : natG f most k = some n) (h1 : ¬ (48 ≤ f k ∧ f k ≤ 57 ∧ 10 * n + (f k - 48) ≤ most)) : natG f most (k + 1) = none := by
  simp only [natG, h]
  rw [if_neg h1]
theorem natG_none {f : Nat → Int} {most : Int} {k m : Nat} (h : natG f most k = none) (hm : k ≤ m) : natG f most m = none := by
  induction m with
  | zero => obtain rfl : k = 0 := by omega
            exact h
  | succ m ih =>
    by_cases e : k = m + 1
    · subst e; exact h
    · simp only [natG, ih (by omega)]
theorem natG_bd {f : Nat → Int} {most : Int} {k : Nat} {n : Int} (h : natG f most k = some n) : 0 ≤ n ∧ (0 < k → n ≤ most) := by
  cases k with
  | zero =>
    simp only [natG, Option.some.injEq] at h
    exact ⟨by omega, fun h => by omega⟩
  | succ k =>
    have ih : ∀ k n, natG f most k = some n → 0 ≤ n := by
      intro k
      induction k with
      | zero => intro n h; simp only [natG, Option.some.injEq] at h; omega
      | succ k ih =>
        intro n h
        cases hk : natG f most k with
        | none => simp only [natG, hk] at h; cases h
        | some m =>
          have := ih m hk
          simp only [natG, hk] at h
          split at h
          · have := Option.some.inj h; omega
          · cases h
    refine ⟨ih _ _ h, fun _ => ?_⟩
    cases hk : natG f most k with
    | none => simp only [natG, hk] at h; cases h
    | some m =>
      simp only [natG, hk] at h
      split at h
      · have := Option.some.inj h; omega
      · cases h
def natN (s : ByteArray) (most : Int) : Int := if s.size = 0 then 0 else match natG (bt s) most s.size with | some n => n | none => 0
def natB (s : ByteArray) (most : Int) : Bool := if s.size = 0 then false else match natG (bt s) most s.size with | some _ => true | none => false
theorem nat_empty {s : ByteArray} (most : Int) (h : s.size = 0) : natN s most = 0 ∧ natB s most = false := by simp [natN, natB, h]
theorem nat_yes {s : ByteArray} {most n : Int} (h0 : 0 < s.size) (h : natG (bt s) most s.size = some n) : natN s most = n ∧ natB s most = true := by
  have : s.size ≠ 0 := by omega
  simp [natN, natB, h, this]
theorem nat_no {s : ByteArray} {most : Int} {k : Nat} (hk : k ≤ s.size) (h : natG (bt s) most k = none) : natN s most = 0 ∧ natB s most = false := by
  have h2 := natG_none h hk
  by_cases h0 : s.size = 0
  · exact nat_empty most h0
  · simp [natN, natB, h2, h0]
theorem nat_some {s : ByteArray} {most : Int} (h : natB s most = true) : 0 ≤ natN s most ∧ natN s most ≤ most := by
  unfold natB at h
  unfold natN
  by_cases h0 : s.size = 0
  · simp [h0] at h
  · cases hg : natG (bt s) most s.size with
    | none => simp [h0, hg] at h
    | some n =>
      have := natG_bd hg
      simp only [h0, if_false]
      exact ⟨this.1, this.2 (by omega)⟩
theorem natN_zero {s : ByteArray} {most : Int} (h : natB s most = false) : natN s most = 0 := by
  unfold natB at h
  unfold natN
  by_cases h0 : s.size = 0
  · simp [h0]
  · cases hg : natG (bt s) most s.size with
    | none => simp [h0]
    | some n => simp [h0, hg] at h
end Go.Proofs.Ytkdldcmeiihbcaa
