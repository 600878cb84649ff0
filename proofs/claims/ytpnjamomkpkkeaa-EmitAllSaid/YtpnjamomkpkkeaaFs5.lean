/- Layer 14: the program and the reference find the same fault, and say the same. -/
import Derived.Test.YtpnjamomkpkkeaaFs1
import Derived.Test.YtpnjamomkpkkeaaFs4
namespace Go.Proofs.Ytpnjamomkpkkeaa
set_option linter.unusedVariables false
set_option linter.unusedSimpArgs false
open Go.RowKit

theorem hsB5_no {T fl : Int} (h : T ≠ 1) : hsB T fl 5 = false := by
  unfold hsB usedN
  by_cases h0 : T = 0
  · rw [if_pos h0]; simp [Nat.testBit]
  rw [if_neg h0, if_neg h]
  by_cases h4 : T = 4 ∨ T = 6
  · rw [if_pos h4]; simp [Nat.testBit]
  rw [if_neg h4]
  by_cases h5 : T = 5
  · rw [if_pos h5]; simp [Nat.testBit]
  rw [if_neg h5]
  by_cases h9 : T = 9
  · rw [if_pos h9]; simp [Nat.testBit]
  · rw [if_neg h9]; simp
theorem num1 (g : Nat → Int) : num g 1 = g 0 := by simp [num]
def frF (T fl : Int) (n : Nat) (f : Nat → Int) : Int × Int :=
  if wrsB T fl n = true then (szS T, 6) else if (fdOf T fl n f).ms = true then (szS T, 6) else if ovB (fdOf T fl n f) n = true then (2, 1) else (0, 0)
theorem frR_flt {T fl st : Int} {n : Nat} {f : Nat → Int} (h : HdR n T fl st) (hm : misB T st = false) : ((frR T fl st n f).fs, (frR T fl st n f).fc) = frF T fl n f := by
  unfold frR frF
  rw [if_pos h, hm, if_neg (by decide)]
  (repeat' split) <;> rfl
def rfF (T fl : Int) (n : Nat) (f : Nat → Int) : Int × Int :=
  if lenB T fl n = false then ((if T = 2 then 1 else 2), 6)
  else if n < ahdN T fl then ((if T = 0 then 1 else 2), 6)
  else if hsB T fl 3 = true ∧ ((n - ahdN T fl : Nat) : Int) < f 0 then (2, 1)
  else (0, 0)
theorem flt_eq {T fl : Int} {n : Nat} {f : Nat → Int} (hf : Byt n f) : rfF T fl n f = frF T fl n f := by
  unfold rfF frF
  have hby : 0 < n → 0 ≤ f 0 := fun h => (hf 0 h).1
  by_cases h0 : T = 0
  · subst h0
    have e5 : hsB 0 fl 5 = false := hsB5_no (by decide)
    cases e3 : hsB 0 fl 3
    all_goals
      simp [lenB, wrsB, szS, ahdN, fdOf, nbM, nbT, nbV, ovB, m0, num1, e3, e5]
      try ((repeat' split) <;> (try simp_all) <;> omega)
  by_cases h1 : T = 1
  · subst h1
    cases e3 : hsB 1 fl 3
    all_goals cases e5 : hsB 1 fl 5
    all_goals
      simp [lenB, wrsB, szS, ahdN, fdOf, nbM, nbT, nbV, ovB, m0, num1, e3, e5]
      try ((repeat' split) <;> (try simp_all) <;> omega)
  by_cases h2 : T = 2
  · subst h2
    have e5 : hsB 2 fl 5 = false := hsB5_no (by decide)
    have e3 : hsB 2 fl 3 = false := hsB3_no (by decide)
    all_goals
      simp [lenB, wrsB, szS, ahdN, fdOf, nbM, nbT, nbV, ovB, m0, num1, e3, e5]
      try ((repeat' split) <;> (try simp_all) <;> omega)
  by_cases h3 : T = 3
  · subst h3
    have e5 : hsB 3 fl 5 = false := hsB5_no (by decide)
    have e3 : hsB 3 fl 3 = false := hsB3_no (by decide)
    all_goals
      simp [lenB, wrsB, szS, ahdN, fdOf, nbM, nbT, nbV, ovB, m0, num1, e3, e5]
      try ((repeat' split) <;> (try simp_all) <;> omega)
  by_cases h4 : T = 4
  · subst h4
    have e5 : hsB 4 fl 5 = false := hsB5_no (by decide)
    have e3 : hsB 4 fl 3 = false := hsB3_no (by decide)
    cases e0 : hsB 4 fl 0
    all_goals
      simp [lenB, wrsB, szS, ahdN, fdOf, nbM, nbT, nbV, ovB, m0, num1, e3, e5, e0]
      try ((repeat' split) <;> (try simp_all) <;> omega)
  by_cases h5 : T = 5
  · subst h5
    have e5 : hsB 5 fl 5 = false := hsB5_no (by decide)
    cases e3 : hsB 5 fl 3
    all_goals
      simp [lenB, wrsB, szS, ahdN, fdOf, nbM, nbT, nbV, ovB, m0, num1, e3, e5]
      try ((repeat' split) <;> (try simp_all) <;> omega)
  by_cases h6 : T = 6
  · subst h6
    have e5 : hsB 6 fl 5 = false := hsB5_no (by decide)
    have e3 : hsB 6 fl 3 = false := hsB3_no (by decide)
    all_goals
      simp [lenB, wrsB, szS, ahdN, fdOf, nbM, nbT, nbV, ovB, m0, num1, e3, e5]
      try ((repeat' split) <;> (try simp_all) <;> omega)
  by_cases h7 : T = 7
  · subst h7
    have e5 : hsB 7 fl 5 = false := hsB5_no (by decide)
    have e3 : hsB 7 fl 3 = false := hsB3_no (by decide)
    all_goals
      simp [lenB, wrsB, szS, ahdN, fdOf, nbM, nbT, nbV, ovB, m0, num1, e3, e5]
      try ((repeat' split) <;> (try simp_all) <;> omega)
  by_cases h8 : T = 8
  · subst h8
    have e5 : hsB 8 fl 5 = false := hsB5_no (by decide)
    have e3 : hsB 8 fl 3 = false := hsB3_no (by decide)
    all_goals
      simp [lenB, wrsB, szS, ahdN, fdOf, nbM, nbT, nbV, ovB, m0, num1, e3, e5]
      try ((repeat' split) <;> (try simp_all) <;> omega)
  have e5 : hsB T fl 5 = false := hsB5_no h1
  have e3 : hsB T fl 3 = false := hsB3_no ⟨h0, h1, h5⟩
  have e1 : lenB T fl n = true := lenB_out ⟨h2, h3, h8, h6, h4, h7⟩
  have e2 : wrsB T fl n = false := wrsB_out ⟨h2, h3, h8, h6, h4⟩
  have e4 : ahdN T fl = 0 := by unfold ahdN; rw [e3, e5, if_neg h5]; rfl
  have e6 : fdOf T fl n f = { off := 0 } := by unfold fdOf; rw [if_neg h0, if_neg h1, if_neg h2, if_neg h3, if_neg h4, if_neg h5, if_neg h7, if_neg h8]
  rw [e1, e2, e3, e4, e6]
  simp [ovB, m0]
end Go.Proofs.Ytpnjamomkpkkeaa
