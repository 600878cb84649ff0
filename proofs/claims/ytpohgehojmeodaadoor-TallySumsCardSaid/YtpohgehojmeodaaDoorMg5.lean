/- Layer 28: the example; the walks of MessageChecks and MessagePromise. -/
import Derived.Test.YtpohgehojmeodaaDoorMg4
namespace Go.Proofs.YtpohgehojmeodaaDoor
set_option linter.unusedVariables false
set_option linter.unusedSimpArgs false
open Go.RowKit Go.PlainAid

def ex28 : Nat → Fd := fun i => [(⟨⟨#[58, 115, 116, 97, 116, 117, 115]⟩, ⟨#[50, 48, 48]⟩, false⟩ : Fd), ⟨⟨#[99, 111, 110, 110, 101, 99, 116, 105, 111, 110]⟩, ⟨#[99, 108, 111, 115, 101]⟩, false⟩].getD i default
theorem ex28_r : ChkR 1 ex28 2 ⟨#[]⟩ 0 0 false 29 := by
  refine .inr (.inl ⟨decide_eq_false ?_, decide_eq_true ⟨1, by omega, by decide +kernel⟩, rfl, rfl, rfl, rfl, rfl⟩)
  rintro ⟨i, hi, h⟩
  have : i = 0 ∨ i = 1 := by omega
  rcases this with rfl | rfl
  · exact absurd h (by decide +kernel)
  · exact absurd h (by decide +kernel)
theorem chk_str (m : ByteArray) : (m.toList == m.toList) = true := beq_self_eq_true _
/-- What is promised is asked safely. -/
theorem promise_r {F : Nat → Fd} {n : Nat} {m m2 : ByteArray} {st N st2 N2 rule rule2 : Int} {T T2 : Bool} (h : ChkR 0 F n m st N T rule) (k : ChkR 3 F n m2 st2 N2 T2 rule2) :
    (rule ≠ 0 ∧ rule2 = rule) ∨ (rule = 0 ∧ safeB m = true ∧ rule2 = 0 ∧ m = m2 ∧ st = st2 ∧ N = N2 ∧ T = T2) ∨ (rule = 0 ∧ safeB m = false ∧ rule2 = 34) := by
  have e1 : hdB 3 F n = hdB 0 F n := rfl
  have e2 : hdM 3 F n = hdM 0 F n := rfl
  have e3 : hdN 3 F n = hdN 0 F n := rfl
  unfold ChkR at k
  rw [e1, e2, e3] at k
  rcases h with ⟨a1, rfl, rfl, rfl, rfl, rfl⟩ | ⟨a1, a2, rfl, rfl, rfl, rfl, rfl⟩ | ⟨a1, a2, a3, rfl, rfl, rfl, rfl, rfl⟩ | ⟨a1, a2, a3, ⟨x, y, a4⟩, rfl, rfl, rfl, rfl, rfl⟩ | ⟨a1, a2, a3, ⟨x, y, a4⟩, ⟨a5, a6⟩, rfl, rfl, rfl, rfl, rfl⟩ | ⟨a1, a2, a3, a4, a5, rfl, rfl, rfl⟩
  all_goals
    rcases k with ⟨b1, rfl, rfl, rfl, rfl, rfl⟩ | ⟨b1, b2, rfl, rfl, rfl, rfl, rfl⟩ | ⟨b1, b2, b3, rfl, rfl, rfl, rfl, rfl⟩ | ⟨b1, b2, b3, ⟨x', y', b4⟩, rfl, rfl, rfl, rfl, rfl⟩ | ⟨b1, b2, b3, ⟨x', y', b4⟩, ⟨b5, b6⟩, rfl, rfl, rfl, rfl, rfl⟩ | ⟨b1, b2, b3, b4, b5, rfl, rfl, rfl⟩
    all_goals first
      | exact absurd a5 (by decide)
      | exact .inl ⟨by decide, rfl⟩
      | exact .inr (.inr ⟨rfl, b6, rfl⟩)
      | exact .inr (.inl ⟨rfl, b5 rfl, rfl, rfl, rfl, (a4.same b4).1, (a4.same b4).2.1⟩)
      | exact absurd (a4.same b4).2.2 (by decide)
      | exact absurd (a1.symm.trans b1) (by decide)
      | exact absurd (a2.symm.trans b2) (by decide)
      | exact absurd (a3.symm.trans b3) (by decide)
end Go.Proofs.YtpohgehojmeodaaDoor
