/- Layer 27: the reference's words on fields. -/
import Derived.Test.YtpohgehojmeodaaDoorPs2
import Derived.Test.YtpohgehojmeodaaDoorMN
import Derived.Laws.ResultCell
namespace Go.Proofs.YtpohgehojmeodaaDoor
set_option linter.unusedVariables false
set_option linter.unusedSimpArgs false
open Go.RowKit Go.PlainAid

theorem eqN_false {a b : ByteArray} (h : a ≠ b) : eqN a b = false := by
  cases e : eqN a b with
  | false => rfl
  | true => exact absurd (eqN_iff.1 e) h
theorem valF_succ_none {F : Nat → Fd} {x : ByteArray} {k : Nat} (h : valF F x k = none) : valF F x (k + 1) = if eqN (F k).name x then some (F k).val else none := by
  show (match valF F x k with | some v => some v | none => if eqN (F k).name x then some (F k).val else none) = _
  rw [h]
theorem valF_stay {F : Nat → Fd} {x v : ByteArray} {k n : Nat} (h : valF F x k = some v) (hk : k ≤ n) : valF F x n = some v := by
  induction n with
  | zero => rw [show k = 0 by omega] at h; exact h
  | succ n ih =>
    by_cases e : k = n + 1
    · rw [← e]; exact h
    · have := ih (by omega)
      show (match valF F x n with | some v => some v | none => if eqN (F n).name x then some (F n).val else none) = _
      rw [this]
theorem any_no {NM : List ByteArray} {p : ByteArray → Bool} (h : ∀ m, m < NM.length → p (NM.getD m sE) = false) : NM.any p = false := by
  cases e : NM.any p with
  | false => rfl
  | true =>
    obtain ⟨m, hm, hp⟩ := any_getD.1 e
    rw [h m hm] at hp
    cases hp
def okR (NM : List ByteArray) (F : Nat → Fd) (n : Nat) : Nat → Bool
  | 0 => true
  | k + 1 => okR NM F n k && (!colB (F k).name || ((k == 0 || colB (F (k - 1)).name) && NM.any (eqN (F k).name ·) && decide (cntF F (F k).name n ≤ 1)))
theorem okR_iff {NM : List ByteArray} {F : Nat → Fd} {n k : Nat} : okR NM F n k = true ↔ ∀ i, i < k → colB (F i).name = true → (i = 0 ∨ colB (F (i - 1)).name = true) ∧ NM.any (eqN (F i).name ·) = true ∧ cntF F (F i).name n ≤ 1 := by
  induction k with
  | zero => exact ⟨fun _ j hj => by omega, fun _ => rfl⟩
  | succ k ih =>
    unfold okR
    rw [Bool.and_eq_true, ih]
    constructor
    · rintro ⟨h1, h2⟩ j hj hc
      by_cases e : j = k
      · subst e
        rw [hc] at h2
        simpa [and_assoc] using h2
      · exact h1 j (by omega) hc
    · intro h
      refine ⟨fun j hj => h j (by omega), ?_⟩
      cases hc : colB (F k).name with
      | false => rfl
      | true =>
        have := h k (by omega) hc
        simpa [and_assoc] using this
theorem okR_ok {NM : List ByteArray} {F : Nat → Fd} {n : Nat} : okR NM F n n = okF NM F n := by
  rw [Bool.eq_iff_iff, okR_iff, okF_okD]
  rfl
theorem okR_bad {NM : List ByteArray} {F : Nat → Fd} {n k : Nat} (hk : k < n) (h : okR NM F n (k + 1) = false) : okR NM F n n = false := by
  cases e : okR NM F n n with
  | false => rfl
  | true =>
    have : okR NM F n (k + 1) = true := okR_iff.2 fun i hi => okR_iff.1 e i (by omega)
    rw [h] at this
    cases this
end Go.Proofs.YtpohgehojmeodaaDoor
