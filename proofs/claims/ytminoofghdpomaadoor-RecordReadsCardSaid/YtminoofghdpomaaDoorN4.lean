/- Wd8, Wd9, WdA in one text. -/
import Derived.Test.YtminoofghdpomaaDoorN3
namespace Go.Proofs.YtminoofghdpomaaDoor
set_option linter.unusedVariables false
set_option linter.unusedSimpArgs false
section
open Go Go.RowKit Go.PlainAid

/-- the byte that stands first in a word -/
def FstR (l : List UInt8) (c z : Int) (ok : Bool) : Prop := (ok = true ∧ ∃ (b : UInt8) (rest : List UInt8), l = qB b ++ rest ∧ c = (b.toNat : Int) ∧ z = ((qB b).length : Int)) ∨ (ok = false ∧ ∀ b rest, l ≠ qB b ++ rest)
theorem fst_no {x y : UInt8} {l2 : List UInt8} (h : ∀ b, hexL b ≠ [x, y]) : ∀ b rest, (37 :: x :: y :: l2) ≠ qB b ++ rest := fun b rest e => by
  cases hb : plC b
  · rw [qB_no hb] at e
    unfold hexL at e
    simp only [List.cons_append, List.nil_append, List.cons.injEq, true_and] at e
    exact h b (by unfold hexL; rw [e.1, e.2.1])
  · rw [qB_yes hb] at e
    simp only [List.cons_append, List.nil_append, List.cons.injEq] at e
    rw [← e.1, pl37] at hb
    exact absurd hb (by decide)
theorem fst_plain {x y : UInt8} {l2 : List UInt8} {c : UInt8} (h : hexL c = [x, y]) (hp : plC c = true) : ∀ b rest, (37 :: x :: y :: l2) ≠ qB b ++ rest := fun b rest e => by
  cases hb : plC b
  · rw [qB_no hb] at e
    unfold hexL at e
    simp only [List.cons_append, List.nil_append, List.cons.injEq, true_and] at e
    have : b = c := hexL_inj (by rw [h]; unfold hexL; rw [e.1, e.2.1])
    rw [this, hp] at hb
    cases hb
  · rw [qB_yes hb] at e
    simp only [List.cons_append, List.nil_append, List.cons.injEq] at e
    rw [← e.1, pl37] at hb
    exact absurd hb (by decide)
theorem fst_odd {x : UInt8} {l1 : List UInt8} (hp : plC x = false) (h : x ≠ 37 ∨ (x :: l1).length < 3) : ∀ b rest, (x :: l1) ≠ qB b ++ rest := fun b rest e => by
  cases hb : plC b
  · rw [qB_no hb] at e
    rcases h with h | h
    · simp only [List.cons_append, List.cons.injEq] at e
      exact h e.1
    · have := congrArg List.length e
      simp [hexL] at this
      simp at h
      omega
  · rw [qB_yes hb] at e
    simp only [List.cons_append, List.nil_append, List.cons.injEq] at e
    rw [← e.1, hp] at hb
    cases hb
end

section
open Go Go.RowKit Go.PlainAid

def UnqE (s : ByteArray) (w : World) (e : Ending) (w' : World) : Prop := ∃ (t : ByteArray) (ok : Bool), e = .returned (.tuple #[.string t, .bool ok]) ∧ UnqR s t ok ∧ Below w.heap.size w w'
theorem data_bk4 (s : ByteArray) : (⟨s.data.toList.toArray⟩ : ByteArray) = s := by
  obtain ⟨⟨l⟩⟩ := s
  rfl
theorem qS_eq {u s : ByteArray} (h : qW u.data.toList = s.data.toList) : qS u = s := by
  unfold qS
  rw [h]
theorem eq_qS {u s : ByteArray} (h : qS u = s) : qW u.data.toList = s.data.toList := by
  rw [← h]
  rfl
theorem str_of {s : ByteArray} {l : List UInt8} (h : s.data.toList = l) : s.toList = l := (ByteArray.toList_eq s).trans h
theorem lit_37 {s : ByteArray} (h : s.data.toList ≠ [37]) : (s.toList == [37]) = false := by
  rw [ByteArray.toList_eq]
  simp [h]
def szV : Value → Nat | .string z => z.size | _ => 0
end

section
open Go Go.RowKit Go.PlainAid

/-- whatever text the word is of, it begins with what was read -/
def Lse (l r : List UInt8) (i : Nat) : Prop := ∀ u, qL u = l → ∃ t, u = r ++ t ∧ l.drop i = qL t
theorem Lse.plain {l r : List UInt8} {i : Nat} (h : Lse l r i) (hi : i < l.length) (hb : l[i] ≠ 37) : Lse l (r ++ [l[i]]) (i + 1) := fun u hu => by
  obtain ⟨t, rfl, h2⟩ := h u hu
  rw [List.drop_eq_getElem_cons hi] at h2
  cases t with
  | nil => cases h2
  | cons b t =>
    rw [qL_cons] at h2
    cases hp : plC b
    · rw [qB_no hp] at h2
      simp only [List.cons_append, List.cons.injEq] at h2
      exact absurd h2.1 hb
    · rw [qB_yes hp] at h2
      simp only [List.cons_append, List.nil_append, List.cons.injEq] at h2
      exact ⟨t, by rw [h2.1]; simp, h2.2⟩
theorem Lse.dash {l r : List UInt8} {i : Nat} (h : Lse l r i) (hi : i + 2 < l.length) (h37 : l[i] = 37) {b : UInt8} (hb : hexL b = [l[i + 1], l[i + 2]]) : Lse l (r ++ [b]) (i + 3) := fun u hu => by
  obtain ⟨t, rfl, h2⟩ := h u hu
  rw [List.drop_eq_getElem_cons (by omega), List.drop_eq_getElem_cons (i := i + 1) (by omega), List.drop_eq_getElem_cons (i := i + 1 + 1) hi, h37] at h2
  cases t with
  | nil => cases h2
  | cons d t =>
    rw [qL_cons] at h2
    cases hp : plC d
    · rw [qB_no hp] at h2
      unfold hexL at h2
      simp only [List.cons_append, List.nil_append, List.cons.injEq, true_and] at h2
      have : d = b := hexL_inj (by rw [hb]; unfold hexL; rw [h2.1, h2.2.1])
      subst this
      exact ⟨t, by simp, h2.2.2⟩
    · rw [qB_yes hp] at h2
      simp only [List.cons_append, List.nil_append, List.cons.injEq] at h2
      rw [← h2.1, pl37] at hp
      cases hp
theorem Lse.bad {l r : List UInt8} {i : Nat} (h : Lse l r i) (hi : i < l.length) (h37 : l[i] = 37) (hb : l.length ≤ i + 2 ∨ ∃ hi : i + 2 < l.length, ∀ b, hexL b ≠ [l[i + 1], l[i + 2]]) (u : List UInt8) : qL u ≠ l := fun hu => by
  obtain ⟨t, rfl, h2⟩ := h u hu
  cases t with
  | nil =>
    rw [List.drop_eq_getElem_cons hi] at h2
    cases h2
  | cons d t =>
    rw [qL_cons] at h2
    cases hp : plC d
    · rw [qB_no hp] at h2
      unfold hexL at h2
      rcases hb with hb | ⟨hi2, hb⟩
      · have := congrArg List.length h2
        simp at this
        omega
      · rw [List.drop_eq_getElem_cons (by omega), List.drop_eq_getElem_cons (i := i + 1) (by omega), List.drop_eq_getElem_cons (i := i + 1 + 1) hi2, h37] at h2
        simp only [List.cons_append, List.nil_append, List.cons.injEq, true_and] at h2
        exact hb d (by unfold hexL; rw [h2.1, h2.2.1])
    · rw [qB_yes hp, List.drop_eq_getElem_cons hi, h37] at h2
      simp only [List.cons_append, List.nil_append, List.cons.injEq] at h2
      rw [← h2.1, pl37] at hp
      cases hp
theorem no_qS {s : ByteArray} {l : List UInt8} (hl : s.data.toList = l) (h37 : l ≠ [37]) (h : ∀ u, qL u ≠ l) (u : ByteArray) : qS u ≠ s := fun hu => by
  have e := eq_qS hu
  rw [hl] at e
  unfold qW at e
  by_cases he : u.data.toList = []
  · rw [if_pos he] at e; exact h37 e.symm
  · rw [if_neg he] at e; exact h _ e
end
end Go.Proofs.YtminoofghdpomaaDoor
