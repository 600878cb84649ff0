/- Layer 9: the least that is not yet there; plain. -/
import Derived.Test.YtbkdegjkjjdcdaaDoorFb4
namespace Go.Proofs.YtbkdegjkjjdcdaaDoor
set_option linter.unusedVariables false
set_option linter.unusedSimpArgs false
open Go.RowKit Go.PlainAid

/-- What the search over the first k has found: the least right one that O lacks; the fault of noughts, if none. -/
def BestR (L O : List (Int × Int)) (b : Int × Int) : Prop :=
  (b = (0, 0) ∧ ∀ p ∈ L, rP p = true → p ∈ O) ∨ (rP b = true ∧ b ∈ L ∧ b ∉ O ∧ ∀ p ∈ L, rP p = true → p ∉ O → ¬ LtP p b)
theorem rP_zero : rP (0, 0) = false := by decide
theorem BestR.nil (O : List (Int × Int)) : BestR [] O (0, 0) := .inl ⟨rfl, fun p h => absurd h (by simp)⟩
theorem BestR.not_right {L O : List (Int × Int)} {b x : Int × Int} (h : BestR L O b) (hx : rP x = false) : BestR (L ++ [x]) O b := by
  rcases h with ⟨rfl, h⟩ | ⟨h1, h2, h3, h4⟩
  · refine .inl ⟨rfl, fun p hp hr => ?_⟩
    rcases List.mem_append.1 hp with a | a
    · exact h p a hr
    · rw [List.mem_singleton.1 a, hx] at hr
      cases hr
  · refine .inr ⟨h1, List.mem_append_left _ h2, h3, fun p hp hr hn => ?_⟩
    rcases List.mem_append.1 hp with a | a
    · exact h4 p a hr hn
    · rw [List.mem_singleton.1 a, hx] at hr
      cases hr
theorem BestR.there {L O : List (Int × Int)} {b x : Int × Int} (h : BestR L O b) (hx : x ∈ O) : BestR (L ++ [x]) O b := by
  rcases h with ⟨rfl, h⟩ | ⟨h1, h2, h3, h4⟩
  · refine .inl ⟨rfl, fun p hp hr => ?_⟩
    rcases List.mem_append.1 hp with a | a
    · exact h p a hr
    · rw [List.mem_singleton.1 a]
      exact hx
  · refine .inr ⟨h1, List.mem_append_left _ h2, h3, fun p hp hr hn => ?_⟩
    rcases List.mem_append.1 hp with a | a
    · exact h4 p a hr hn
    · rw [List.mem_singleton.1 a] at hn
      exact absurd hx hn
theorem BestR.first {L O : List (Int × Int)} {b x : Int × Int} (h : BestR L O b) (hb : rP b = false) (hx : rP x = true) (ho : x ∉ O) : BestR (L ++ [x]) O x := by
  rcases h with ⟨rfl, h⟩ | ⟨h1, _⟩
  · refine .inr ⟨hx, by simp, ho, fun p hp hr hn => ?_⟩
    rcases List.mem_append.1 hp with a | a
    · exact absurd (h p a hr) hn
    · rw [List.mem_singleton.1 a]
      exact ltP_irrefl _
  · rw [hb] at h1
    cases h1
theorem BestR.less {L O : List (Int × Int)} {b x : Int × Int} (h : BestR L O b) (hb : rP b = true) (hx : rP x = true) (ho : x ∉ O) (hl : LtP x b) : BestR (L ++ [x]) O x := by
  rcases h with ⟨rfl, _⟩ | ⟨h1, h2, h3, h4⟩
  · rw [rP_zero] at hb
    cases hb
  · refine .inr ⟨hx, by simp, ho, fun p hp hr hn k => ?_⟩
    rcases List.mem_append.1 hp with a | a
    · exact h4 p a hr hn (LtP.trans k hl)
    · rw [List.mem_singleton.1 a] at k
      exact ltP_irrefl _ k
theorem BestR.not_less {L O : List (Int × Int)} {b x : Int × Int} (h : BestR L O b) (hb : rP b = true) (hl : ¬ LtP x b) : BestR (L ++ [x]) O b := by
  rcases h with ⟨rfl, _⟩ | ⟨h1, h2, h3, h4⟩
  · rw [rP_zero] at hb
    cases hb
  · refine .inr ⟨h1, List.mem_append_left _ h2, h3, fun p hp hr hn => ?_⟩
    rcases List.mem_append.1 hp with a | a
    · exact h4 p a hr hn
    · rw [List.mem_singleton.1 a]
      exact hl
/-- All is there: the search finds none. -/
theorem best_none {L : List (Int × Int)} {r : Nat} {b : Int × Int} (h : BestR L ((setL L).take r) b) (hr : (setL L).length ≤ r) : b = (0, 0) := by
  rw [List.take_of_length_le hr] at h
  rcases h with ⟨rfl, _⟩ | ⟨h1, h2, h3, _⟩
  · rfl
  · exact absurd ((setL_mem L b).2 ⟨h2, h1⟩) h3
/-- Else it finds the next. -/
theorem best_next {L : List (Int × Int)} {r : Nat} {b : Int × Int} (h : BestR L ((setL L).take r) b) (hr : r < (setL L).length) : rP b = true ∧ (setL L).take r ++ [b] = (setL L).take (r + 1) := by
  have hup := List.pairwise_iff_getElem.1 (setL_up L)
  have hx := (setL_mem L (setL L)[r]).1 (List.getElem_mem hr)
  have hno : (setL L)[r] ∉ (setL L).take r := fun hm => by
    obtain ⟨j, hj, e⟩ := List.mem_iff_getElem.1 hm
    rw [List.length_take] at hj
    rw [List.getElem_take] at e
    have := hup j r (by omega) hr (by omega)
    rw [e] at this
    exact ltP_irrefl _ this
  rcases h with ⟨rfl, h⟩ | ⟨h1, h2, h3, h4⟩
  · exact absurd (h _ hx.1 hx.2) hno
  · refine ⟨h1, ?_⟩
    have hb := (setL_mem L b).2 ⟨h2, h1⟩
    obtain ⟨j, hj, e⟩ := List.mem_iff_getElem.1 hb
    have hjr : j = r := by
      by_cases a : j < r
      · refine absurd ?_ h3
        rw [← e]
        refine List.mem_iff_getElem.2 ⟨j, by rw [List.length_take]; omega, ?_⟩
        rw [List.getElem_take]
      · by_cases a2 : r < j
        · have := hup r j hr hj a2
          rw [e] at this
          exact absurd this (h4 _ hx.1 hx.2 hno)
        · omega
    subst hjr
    rw [List.take_succ_eq_append_getElem hj, e]
end Go.Proofs.YtbkdegjkjjdcdaaDoor
