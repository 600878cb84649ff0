/- Wd5, Wd6, Wd7 in one text. -/
import Derived.Test.YtminoofghdpomaaDoorN2
namespace Go.Proofs.YtminoofghdpomaaDoor
set_option linter.unusedVariables false
set_option linter.unusedSimpArgs false
section
open Go Go.RowKit Go.PlainAid

/-- What digits are read as. -/
def UnhR (l : List UInt8) (r : List UInt8) (ok : Bool) : Prop := (ok = true ∧ hxL r = l) ∨ (ok = false ∧ r = [] ∧ ∀ t, hxL t ≠ l)
def UnhE (l : List UInt8) (w : World) (e : Ending) (w' : World) : Prop := ∃ (A : Option Addr) (k c : Nat) (f : Nat → Int) (r : List UInt8) (ok : Bool), e = .returned (.tuple #[.slice A k c, .bool ok]) ∧ k = r.length ∧ (∀ i (h : i < r.length), f i = (r[i].toNat : Int)) ∧ Rd .u8 w' A k c f ∧ UnhR l r ok ∧ Below w.heap.size w w'
theorem hxL_cons (b : UInt8) (l : List UInt8) : hxL (b :: l) = hexL b ++ hxL l := by simp [hxL]
theorem hexL_len (b : UInt8) : (hexL b).length = 2 := rfl
/-- Behind what was read. -/
theorem hxL_front : ∀ {s t left : List UInt8}, hxL s ++ left = hxL t → ∃ r, t = s ++ r ∧ left = hxL r
  | [], t, left, h => ⟨t, rfl, by simpa [hxL] using h⟩
  | b :: s, t, left, h => by
    cases t with
    | nil =>
      rw [hxL_cons] at h
      simp [hxL, hexL] at h
    | cons d t =>
      rw [hxL_cons, hxL_cons, List.append_assoc] at h
      have hb := List.append_inj h rfl
      obtain rfl := hexL_inj hb.1
      obtain ⟨r, rfl, h3⟩ := hxL_front hb.2
      exact ⟨r, rfl, h3⟩
theorem hxL_inj {s t : List UInt8} (h : hxL s = hxL t) : s = t := by
  obtain ⟨r, rfl, h2⟩ := hxL_front (s := s) (t := t) (left := []) (by simpa using h)
  cases r with
  | nil => simp
  | cons b r => rw [hxL_cons] at h2; simp [hexL] at h2
theorem UnhR.same {l r t : List UInt8} {a b : Bool} (h : UnhR l r a) (q : UnhR l t b) : r = t ∧ a = b := by
  rcases h with ⟨rfl, h1⟩ | ⟨rfl, rfl, h1⟩ <;> rcases q with ⟨rfl, q1⟩ | ⟨rfl, rfl, q1⟩
  · exact ⟨hxL_inj (h1.trans q1.symm), rfl⟩
  · exact absurd h1 (q1 _)
  · exact absurd q1 (h1 _)
  · exact ⟨rfl, rfl⟩
theorem UnhR.own {l r : List UInt8} {a : Bool} (h : UnhR (hxL l) r a) : r = l ∧ a = true := by
  rcases h with ⟨rfl, h1⟩ | ⟨rfl, rfl, h1⟩
  · exact ⟨hxL_inj h1, rfl⟩
  · exact absurd rfl (h1 l)
theorem hx_step {l s : List UInt8} {k : Nat} (h : hxL s = l.take (2 * k)) (hk : 2 * k + 1 < l.length) {b : UInt8} (hb : hexL b = [l[2 * k]'(by omega), l[2 * k + 1]]) : hxL (s ++ [b]) = l.take (2 * (k + 1)) := by
  rw [hxL_snoc, h, hb, show 2 * (k + 1) = 2 * k + 1 + 1 by omega, List.take_add_one (i := 2 * k + 1), List.take_add_one (i := 2 * k), List.getElem?_eq_getElem (by omega), List.getElem?_eq_getElem hk]
  simp only [Option.toList_some, List.append_assoc, List.cons_append, List.nil_append]
theorem hx_stop {l s : List UInt8} {k : Nat} (h : hxL s = l.take (2 * k)) (hk : 2 * k + 1 < l.length) (hb : ∀ b, hexL b ≠ [l[2 * k]'(by omega), l[2 * k + 1]]) (t : List UInt8) : hxL t ≠ l := fun e => by
  have h1 : hxL s ++ l.drop (2 * k) = hxL t := by rw [h, List.take_append_drop, e]
  obtain ⟨r, rfl, h2⟩ := hxL_front h1
  cases r with
  | nil =>
    have := congrArg List.length h2
    simp [hxL] at this
    omega
  | cons b r =>
    rw [hxL_cons, List.drop_eq_getElem_cons (by omega), List.drop_eq_getElem_cons hk] at h2
    refine hb b ?_
    unfold hexL at h2 ⊢
    simp only [List.cons_append, List.nil_append, List.cons.injEq] at h2
    rw [h2.1, h2.2.1]
theorem hx_odd {l : List UInt8} (h : l.length % 2 = 1) (t : List UInt8) : hxL t ≠ l := fun e => by
  have := congrArg List.length e
  rw [hxL_len] at this
  omega
def upB (r : List UInt8) (i : Nat) : Int := if i < r.length then btL r i else 0
theorem upB_set {r : List UInt8} {b : UInt8} {k : Nat} {c : Int} (hk : r.length = k) (hc : (b.toNat : Int) = c) (i : Nat) : (if i = k then c else upB r i) = upB (r ++ [b]) i := by
  unfold upB
  rw [List.length_append, hk]
  by_cases e : i = k
  · subst e
    rw [if_pos rfl, if_pos (by simp), btL_at (by simp; omega), List.getElem_append_right (by omega), ← hc]
    simp [hk]
  · rw [if_neg e]
    by_cases e2 : i < k
    · rw [if_pos e2, if_pos (by simp; omega), btL_at (by omega), btL_at (by simp; omega), List.getElem_append_left (by omega)]
    · rw [if_neg e2, if_neg (by simp; omega)]
end

section
open Go Go.RowKit Go.PlainAid

end

section
open Go Go.RowKit Go.PlainAid

end
end Go.Proofs.YtminoofghdpomaaDoor
