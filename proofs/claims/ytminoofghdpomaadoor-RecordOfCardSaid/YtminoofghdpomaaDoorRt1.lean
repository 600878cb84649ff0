/- Layer 41: a record's line; plain. -/
import Derived.Test.YtminoofghdpomaaDoorRc1
import Derived.Test.YtminoofghdpomaaDoorHea1
import Derived.Test.YtminoofghdpomaaDoorKn6
import Derived.Test.YtminoofghdpomaaDoorDx6
import Derived.Test.YtminoofghdpomaaDoorN5
namespace Go.Proofs.YtminoofghdpomaaDoor
set_option linter.unusedVariables false
set_option linter.unusedSimpArgs false
open Go.RowKit Go.PlainAid

def FRM : ByteArray := ⟨#[102, 114, 97, 109, 101]⟩
/-- May a record be? -/
def RcP (a t fl st le k : Int) : Prop := (a = 0 ∨ a = 1) ∧ (1 ≤ k ∧ k ≤ 4) ∧ ((t = -1 ∧ a = 0 ∧ fl = 0 ∧ st = 0 ∧ le = 24) ∨ (t ≠ -1 ∧ HdR le t fl st))
def rcW (a t fl st le k : Int) : List ByteArray := [FRM, sideS a, nameT t, intS fl, intS st, intS le, kindS k]
def rcT (a t fl st le k : Int) : ByteArray := jnS ⟨#[32]⟩ (rcW a t fl st le k)
theorem RcP.bd {a t fl st le k : Int} (h : RcP a t fl st le k) : (a = 0 ∨ a = 1) ∧ (k = 1 ∨ k = 2 ∨ k = 3 ∨ k = 4) ∧ (-1 ≤ t ∧ t ≤ 255) ∧ (0 ≤ fl ∧ fl ≤ 255) ∧ (0 ≤ st ∧ st ≤ 2147483647) ∧ (0 ≤ le ∧ le ≤ 16777215) := by
  obtain ⟨h1, h2, h3⟩ := h
  refine ⟨h1, by omega, ?_⟩
  rcases h3 with ⟨rfl, _, rfl, rfl, rfl⟩ | ⟨_, h4, h5, h6, h7⟩
  · omega
  · omega
theorem wd_of {x : ByteArray} (h0 : 0 < x.size) (h : ∀ c ∈ x.data.toList, c ≠ 32 ∧ c ≠ 10) : wdB x = true := by
  unfold wdB
  have e1 : x.data.toList.isEmpty = false := by
    cases hl : x.data.toList with
    | nil =>
      rw [Lib.size_eq, hl] at h0
      exact absurd h0 (by simp)
    | cons a l => rfl
  have e2 : spL x.data.toList = false := by
    cases hs : spL x.data.toList with
    | false => rfl
    | true =>
      unfold spL at hs
      obtain ⟨c, hc, e⟩ := List.any_eq_true.1 hs
      unfold spC at e
      have := h c hc
      simp only [Bool.or_eq_true, beq_iff_eq] at e
      rcases e with e | e
      · exact absurd e this.1
      · exact absurd e this.2
  rw [e1, e2]
  rfl
theorem wd_no {x : ByteArray} (h : wdB x = true) : (32 : UInt8) ∉ x.data.toList := fun hm => by
  unfold wdB at h
  simp only [Bool.and_eq_true, Bool.not_eq_true'] at h
  have h2 := h.2
  unfold spL at h2
  rw [List.any_eq_false] at h2
  exact h2 32 hm (by decide)
theorem dig_no {n : Nat} {c : UInt8} (h : c ∈ decL n) : c ≠ 32 ∧ c ≠ 10 := by
  have := decL_dig n c h
  constructor
  · rintro rfl
    exact absurd this.1 (by decide)
  · rintro rfl
    exact absurd this.1 (by decide)
theorem wd_int {u : Int} (h0 : -9223372036854775808 ≤ u) (h1 : u ≤ 9223372036854775807) : wdB (intS u) = true := by
  refine wd_of (intS_size h0 h1).1 (fun c hc => ?_)
  unfold intS at hc
  split at hc
  · rcases List.mem_cons.1 hc with rfl | h
    · decide
    · exact dig_no h
  · exact dig_no hc
theorem wd_name {t : Int} (h0 : -1 ≤ t) (h1 : t ≤ 255) : wdB (nameT t) = true ∧ (nameT t).size ≤ 1000 := by
  by_cases e : t = -1
  · subst e
    decide
  · by_cases e2 : t < 10
    · rw [nameT_known (by omega) e2]
      have : ∀ d, d < 10 → wdB (nmL.getD d ⟨#[]⟩) = true ∧ (nmL.getD d ⟨#[]⟩).size ≤ 1000 := by decide
      exact this _ (by omega)
    · rw [nameT_more (by omega) h1]
      have hs := decL_len 10 t.toNat (by omega) (by omega)
      have h5 : (⟨#[84, 89, 80, 69, 95]⟩ : ByteArray).size = 5 := rfl
      refine ⟨wd_of (by rw [ByteArray.size_append]; omega) (fun c hc => ?_), ?_⟩
      · rw [cat_data] at hc
        rcases List.mem_append.1 hc with h | h
        · have : ∀ c ∈ ([84, 89, 80, 69, 95] : List UInt8), c ≠ 32 ∧ c ≠ 10 := by decide
          exact this c h
        · exact dig_no h
      · rw [ByteArray.size_append, decS_size]
        omega
theorem wd_side {a : Int} (h : a = 0 ∨ a = 1) : wdB (sideS a) = true ∧ (sideS a).size ≤ 1000 := by
  rcases h with rfl | rfl <;> decide
theorem wd_kind {k : Int} (h : k = 1 ∨ k = 2 ∨ k = 3 ∨ k = 4) : wdB (kindS k) = true ∧ (kindS k).size ≤ 1000 := by
  rcases h with rfl | rfl | rfl | rfl <;> decide
theorem rc_words {a t fl st le k : Int} (h : RcP a t fl st le k) : ∀ x ∈ rcW a t fl st le k, wdB x = true ∧ x.size ≤ 1000 := by
  obtain ⟨h1, h2, ⟨h3, h4⟩, ⟨h5, h6⟩, ⟨h7, h8⟩, h9, h10⟩ := h.bd
  intro x hx
  simp only [rcW, List.mem_cons, List.not_mem_nil, or_false] at hx
  have hi : ∀ u : Int, 0 ≤ u → u ≤ 2147483647 → wdB (intS u) = true ∧ (intS u).size ≤ 1000 := fun u a b => ⟨wd_int (by omega) (by omega), by have := (intS_size (u := u) (by omega) (by omega)).2; omega⟩
  rcases hx with rfl | rfl | rfl | rfl | rfl | rfl | rfl
  · decide
  · exact wd_side h1
  · exact wd_name h3 h4
  · exact hi _ h5 (by omega)
  · exact hi _ h7 h8
  · exact hi _ h9 (by omega)
  · exact wd_kind h2
theorem rc_parts {a t fl st le k : Int} (h : RcP a t fl st le k) : pcB 32 (rcT a t fl st le k) = rcW a t fl st le k :=
  pcB_join (by simp [rcW]) (fun x hx => wd_no (rc_words h x hx).1)
theorem side_inj {a b : Int} (h : a = 0 ∨ a = 1) (k : b = 0 ∨ b = 1) (e : sideS a = sideS b) : a = b := by
  rcases h with rfl | rfl <;> rcases k with rfl | rfl
  · rfl
  · exact absurd e (by decide)
  · exact absurd e (by decide)
  · rfl
theorem kind_inj {a b : Int} (h : a = 1 ∨ a = 2 ∨ a = 3 ∨ a = 4) (k : b = 1 ∨ b = 2 ∨ b = 3 ∨ b = 4) (e : kindS a = kindS b) : a = b := by
  rcases h with rfl | rfl | rfl | rfl <;> rcases k with rfl | rfl | rfl | rfl <;> first | rfl | exact absurd e (by decide)
/-- What a line reads as: a record that may be whose line it is, or none. -/
def RcR (s : ByteArray) (a t fl st le k : Int) (ok : Bool) : Prop :=
  (ok = true ∧ RcP a t fl st le k ∧ s = rcT a t fl st le k) ∨ (ok = false ∧ (a = 0 ∧ t = 0 ∧ fl = 0 ∧ st = 0 ∧ le = 0 ∧ k = 0) ∧ ∀ a' t' fl' st' le' k', RcP a' t' fl' st' le' k' → s ≠ rcT a' t' fl' st' le' k')
theorem rc_inj {a t fl st le k a' t' fl' st' le' k' : Int} (h : RcP a t fl st le k) (q : RcP a' t' fl' st' le' k') (e : rcT a t fl st le k = rcT a' t' fl' st' le' k') : a = a' ∧ t = t' ∧ fl = fl' ∧ st = st' ∧ le = le' ∧ k = k' := by
  have e2 := congrArg (pcB 32) e
  rw [rc_parts h, rc_parts q] at e2
  simp only [rcW, List.cons.injEq, and_true, true_and] at e2
  obtain ⟨e3, e4, e5, e6, e7, e8⟩ := e2
  obtain ⟨h1, h2, ⟨h3, h4⟩, ⟨h5, h6⟩, ⟨h7, h8⟩, h9, h10⟩ := h.bd
  obtain ⟨q1, q2, ⟨q3, q4⟩, ⟨q5, q6⟩, ⟨q7, q8⟩, q9, q10⟩ := q.bd
  exact ⟨side_inj h1 q1 e3, name_inj h3 h4 q3 q4 e4, intS_inj3 (by omega) (by omega) (by omega) (by omega) e5, intS_inj3 (by omega) (by omega) (by omega) (by omega) e6, intS_inj3 (by omega) (by omega) (by omega) (by omega) e7, kind_inj h2 q2 e8⟩
theorem RcR.same {s : ByteArray} {a t fl st le k a' t' fl' st' le' k' : Int} {o o' : Bool} (h : RcR s a t fl st le k o) (q : RcR s a' t' fl' st' le' k' o') : (a = a' ∧ t = t' ∧ fl = fl' ∧ st = st' ∧ le = le' ∧ k = k') ∧ o = o' := by
  rcases h with ⟨rfl, h1, h2⟩ | ⟨rfl, ⟨rfl, rfl, rfl, rfl, rfl, rfl⟩, h2⟩ <;> rcases q with ⟨rfl, q1, q2⟩ | ⟨rfl, ⟨rfl, rfl, rfl, rfl, rfl, rfl⟩, q2⟩
  · exact ⟨rc_inj h1 q1 (h2.symm.trans q2), rfl⟩
  · exact absurd h2 (q2 _ _ _ _ _ _ h1)
  · exact absurd q2 (h2 _ _ _ _ _ _ q1)
  · exact ⟨⟨rfl, rfl, rfl, rfl, rfl, rfl⟩, rfl⟩
end Go.Proofs.YtminoofghdpomaaDoor
