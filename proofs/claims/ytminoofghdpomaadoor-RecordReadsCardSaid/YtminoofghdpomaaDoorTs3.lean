/- A number's digits, read again. Plain theorems; no program is named. -/
import Derived.Test.YtminoofghdpomaaDoorTs0
import Derived.Test.YtminoofghdpomaaDoorMN
namespace Go.Proofs.YtminoofghdpomaaDoor
set_option linter.unusedVariables false
set_option linter.unusedSimpArgs false
open Go.RowKit Go.PlainAid

theorem dig_val {d : Nat} (h : d < 10) : ((48 + d.toUInt8 : UInt8).toNat : Int) = 48 + (d : Int) := by
  have : d = 0 ∨ d = 1 ∨ d = 2 ∨ d = 3 ∨ d = 4 ∨ d = 5 ∨ d = 6 ∨ d = 7 ∨ d = 8 ∨ d = 9 := by omega
  rcases this with rfl | rfl | rfl | rfl | rfl | rfl | rfl | rfl | rfl | rfl <;> decide
theorem bt_dec (l : List UInt8) (k : Nat) : bt ⟨l.toArray⟩ k = match l[k]? with | some c => (c.toNat : Int) | none => 0 := by
  rw [bt_list]
  rfl
theorem decL_dig : ∀ (n : Nat) (c : UInt8), c ∈ decL n → 48 ≤ (c.toNat : Int) ∧ (c.toNat : Int) ≤ 57 := by
  intro n
  induction n using Nat.strongRecOn with
  | ind n ih =>
    intro c hc
    by_cases h : n < 10
    · rw [decL_small h] at hc
      simp only [List.mem_singleton] at hc
      rw [hc, dig_val h]
      omega
    · rw [decL_more h, List.mem_append] at hc
      rcases hc with hc | hc
      · exact ih (n / 10) (by omega) c hc
      · simp only [List.mem_singleton] at hc
        rw [hc, dig_val (by omega)]
        omega
theorem natG_cong {f g : Nat → Int} {most : Int} {k : Nat} (h : ∀ i, i < k → f i = g i) : natG f most k = natG g most k := by
  induction k with
  | zero => rfl
  | succ k ih =>
    simp only [natG]
    rw [ih fun i hi => h i (by omega), h k (by omega)]
theorem dec_natG (most : Int) : ∀ n : Nat, (n : Int) ≤ most → natG (bt (decS n)) most (decL n).length = some (n : Int) := by
  intro n
  induction n using Nat.strongRecOn with
  | ind n ih =>
    intro hm
    by_cases h : n < 10
    · have hb : bt (decS n) 0 = 48 + (n : Int) := by
        unfold decS
        rw [bt_dec, decL_small h]
        exact dig_val h
      rw [decL_small h]
      have := natG_yes (f := bt (decS n)) (most := most) (n := 0) (k := 0) rfl (by omega) (by omega) (by omega)
      rw [hb] at this
      show natG (bt (decS n)) most (0 + 1) = _
      rw [this]
      congr 1
      omega
    · have hq := ih (n / 10) (by omega) (by omega)
      have hl : (decL n).length = (decL (n / 10)).length + 1 := by rw [decL_more h]; simp
      have hc : natG (bt (decS n)) most (decL (n / 10)).length = some ((n / 10 : Nat) : Int) := by
        rw [← hq]
        refine natG_cong fun i hi => ?_
        unfold decS
        rw [bt_dec, bt_dec, decL_more h, List.getElem?_append_left hi]
      have hb : bt (decS n) (decL (n / 10)).length = 48 + ((n % 10 : Nat) : Int) := by
        unfold decS
        rw [bt_dec, decL_more h, List.getElem?_append_right (Nat.le_refl _), Nat.sub_self]
        exact dig_val (by omega)
      rw [hl]
      have := natG_yes hc (by omega) (by omega) (by omega)
      rw [this, hb]
      congr 1
      omega
theorem decS_size (n : Nat) : (decS n).size = (decL n).length := by
  unfold decS
  show (decL n).toArray.size = _
  simp
theorem dec_bt (n i : Nat) (hi : i < (decS n).size) : 48 ≤ bt (decS n) i ∧ bt (decS n) i ≤ 57 := by
  rw [decS_size] at hi
  unfold decS
  rw [bt_dec, List.getElem?_eq_getElem hi]
  exact decL_dig n _ (List.getElem_mem hi)
theorem dec_natM {most : Int} {n : Nat} (h : (n : Int) ≤ most) : natN (decS n) most = (n : Int) ∧ natB (decS n) most = true := by
  refine nat_yes (h0 := ?_) (h := ?_)
  · rw [decS_size]
    exact (decL_len (n + 1) n (by omega) (by exact Nat.lt_of_lt_of_le (Nat.lt_pow_self (by decide)) (Nat.pow_le_pow_right (by decide) (by omega)))).2
  · rw [decS_size]
    exact dec_natG most n h
theorem natG_inv {f : Nat → Int} {most : Int} {k : Nat} {N : Int} (h : natG f most (k + 1) = some N) : ∃ M, natG f most k = some M ∧ 48 ≤ f k ∧ f k ≤ 57 ∧ N = 10 * M + (f k - 48) := by
  cases hk : natG f most k with
  | none => simp only [natG, hk] at h; cases h
  | some m =>
    simp only [natG, hk] at h
    split at h
    · rename_i h3
      exact ⟨m, rfl, h3.1, h3.2.1, (Option.some.inj h).symm⟩
    · cases h
theorem dig_back {c : UInt8} (h : 48 ≤ (c.toNat : Int)) (h2 : (c.toNat : Int) ≤ 57) : c = 48 + ((c.toNat : Int) - 48).toNat.toUInt8 := by
  have h3 : c.toNat = 48 ∨ c.toNat = 49 ∨ c.toNat = 50 ∨ c.toNat = 51 ∨ c.toNat = 52 ∨ c.toNat = 53 ∨ c.toNat = 54 ∨ c.toNat = 55 ∨ c.toNat = 56 ∨ c.toNat = 57 := by omega
  have e : c = UInt8.ofNat c.toNat := by simp
  rcases h3 with h | h | h | h | h | h | h | h | h | h <;> rw [h] at e <;> rw [e] <;> rfl
/-- Digits with no nought ahead are the number's own. -/
theorem canonL (l : List UInt8) (most : Int) (h0 : bt ⟨l.toArray⟩ 0 ≠ 48) : ∀ (k : Nat) (N : Int), k + 1 ≤ l.length → natG (bt ⟨l.toArray⟩) most (k + 1) = some N → 1 ≤ N ∧ l.take (k + 1) = decL N.toNat := by
  intro k
  induction k with
  | zero =>
    intro N hk h
    obtain ⟨M, hM, h1, h2, rfl⟩ := natG_inv h
    simp only [natG, Option.some.injEq] at hM
    subst hM
    cases l with
    | nil => simp at hk
    | cons c r =>
      have e : bt ⟨(c :: r).toArray⟩ 0 = (c.toNat : Int) := by rw [bt_dec]; rfl
      rw [e] at h0 h1 h2 ⊢
      refine ⟨by omega, ?_⟩
      rw [decL_small (by omega)]
      show [c] = _
      rw [show (10 * (0 : Int) + ((c.toNat : Int) - 48)).toNat = ((c.toNat : Int) - 48).toNat by omega, ← dig_back h1 h2]
  | succ k ih =>
    intro N hk h
    obtain ⟨M, hM, h1, h2, rfl⟩ := natG_inv h
    obtain ⟨i1, i2⟩ := ih M (by omega) hM
    have hl : k + 1 < l.length := by omega
    have e : bt ⟨l.toArray⟩ (k + 1) = ((l[k + 1]'hl).toNat : Int) := by rw [bt_dec, List.getElem?_eq_getElem hl]
    rw [e] at h1 h2 ⊢
    refine ⟨by omega, ?_⟩
    have hn : (10 * M + (((l[k + 1]'hl).toNat : Int) - 48)).toNat = 10 * M.toNat + (((l[k + 1]'hl).toNat : Int) - 48).toNat := by omega
    rw [hn, decL_more (by omega), show (10 * M.toNat + (((l[k + 1]'hl).toNat : Int) - 48).toNat) / 10 = M.toNat by omega, show (10 * M.toNat + (((l[k + 1]'hl).toNat : Int) - 48).toNat) % 10 = (((l[k + 1]'hl).toNat : Int) - 48).toNat by omega, ← i2, ← dig_back h1 h2]
    rw [List.take_add_one, List.getElem?_eq_getElem hl]
    rfl
theorem decL_head (n : Nat) (h : 1 ≤ n) : (decL n).head? ≠ some 48 := by
  induction n using Nat.strongRecOn with
  | ind n ih =>
    by_cases hs : n < 10
    · have : n = 1 ∨ n = 2 ∨ n = 3 ∨ n = 4 ∨ n = 5 ∨ n = 6 ∨ n = 7 ∨ n = 8 ∨ n = 9 := by omega
      rw [decL_small hs]
      rcases this with rfl | rfl | rfl | rfl | rfl | rfl | rfl | rfl | rfl <;> decide
    · rw [decL_more hs]
      have := ih (n / 10) (by omega) (by omega)
      cases hd : decL (n / 10) with
      | nil => have := (decL_len (n / 10 + 1) (n / 10) (by omega) (by exact Nat.lt_of_lt_of_le (Nat.lt_pow_self (by decide)) (Nat.pow_le_pow_right (by decide) (by omega)))).2; rw [hd] at this; simp at this
      | cons c r => rw [hd] at this; simpa using this
end Go.Proofs.YtminoofghdpomaaDoor
