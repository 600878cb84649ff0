/- Layer 29: a number's digits: how many, which bytes, and read again. Plain theorems; no program is named. -/
import Derived.Test.YtpohgehojmeodaaDoorTa8
import Derived.Test.YtpohgehojmeodaaDoorTs0
namespace Go.Proofs.YtpohgehojmeodaaDoor
set_option linter.unusedVariables false
set_option linter.unusedSimpArgs false
open Go.RowKit Go.PlainAid

theorem dig_val {d : Nat} (h : d < 10) : ((48 + d.toUInt8 : UInt8).toNat : Int) = 48 + (d : Int) := by
  have : d = 0 ∨ d = 1 ∨ d = 2 ∨ d = 3 ∨ d = 4 ∨ d = 5 ∨ d = 6 ∨ d = 7 ∨ d = 8 ∨ d = 9 := by omega
  rcases this with rfl | rfl | rfl | rfl | rfl | rfl | rfl | rfl | rfl | rfl <;> decide
theorem bt_dec (l : List UInt8) (k : Nat) : bt ⟨l.toArray⟩ k = match l[k]? with | some c => (c.toNat : Int) | none => 0 := by
  rw [bt_list]
  rfl
theorem decL_dig : ∀ (n : Nat) (c : UInt8), c ∈ decL n → 48 ≤ (c.toNat : Int) ∧ (c.toNat : Int) ≤ 57 := by
  intro n
  induction n using Nat.strongRecOn with
  | ind n ih =>
    intro c hc
    by_cases h : n < 10
    · rw [decL_small h] at hc
      simp only [List.mem_singleton] at hc
      rw [hc, dig_val h]
      omega
    · rw [decL_more h, List.mem_append] at hc
      rcases hc with hc | hc
      · exact ih (n / 10) (by omega) c hc
      · simp only [List.mem_singleton] at hc
        rw [hc, dig_val (by omega)]
        omega
theorem natG_cong {f g : Nat → Int} {most : Int} {k : Nat} (h : ∀ i, i < k → f i = g i) : natG f most k = natG g most k := by
  induction k with
  | zero => rfl
  | succ k ih =>
    simp only [natG]
    rw [ih fun i hi => h i (by omega), h k (by omega)]
theorem dec_natG (most : Int) : ∀ n : Nat, (n : Int) ≤ most → natG (bt (decS n)) most (decL n).length = some (n : Int) := by
  intro n
  induction n using Nat.strongRecOn with
  | ind n ih =>
    intro hm
    by_cases h : n < 10
    · have hb : bt (decS n) 0 = 48 + (n : Int) := by
        unfold decS
        rw [bt_dec, decL_small h]
        exact dig_val h
      rw [decL_small h]
      have := natG_yes (f := bt (decS n)) (most := most) (n := 0) (k := 0) rfl (by omega) (by omega) (by omega)
      rw [hb] at this
      show natG (bt (decS n)) most (0 + 1) = _
      rw [this]
      congr 1
      omega
    · have hq := ih (n / 10) (by omega) (by omega)
      have hl : (decL n).length = (decL (n / 10)).length + 1 := by rw [decL_more h]; simp
      have hc : natG (bt (decS n)) most (decL (n / 10)).length = some ((n / 10 : Nat) : Int) := by
        rw [← hq]
        refine natG_cong fun i hi => ?_
        unfold decS
        rw [bt_dec, bt_dec, decL_more h, List.getElem?_append_left hi]
      have hb : bt (decS n) (decL (n / 10)).length = 48 + ((n % 10 : Nat) : Int) := by
        unfold decS
        rw [bt_dec, decL_more h, List.getElem?_append_right (Nat.le_refl _), Nat.sub_self]
        exact dig_val (by omega)
      rw [hl]
      have := natG_yes hc (by omega) (by omega) (by omega)
      rw [this, hb]
      congr 1
      omega
theorem decS_size (n : Nat) : (decS n).size = (decL n).length := by
  unfold decS
  show (decL n).toArray.size = _
  simp
theorem dec_nat {n : Nat} (h : (n : Int) ≤ MX) : natN (decS n) MX = (n : Int) ∧ natB (decS n) MX = true := by
  refine nat_yes (h0 := ?_) (h := ?_)
  · rw [decS_size]
    exact (decL_len (n + 1) n (by omega) (by exact Nat.lt_of_lt_of_le (Nat.lt_pow_self (by decide)) (Nat.pow_le_pow_right (by decide) (by omega)))).2
  · rw [decS_size]
    exact dec_natG MX n h
theorem dec_small {n : Nat} (h : (n : Int) ≤ MX) : (decS n).size ≤ 100 := by
  rw [decS_size]
  have := (decL_len 16 n (by omega) (by unfold MX at h; omega)).1
  omega
theorem dec_bt (n i : Nat) (hi : i < (decS n).size) : 48 ≤ bt (decS n) i ∧ bt (decS n) i ≤ 57 := by
  rw [decS_size] at hi
  unfold decS
  rw [bt_dec, List.getElem?_eq_getElem hi]
  exact decL_dig n _ (List.getElem_mem hi)
theorem dec_val (n : Nat) : valB (decS n) = true := val_yes fun i hi => by
  have := dec_bt n i hi
  exact ⟨by omega, by omega, by omega, fun h => by omega⟩
end Go.Proofs.YtpohgehojmeodaaDoor
