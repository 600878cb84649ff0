/- Layer 36: rows of eight bytes; how often each is there. -/
import Derived.Test.YteikpdolickkaaaPi5
namespace Go.Proofs.Yteikpdolickkaaa
open Go.RowKit Go.Maps Go.Deep

def appL (n : Nat) (L : Nat → Nat → Int) (F : Nat → Int) : Nat → Nat → Int := fun i => if i < n then L i else F
def delL (i : Nat) (L : Nat → Nat → Int) : Nat → Nat → Int := fun k => if k < i then L k else L (k + 1)
/-- How often each is there among the first n. -/
def cntA (L : Nat → Nat → Int) : Nat → List Int → Int
  | 0, _ => 0
  | n + 1, k => cntA L n k + if kl (L n) = k then 1 else 0
theorem cntA_bounds (L : Nat → Nat → Int) (n : Nat) (k : List Int) : 0 ≤ cntA L n k ∧ cntA L n k ≤ n := by
  induction n with
  | zero => exact ⟨Int.le_refl _, Int.le_refl _⟩
  | succ n ih =>
    show 0 ≤ cntA L n k + _ ∧ cntA L n k + _ ≤ _
    split <;> omega
theorem cntA_mem (L : Nat → Nat → Int) {n i : Nat} (h : i < n) : 0 < cntA L n (kl (L i)) := by
  induction n with
  | zero => omega
  | succ n ih =>
    show 0 < cntA L n (kl (L i)) + _
    have := (cntA_bounds L n (kl (L i))).1
    by_cases e : i = n
    · rw [e, if_pos rfl]
      rw [e] at this
      omega
    · have := ih (by omega)
      split <;> omega
theorem cntA_congr {L M : Nat → Nat → Int} {n : Nat} (h : ∀ i, i < n → kl (L i) = kl (M i)) : cntA L n = cntA M n := by
  induction n with
  | zero => rfl
  | succ n ih =>
    funext k
    show cntA L n k + _ = cntA M n k + _
    rw [ih fun i hi => h i (by omega), h n (by omega)]
theorem cntA_app (L : Nat → Nat → Int) (n : Nat) (F : Nat → Int) : cntA (appL n L F) (n + 1) = updB (cntA L n) (kl F) (cntA L n (kl F) + 1) := by
  funext k
  show cntA (appL n L F) n k + (if kl (appL n L F n) = k then 1 else 0) = _
  rw [cntA_congr (M := L) fun i hi => by rw [appL, if_pos hi], show appL n L F n = F by rw [appL, if_neg (Nat.lt_irrefl _)]]
  unfold updB
  by_cases e : k = kl F
  · subst e; rw [if_pos rfl, if_pos rfl]
  · rw [if_neg (fun h => e h.symm), if_neg e]; omega
theorem cntA_del (L : Nat → Nat → Int) {n i : Nat} (h : i < n + 1) : cntA (delL i L) n = updB (cntA L (n + 1)) (kl (L i)) (cntA L (n + 1) (kl (L i)) - 1) := by
  have key : ∀ n, i < n + 1 → ∀ k, cntA (delL i L) n k = cntA L (n + 1) k - if kl (L i) = k then 1 else 0 := by
    intro n
    induction n with
    | zero =>
      intro hi k
      obtain rfl : i = 0 := by omega
      show (0 : Int) = (0 + if kl (L 0) = k then 1 else 0) - _
      split <;> rfl
    | succ n ih =>
      intro hi k
      show cntA (delL i L) n k + (if kl (delL i L n) = k then 1 else 0) = (cntA L (n + 1) k + if kl (L (n + 1)) = k then 1 else 0) - _
      by_cases e : i = n + 1
      · subst e
        rw [cntA_congr (L := delL (n + 1) L) (M := L) fun j hj => by rw [delL, if_pos (by omega)], show delL (n + 1) L n = L n by rw [delL, if_pos (by omega)]]
        show _ = (cntA L n k + (if kl (L n) = k then 1 else 0) + _) - _
        omega
      · rw [ih (by omega), show delL i L n = L (n + 1) by rw [delL, if_neg (by omega)]]
        omega
  funext k
  rw [key n h k]
  unfold updB
  by_cases e : k = kl (L i)
  · subst e; rw [if_pos rfl, if_pos rfl]
  · rw [if_neg (fun h => e h.symm), if_neg e]; omega
/-- Their cells. -/
def celA (L : Nat → Nat → Int) (i : Nat) : Value := .int .u8 (L (i / 8) (i % 8))
theorem celA_one (L : Nat → Nat → Int) (i : Nat) : (celA L i).oneCell' = true := rfl
theorem celA_at (L : Nat → Nat → Int) (k j : Nat) (h : j < 8) : celA L (k * 8 + j) = .int .u8 (L k j) := by
  unfold celA
  rw [show (k * 8 + j) / 8 = k by omega, show (k * 8 + j) % 8 = j by omega]
theorem celA_app (L : Nat → Nat → Int) (n : Nat) (F : Nat → Int) (G : Nat → Value) (hG : ∀ j, j < 8 → G j = .int .u8 (F j)) : ∀ i, i < (n + 1) * 8 → catV (n * 8) (celA L) G i = celA (appL n L F) i := by
  intro i hi
  unfold catV
  by_cases h : i < n * 8
  · rw [if_pos h]
    unfold celA
    rw [appL, if_pos (by omega)]
  · rw [if_neg h, hG _ (by omega)]
    unfold celA
    rw [appL, if_neg (by omega), show i % 8 = i - n * 8 by omega]
theorem celA_del (L : Nat → Nat → Int) (n q : Nat) : ∀ i, i < n * 8 → catV (q * 8) (celA L) (fun j => celA L ((q + 1) * 8 + j)) i = celA (delL q L) i := by
  intro i hi
  unfold catV
  by_cases h : i < q * 8
  · rw [if_pos h]
    unfold celA
    rw [delL, if_pos (by omega)]
  · rw [if_neg h]
    unfold celA
    rw [delL, if_neg (by omega)]
    show Value.int .u8 (L (((q + 1) * 8 + (i - q * 8)) / 8) (((q + 1) * 8 + (i - q * 8)) % 8)) = _
    rw [show ((q + 1) * 8 + (i - q * 8)) / 8 = i / 8 + 1 by omega, show ((q + 1) * 8 + (i - q * 8)) % 8 = i % 8 by omega]
end Go.Proofs.Yteikpdolickkaaa
