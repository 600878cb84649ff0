/- Layer 10: pieces whose bytes lie apart; what Join makes, as a function. -/
import Derived.Test.YtpnjamomkpkkeaaCk2
namespace Go.Proofs.Ytpnjamomkpkkeaa
set_option linter.unusedVariables false
set_option linter.unusedSimpArgs false
open Go.RowKit

/-- Pieces, and no two of them have their bytes in one block. -/
structure PcD (B : Nat) (w : World) (v : Value) (n : Nat) (X : Nat → Int) (V : Nat → Value) (N : Nat → Nat) (G : Nat → Nat → Int) : Prop where
  pcs : PcS B w v n X V N G
  apart : ∀ i j, i < n → j < n → i ≠ j → (V i).ownBlock = none ∨ (V i).ownBlock ≠ (V j).ownBlock
section
variable {B : Nat} {w w' : World} {v : Value} {n : Nat} {X : Nat → Int} {V : Nat → Value} {N : Nat → Nat} {G : Nat → Nat → Int}
theorem PcD.nil (B : Nat) (w : World) (X : Nat → Int) (V : Nat → Value) (N : Nat → Nat) (G : Nat → Nat → Int) : PcD B w (.slice none 0 0) 0 X V N G := ⟨PcS.nil _ _ _ _ _ _, fun i j hi => absurd hi (by omega)⟩
theorem PcD.below (h : PcD B w v n X V N G) (hb : Below w.heap.size w w') : PcD B w' v n X V N G := ⟨h.pcs.below hb, h.apart⟩
theorem PcD.congr {X' : Nat → Int} {N' : Nat → Nat} {G' : Nat → Nat → Int} (h : PcD B w v n X V N G) (hX : ∀ j, j < n → X j = X' j) (hN : ∀ j, j < n → N j = N' j) (hG : ∀ j, j < n → G j = G' j) : PcD B w v n X' V N' G' := ⟨h.pcs.congr hX hN hG, h.apart⟩
/-- A new piece, whose bytes lie behind all that there was. -/
theorem PcD.push {v' y : Value} {m : Nat} {x : Int} {g : Nat → Int} {w0 : World} (h : PcD B w v n X V N G) (h0 : PcS B w0 v n X V N G) (hy : Own .u8 5 B w y m g) (hnew : Own .u8 5 w0.heap.size w y m g)
    (hown : OwnV 2 52 B w' v' (n + 1) (catV (n * 2) (pcF X V) (litC2 x y))) (hg : w.grownBy w' v.ownBlock) : PcD B w' v' (n + 1) (upd X n x) (upd V n y) (upd N n m) (upd G n g) := by
  refine ⟨h.pcs.push hy hown hg, fun i j hi hj hne => ?_⟩
  have old : ∀ i, i < n → (V i).ownBlock = none ∨ (V i).ownBlock ≠ y.ownBlock := by
    intro i hi
    cases hb : (V i).ownBlock with
    | none => exact .inl rfl
    | some p =>
      refine .inr fun he => ?_
      have l1 := (World.ownsRow.lt (h0.bytes i hi) p hb).2
      have l2 := (World.ownsRow.lt hnew p he.symm).1
      omega
  unfold upd
  by_cases h1 : i = n
  · by_cases h2 : j = n
    · omega
    · rw [if_pos h1, if_neg h2]
      rcases old j (by omega) with e | e
      · cases hy' : y.ownBlock with
        | none => exact .inl rfl
        | some p => exact .inr (by rw [e]; simp)
      · exact .inr (Ne.symm e)
  · by_cases h2 : j = n
    · rw [if_neg h1, if_pos h2]
      exact old i (by omega)
    · rw [if_neg h1, if_neg h2]
      exact h.apart i j (by omega) (by omega) hne
end

/-- What has been joined. -/
structure JS where
  m : Nat
  X : Nat → Int
  N : Nat → Nat
  G : Nat → Nat → Int
def JS.step (s : JS) (x : Int) (j : Nat) (b : Nat → Int) : JS :=
  if j = 0 then s
  else if 0 < s.m ∧ s.X (s.m - 1) = x then ⟨s.m, s.X, upd s.N (s.m - 1) (s.N (s.m - 1) + j), upd s.G (s.m - 1) (catF (s.N (s.m - 1)) (s.G (s.m - 1)) b)⟩
  else ⟨s.m + 1, upd s.X s.m x, upd s.N s.m j, upd s.G s.m b⟩
def jn (F : Nat → Ck) : Nat → JS
  | 0 => ⟨0, fun _ => 0, fun _ => 0, fun _ _ => 0⟩
  | k + 1 => (jn F k).step (F k).from_ (F k).n (F k).b
theorem jn_le (F : Nat → Ck) (k : Nat) : (jn F k).m ≤ k ∧ ∀ i, i < (jn F k).m → (jn F k).N i ≤ sumC F k := by
  induction k with
  | zero => exact ⟨Nat.le_refl _, fun i hi => absurd hi (by simp [jn])⟩
  | succ k ih =>
    obtain ⟨h1, h2⟩ := ih
    have e : sumC F (k + 1) = sumC F k + (F k).n := rfl
    show ((jn F k).step (F k).from_ (F k).n (F k).b).m ≤ k + 1 ∧ _
    unfold JS.step
    rw [show jn F (k + 1) = (jn F k).step (F k).from_ (F k).n (F k).b from rfl]
    unfold JS.step
    split
    · exact ⟨by omega, fun i hi => by have := h2 i hi; omega⟩
    split
    · refine ⟨by simp only; omega, fun i hi => ?_⟩
      simp only at hi ⊢
      unfold upd
      split
      · have := h2 ((jn F k).m - 1) (by omega); omega
      · have := h2 i hi; omega
    · refine ⟨by simp only; omega, fun i hi => ?_⟩
      simp only at hi ⊢
      unfold upd
      split
      · omega
      · have := h2 i (by omega); omega
theorem jn_byt (F : Nat → Ck) (n : Nat) (hb : ∀ i, i < n → Byt (F i).n (F i).b) (k : Nat) (hk : k ≤ n) : ∀ i, i < (jn F k).m → Byt ((jn F k).N i) ((jn F k).G i) := by
  induction k with
  | zero => exact fun i hi => absurd hi (by simp [jn])
  | succ k ih =>
    have h2 := ih (by omega)
    have hbk := hb k (by omega)
    rw [show jn F (k + 1) = (jn F k).step (F k).from_ (F k).n (F k).b from rfl]
    unfold JS.step
    split
    · exact h2
    split
    · intro i hi
      simp only at hi ⊢
      unfold upd
      split
      · rename_i h3 h4 h5
        subst h5
        intro j hj
        unfold catF
        split
        · exact h2 _ hi j (by omega)
        · exact hbk _ (by omega)
      · exact h2 i hi
    · intro i hi
      simp only at hi ⊢
      unfold upd
      split
      · exact hbk
      · exact h2 i (by omega)
end Go.Proofs.Ytpnjamomkpkkeaa
