/- Layer 17: which symbol begins bits (at most one); the symbols one behind the other. Plain theorems over the tables. -/
import Derived.Test.YteijpklepgenbaaCb5
import Derived.Test.YteijpklepgenbaaBit6
namespace Go.Proofs.Yteijpklepgenbaa
open Go.RowKit

/-- The first N are bits. -/
def Bits (g : Nat → Int) (N : Nat) : Prop := ∀ i, i < N → 0 ≤ g i ∧ g i ≤ 1
theorem Bits.sub {g : Nat → Int} {N : Nat} (h : Bits g N) (t : Nat) : Bits (fun i => g (t + i)) (N - t) := fun i hi => h (t + i) (by omega)
theorem bnum_div {g : Nat → Int} {a : Nat} : ∀ b, Bits g (a + b) → bnum g (a + b) / 2 ^ b = bnum g a
  | 0, _ => by simp
  | b + 1, h => by
    have ih := bnum_div (g := g) (a := a) b (fun i hi => h i (by omega))
    have hb := h (a + b) (by omega)
    have e : bnum g (a + (b + 1)) = 2 * bnum g (a + b) + g (a + b) := rfl
    have h2 : (2 : Int) ^ (b + 1) = 2 * 2 ^ b := by rw [Int.pow_succ]; omega
    have h3 : (2 * bnum g (a + b) + g (a + b)) / 2 = bnum g (a + b) := by omega
    rw [e, h2, ← Int.ediv_ediv_of_nonneg (by omega), h3]
    exact ih
theorem bnum_ext {g h : Nat → Int} {n : Nat} (e : ∀ k, k < n → g k = h k) : bnum g n = bnum h n := bnum_congr e

/-- The code of the symbol S stands at t, among N bits. -/
def Mt (g : Nat → Int) (N t S : Nat) : Prop := S < 257 ∧ t + len S ≤ N ∧ bnum (fun i => g (t + i)) (len S) = (cd (rnk S) : Int)
/-- Thirty bits from t on; behind all of them noughts. -/
def padG (g : Nat → Int) (N t : Nat) : Nat → Int := fun i => if t + i < N then g (t + i) else 0
theorem padG_bits {g : Nat → Int} {N : Nat} (h : Bits g N) (t m : Nat) : Bits (padG g N t) m := fun i _ => by
  unfold padG
  split
  · exact h _ (by assumption)
  · omega
theorem padG_in {g : Nat → Int} {N t L : Nat} (h : t + L ≤ N) : bnum (padG g N t) L = bnum (fun i => g (t + i)) L :=
  bnum_ext fun k hk => by unfold padG; rw [if_pos (by omega)]
theorem pad_val {g : Nat → Int} {N : Nat} (h : Bits g N) (t : Nat) : ∃ v : Nat, v < 1073741824 ∧ bnum (padG g N t) 30 = (v : Int) := by
  have hb := bnum_bd (padG_bits h t 30) 30 (by omega)
  refine ⟨(bnum (padG g N t) 30).toNat, ?_, ?_⟩
  · have : (2 : Int) ^ 30 = 1073741824 := by decide
    omega
  · omega
theorem mt_iff {g : Nat → Int} {N t S : Nat} (h : Bits g N) (hS : S < 257) (hL : t + len S ≤ N) {v : Nat} (hv : bnum (padG g N t) 30 = (v : Int)) : Mt g N t S ↔ v / 2 ^ (30 - len S) = cd (rnk S) := by
  have hl := len_bd S hS
  have h1 := bnum_div (g := padG g N t) (a := len S) (30 - len S) (by
    have := padG_bits h t 30
    intro i hi
    exact this i (by omega))
  rw [show len S + (30 - len S) = 30 by omega, hv, padG_in hL] at h1
  have e : ((v / 2 ^ (30 - len S) : Nat) : Int) = (v : Int) / 2 ^ (30 - len S) := by simp
  unfold Mt
  rw [← h1, ← e]
  constructor
  · rintro ⟨_, _, h2⟩
    exact_mod_cast h2
  · intro h2
    exact ⟨hS, hL, by exact_mod_cast h2⟩
theorem Mt.one {g : Nat → Int} {N t S T : Nat} (hg : Bits g N) (h : Mt g N t S) (k : Mt g N t T) : S = T := by
  obtain ⟨v, hv1, hv2⟩ := pad_val hg t
  obtain ⟨z, _, hz⟩ := one_code v hv1
  have h1 := (hz S h.1).1 ((mt_iff hg h.1 h.2.1 hv2).1 h)
  have h2 := (hz T k.1).1 ((mt_iff hg k.1 k.2.1 hv2).1 k)
  rw [h1, h2]
/-- Where thirty bits are left, a symbol begins them. -/
theorem mt_some {g : Nat → Int} {N t : Nat} (hg : Bits g N) (h : t + 30 ≤ N) : ∃ S, Mt g N t S := by
  obtain ⟨v, hv1, hv2⟩ := pad_val hg t
  obtain ⟨z, hz1, hz⟩ := one_code v hv1
  have hl := len_bd z hz1
  exact ⟨z, (mt_iff hg hz1 (by omega) hv2).2 ((hz z hz1).2 rfl)⟩
/-- Ones are no symbol's code, but for End's thirty. -/
theorem ones_none : ∀ S, S < 257 → len S ≤ 7 → cd (rnk S) ≠ 2 ^ (len S) - 1 := fun S hS => by
  have h := all_lt (n := 257) (p := fun S => decide (len S ≤ 7 → cd (rnk S) ≠ 2 ^ (len S) - 1)) (by decide +kernel) S hS
  exact of_decide_eq_true h

/-! ### symbols one behind the other -/
/-- k symbols of bytes, s, stand one behind the other, from 0 on; the i-th begins at p i. -/
def Chn (g : Nat → Int) (N k : Nat) (p s : Nat → Nat) : Prop := p 0 = 0 ∧ ∀ i, i < k → Mt g N (p i) (s i) ∧ s i < 256 ∧ p (i + 1) = p i + len (s i)
theorem Chn.pos {g : Nat → Int} {N k : Nat} {p s : Nat → Nat} (h : Chn g N k p s) : ∀ i, i ≤ k → p i ≤ N ∧ 5 * i ≤ p i
  | 0, _ => by rw [h.1]; omega
  | i + 1, hi => by
    have h1 := h.2 i (by omega)
    have h2 := h.pos i (by omega)
    have h3 := h1.1.2.1
    have h4 := len_bd _ h1.1.1
    rw [h1.2.2]
    omega
theorem Chn.more {g : Nat → Int} {N k : Nat} {p s : Nat → Nat} (h : Chn g N k p s) {S : Nat} (hS : Mt g N (p k) S) (h6 : S < 256) :
    Chn g N (k + 1) (fun i => if i ≤ k then p i else p k + len S) (fun i => if i < k then s i else S) := by
  refine ⟨by simpa using h.1, fun i hi => ?_⟩
  by_cases e : i < k
  · have := h.2 i e
    simp only [e, if_true, show i ≤ k by omega, show i + 1 ≤ k by omega]
    exact this
  · obtain rfl : i = k := by omega
    simp only [Nat.le_refl, if_true, Nat.lt_irrefl, if_false, show ¬ i + 1 ≤ i by omega]
    exact ⟨hS, h6, trivial⟩
theorem Chn.same {g : Nat → Int} {N k m : Nat} {p s q r : Nat → Nat} (hg : Bits g N) (h : Chn g N k p s) (h' : Chn g N m q r) : ∀ i, i ≤ k → i ≤ m → p i = q i ∧ ∀ j, j < i → s j = r j
  | 0, _, _ => ⟨by rw [h.1, h'.1], fun j hj => by omega⟩
  | i + 1, h1, h2 => by
    obtain ⟨e1, e2⟩ := h.same hg h' i (by omega) (by omega)
    have a := h.2 i (by omega)
    have b := h'.2 i (by omega)
    have e3 : s i = r i := (e1 ▸ a.1).one hg b.1
    refine ⟨by rw [a.2.2, b.2.2, e1, e3], fun j hj => ?_⟩
    by_cases e : j = i
    · subst e; exact e3
    · exact e2 j (by omega)
/-- What bits say: 0: just the bytes f; 10: what is left is no padding; 11: there is End. -/
def Dcd (g : Nat → Int) (N n : Nat) (f : Nat → Int) (e : Int) : Prop :=
  ∃ k p s, Chn g N k p s ∧
    ((e = 0 ∧ n = k ∧ (∀ i, i < k → f i = (s i : Int)) ∧ (∀ S, ¬ Mt g N (p k) S) ∧ N - p k ≤ 7 ∧ ∀ i, p k ≤ i → i < N → g i = 1) ∨
     (e = 10 ∧ n = 0 ∧ (∀ S, ¬ Mt g N (p k) S) ∧ ¬ (N - p k ≤ 7 ∧ ∀ i, p k ≤ i → i < N → g i = 1)) ∨
     (e = 11 ∧ n = 0 ∧ Mt g N (p k) 256))
theorem Dcd.same {g : Nat → Int} {N n m : Nat} {f h : Nat → Int} {e d : Int} (hg : Bits g N) (a : Dcd g N n f e) (b : Dcd g N m h d) : e = d ∧ n = m ∧ ∀ i, i < n → f i = h i := by
  obtain ⟨k, p, s, hc, hE⟩ := a
  obtain ⟨l, q, r, hc', hE'⟩ := b
  have key : ∀ {k l : Nat} {p s q r : Nat → Nat}, Chn g N k p s → Chn g N l q r → ((∀ S, ¬ Mt g N (p k) S) ∨ Mt g N (p k) 256) → ¬ k < l := by
    intro k l p s q r hc hc' hE hlt
    obtain ⟨e1, _⟩ := hc.same hg hc' k (Nat.le_refl _) (by omega)
    have h1 := hc'.2 k hlt
    rw [← e1] at h1
    rcases hE with hE | hE
    · exact hE _ h1.1
    · have := hE.one hg h1.1
      omega
  have e1 : (∀ S, ¬ Mt g N (p k) S) ∨ Mt g N (p k) 256 := by
    rcases hE with h | h | h
    · exact .inl h.2.2.2.1
    · exact .inl h.2.2.1
    · exact .inr h.2.2
  have e2 : (∀ S, ¬ Mt g N (q l) S) ∨ Mt g N (q l) 256 := by
    rcases hE' with h | h | h
    · exact .inl h.2.2.2.1
    · exact .inl h.2.2.1
    · exact .inr h.2.2
  have h1 := key hc hc' e1
  have h2 := key hc' hc e2
  obtain rfl : k = l := by omega
  obtain ⟨e3, e4⟩ := hc.same hg hc' k (Nat.le_refl _) (Nat.le_refl _)
  rw [← e3] at hE'
  rcases hE with ⟨a1, a2, a3, a4, a5, a6⟩ | ⟨a1, a2, a3, a4⟩ | ⟨a1, a2, a3⟩ <;> rcases hE' with ⟨b1, b2, b3, b4, b5, b6⟩ | ⟨b1, b2, b3, b4⟩ | ⟨b1, b2, b3⟩
  · exact ⟨by omega, by omega, fun i hi => by rw [a3 i (by omega), b3 i (by omega), e4 i (by omega)]⟩
  · exact absurd ⟨a5, a6⟩ b4
  · exact absurd b3 (a4 _)
  · exact absurd ⟨b5, b6⟩ a4
  · exact ⟨by omega, by omega, fun i hi => by omega⟩
  · exact absurd b3 (a3 _)
  · exact absurd a3 (b4 _)
  · exact absurd a3 (b3 _)
  · exact ⟨by omega, by omega, fun i hi => by omega⟩
end Go.Proofs.Yteijpklepgenbaa
