/- Layer 17: there and back; the walk of HuffBack. -/
import Derived.Test.YteijpklepgenbaaHuH
namespace Go.Proofs.Yteijpklepgenbaa
open Go.RowKit

theorem hhalf (v : Int) (j : Nat) : v / 2 ^ (j + 1) = v / 2 ^ j / 2 := by
  rw [Int.pow_succ, Int.ediv_ediv_of_nonneg (Int.le_of_lt (Int.pow_pos (by decide)))]
theorem hbnum_bits {v : Int} {n : Nat} (h0 : 0 ≤ v) (h1 : v < 2 ^ n) : ∀ k, k ≤ n → bnum (bitsOf v n) k = v / 2 ^ (n - k)
  | 0, _ => by
    simp only [bnum, Nat.sub_zero]
    exact (Int.ediv_eq_zero_of_lt h0 h1).symm
  | k + 1, hk => by
    have ih := hbnum_bits h0 h1 k (by omega)
    simp only [bnum]
    rw [ih, show n - k = (n - (k + 1)) + 1 by omega, hhalf]
    unfold bitsOf
    rw [show n - 1 - k = n - (k + 1) by omega]
    generalize v / 2 ^ (n - (k + 1)) = z
    omega
theorem hbnum_bitsOf {v : Int} {n : Nat} (h0 : 0 ≤ v) (h1 : v < 2 ^ n) : bnum (bitsOf v n) n = v := by
  rw [hbnum_bits h0 h1 n (Nat.le_refl _)]
  simp
theorem hbit_of_bnum {h : Nat → Int} {j : Nat} (hb : ∀ k, k < 8 → 0 ≤ h k ∧ h k ≤ 1) (hj : j < 8) : bnum h 8 / 2 ^ (7 - j) % 2 = h j := by
  rw [bnum8]
  have b0 := hb 0; have b1 := hb 1; have b2 := hb 2; have b3 := hb 3; have b4 := hb 4; have b5 := hb 5; have b6 := hb 6; have b7 := hb 7
  clear hb
  have hj' : j = 0 ∨ j = 1 ∨ j = 2 ∨ j = 3 ∨ j = 4 ∨ j = 5 ∨ j = 6 ∨ j = 7 := by omega
  rcases hj' with rfl | rfl | rfl | rfl | rfl | rfl | rfl | rfl <;> simp at * <;> omega
theorem hbitF_byF {g : Nat → Int} {t : Nat} (hg : ∀ i, i < t → 0 ≤ g i ∧ g i ≤ 1) (i : Nat) : bitF (byF g t) i = if i < t then g i else 1 := by
  unfold bitF
  rw [byF_eq, hbit_of_bnum (fun k _ => rbit_bd hg _ k) (by omega)]
  unfold rbit
  rw [show 8 * (i / 8) + i % 8 = i by omega]
theorem hbyF_byt {g : Nat → Int} {t : Nat} (hg : ∀ i, i < t → 0 ≤ g i ∧ g i ≤ 1) (n : Nat) : Byt n (byF g t) := fun i _ => by
  rw [byF_eq]
  exact bnum8_bd (fun k _ => rbit_bd hg _ k)
/-- The j-th bit of the number that bits are. -/
theorem bits_of_num {g : Nat → Int} {L j : Nat} (hg : ∀ i, i < L → 0 ≤ g i ∧ g i ≤ 1) (hj : j < L) : bitsOf (bnum g L) L j = g j := by
  unfold bitsOf
  have h := bnum_div (g := g) (a := j + 1) (L - 1 - j) (fun i hi => hg i (by omega))
  rw [show j + 1 + (L - 1 - j) = L by omega] at h
  rw [h]
  have := hg j hj
  simp only [bnum]
  omega
theorem byte_of_bits {x : Int} (h0 : 0 ≤ x) (h1 : x ≤ 255) : bnum (fun k => x / 2 ^ (7 - k) % 2) 8 = x := by
  rw [bnum8]
  simp
  omega
theorem enT_mono (b : Nat → Int) {i n : Nat} (h : i ≤ n) : enT b i ≤ enT b n := by
  induction n with
  | zero => obtain rfl : i = 0 := by omega
            exact Nat.le_refl _
  | succ n ih =>
    by_cases e : i = n + 1
    · subst e; exact Nat.le_refl _
    · exact Nat.le_trans (ih (by omega)) (by simp [enT])
theorem enG_at (b : Nat → Int) {i n j : Nat} (hi : i < n) (hj : j < len (b i).toNat) : enG b n (enT b i + j) = bitsOf (cd (rnk (b i).toNat) : Int) (len (b i).toNat) j := by
  induction n with
  | zero => omega
  | succ n ih =>
    simp only [enG, catF]
    by_cases e : i = n
    · subst e
      rw [if_neg (by omega), show enT b i + j - enT b i = j by omega]
    · have h1 : enT b (i + 1) ≤ enT b n := enT_mono b (by omega)
      have h2 : enT b (i + 1) = enT b i + len (b i).toNat := rfl
      rw [if_pos (by omega)]
      exact ih (by omega)
theorem enc_dcd {b : Nat → Int} {n : Nat} (hb : Byt n b) : Dcd (bitF (byF (enG b n) (enT b n))) (8 * ((enT b n + 7) / 8)) n b 0 := by
  have hg : ∀ i, i < enT b n → 0 ≤ enG b n i ∧ enG b n i ≤ 1 := fun i _ => enG_bd n i
  have hone : ∀ i, enT b n ≤ i → bitF (byF (enG b n) (enT b n)) i = 1 := fun i hi => by rw [hbitF_byF hg, if_neg (by omega)]
  refine ⟨n, enT b, fun i => (b i).toNat, ⟨rfl, fun i hi => ?_⟩, .inl ⟨rfl, rfl, fun i hi => (byt_nat hb hi).2.symm, mt_ones (fun i h1 _ => hone i h1) (by omega), by omega, fun i h1 _ => hone i h1⟩⟩
  obtain ⟨s1, s2⟩ := byt_nat hb hi
  have h1 : enT b (i + 1) ≤ enT b n := enT_mono b (by omega)
  have h2 : enT b (i + 1) = enT b i + len (b i).toNat := rfl
  refine ⟨⟨by show (b i).toNat < 257; omega, by show enT b i + len (b i).toNat ≤ _; omega, ?_⟩, s1, rfl⟩
  have e : bnum (fun j => bitF (byF (enG b n) (enT b n)) (enT b i + j)) (len (b i).toNat) = bnum (bitsOf (cd (rnk (b i).toNat) : Int) (len (b i).toNat)) (len (b i).toNat) := bnum_congr fun j hj => by
    show bitF (byF (enG b n) (enT b n)) (enT b i + j) = _
    rw [hbitF_byF hg, if_pos (by omega), enG_at b hi hj]
  show bnum (fun j => bitF (byF (enG b n) (enT b n)) (enT b i + j)) (len (b i).toNat) = _
  rw [e, hbnum_bitsOf (by omega) (cd_lt _ (by omega))]
theorem dec_enc {x h : Nat → Int} {m n : Nat} (hx : Byt m x) (hd : Dcd (bitF x) (8 * m) n h 0) :
    Byt n h ∧ 5 * n ≤ 8 * m ∧ (enT h n + 7) / 8 = m ∧ ∀ i, i < m → byF (enG h n) (enT h n) i = x i := by
  obtain ⟨k, p, s, hc, hE⟩ := hd
  rcases hE with ⟨_, rfl, hf, _, h7, hone⟩ | ⟨h, _⟩ | ⟨h, _⟩
  · obtain ⟨hp1, hp2⟩ := hc.pos n (Nat.le_refl _)
    have hs : ∀ i, i < n → (h i).toNat = s i := fun i hi => by rw [hf i hi]; simp
    have hT : ∀ i, i ≤ n → enT h i = p i := by
      intro i
      induction i with
      | zero => intro _; exact hc.1.symm
      | succ i ih =>
        intro hi
        simp only [enT]
        rw [ih (by omega), hs i (by omega), (hc.2 i (by omega)).2.2]
    have hG : ∀ i, i ≤ n → ∀ j, j < p i → enG h i j = bitF x j := by
      intro i
      induction i with
      | zero => intro _ j hj; rw [hc.1] at hj; omega
      | succ i ih =>
        intro hi j hj
        have hci := hc.2 i (by omega)
        simp only [enG, catF]
        rw [hT i (by omega), hs i (by omega)]
        by_cases e : j < p i
        · rw [if_pos e]
          exact ih (by omega) j e
        · rw [if_neg e]
          rw [hci.2.2] at hj
          rw [← hci.1.2.2, bits_of_num (fun i _ => bitF_bd _) (by omega)]
          show bitF x (p i + (j - p i)) = _
          rw [show p i + (j - p i) = j by omega]
    refine ⟨fun i hi => ?_, by omega, by rw [hT n (Nat.le_refl _)]; omega, fun i hi => ?_⟩
    · have := (hc.2 i hi).2.1
      rw [hf i hi]
      omega
    · rw [hT n (Nat.le_refl _), byF_eq]
      have hxi := hx i hi
      rw [show bnum (rbit (enG h n) (p n) i) 8 = bnum (fun k => x i / 2 ^ (7 - k) % 2) 8 from bnum_congr fun k hk => ?_, byte_of_bits hxi.1 hxi.2]
      unfold rbit
      have e : bitF x (8 * i + k) = x i / 2 ^ (7 - k) % 2 := by
        unfold bitF
        rw [show (8 * i + k) / 8 = i by omega, show (8 * i + k) % 8 = k by omega]
      by_cases hlt : 8 * i + k < p n
      · rw [if_pos hlt, hG n (Nat.le_refl _) _ hlt, e]
      · rw [if_neg hlt, ← e, hone _ (by omega) (by omega)]
  · cases h
  · cases h
end Go.Proofs.Yteijpklepgenbaa
