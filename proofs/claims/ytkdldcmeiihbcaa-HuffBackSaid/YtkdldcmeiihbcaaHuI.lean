/- Layer 17: there and back; the walk of HuffBack. -/
import Derived.Test.YtkdldcmeiihbcaaHuH
namespace Go.Proofs.Ytkdldcmeiihbcaa
open Go.RowKit

theorem hhalf (v : Int) (j : Nat) : v / 2 ^ (j + 1) = v / 2 ^ j / 2 := by
  rw [Int.pow_succ, Int.ediv_ediv_of_nonneg (Int.le_of_lt (Int.pow_pos (by decide)))]
theorem hbnum_bits {v : Int} {n : Nat} (h0 : 0 ≤ v) (h1 : v < 2 ^ n) : ∀ k, k ≤ n → bnum (bitsOf v n) k = v / 2 ^ (n - k)
  | 0, _ => by
    simp only [bnum, Nat.sub_zero]
    exact (Int.ediv_eq_zero_of_lt h0 h1).symm
  | k + 1, hk => by
    have ih := hbnum_bits h0 h1 k (by omega)
    simp only [bnum]
    rw [ih, show n - k = (n - (k + 1)) + 1 by omega, hhalf]
    unfold bitsOf
    rw [show n - 1 - k = n - (k + 1) by omega]
    generalize v / 2 ^ (n - (k + 1)) = z
    omega
theorem hbnum_bitsOf {v : Int} {n : Nat} (h0 : 0 ≤ v) (h1 : v < 2 ^ n) : bnum (bitsOf v n) n = v := by
  rw [hbnum_bits h0 h1 n (Nat.le_refl _)]
  simp
theorem hbit_of_bnum {h : Nat → Int} {j : Nat} (hb : ∀ k, k < 8 → 0 ≤ h k ∧ h k ≤ 1) (hj : j < 8) : bnum h 8 / 2 ^ (7 - j) % 2 = h j := by
  rw [bnum8]
  have b0 := hb 0; have b1 := hb 1; have b2 := hb 2; have b3 := hb 3; have b4 := hb 4; have b5 := hb 5; have b6 := hb 6; have b7 := hb 7
  clear hb
  have hj' : j = 0 ∨ j = 1 ∨ j = 2 ∨ j = 3 ∨ j = 4 ∨ j = 5 ∨ j = 6 ∨ j = 7 := by omega
  rcases hj' with rfl | rfl | rfl | rfl | rfl | rfl | rfl | rfl <;> simp at * <;> omega
theorem hbitF_byF {g : Nat → Int} {t : Nat} (hg : ∀ i, i < t → 0 ≤ g i ∧ g i ≤ 1) (i : Nat) : bitF (byF g t) i = if i < t then g i else 1 := by
  unfold bitF
  rw [byF_eq, hbit_of_bnum (fun k _ => rbit_bd hg _ k) (by omega)]
  unfold rbit
  rw [show 8 * (i / 8) + i % 8 = i by omega]
theorem hbyF_byt {g : Nat → Int} {t : Nat} (hg : ∀ i, i < t → 0 ≤ g i ∧ g i ≤ 1) (n : Nat) : Byt n (byF g t) := fun i _ => by
  rw [byF_eq]
  exact bnum8_bd (fun k _ => rbit_bd hg _ k)
/-- The j-th bit of the number that bits are. -/
theorem bits_of_num {g : Nat → Int} {L j : Nat} (hg : ∀ i, i < L → 0 ≤ g i ∧ g i ≤ 1) (hj : j < L) : bitsOf (bnum g L) L j = g j := by
  unfold bitsOf
  have h := bnum_div (g := g) (a := j + 1) (L - 1 - j) (fun i hi => hg i (by omega))
  rw [show j + 1 + (L - 1 - j) = L by omega] at h
  rw [h]
  have := hg j hj
  simp only [bnum]
  omega
theorem byte_of_bits {x : Int} (h0 : 0 ≤ x) (h1 : x ≤ 255) : bnum (fun k => x / 2 ^ (7 - k) % 2) 8 = x := by
  rw [bnum8]
  simp
  omega
theorem enT_mono (b : Nat → Int) {i n : Nat} (h : i ≤ n) : enT b i ≤ enT b n := by
  induction n with
  | zero => obtain rfl : i = 0 := by omega
            exact Nat.le_refl _
  | succ n ih =>
    by_cases e : i = n + 1
    · subst e; exact Nat.le_refl _
    · exact Nat.le_trans (ih (by omega)) (by simp [enT])
theorem enG_at (b : Nat → Int) {i n j : Nat} (hi : i < n) (hj : j < len (b i).toNat) : enG b n (enT b i + j) = bitsOf (cd (rnk (b i).toNat) : Int) (len (b i).toNat) j := by
  induction n with
  | zero => omega
  | succ n ih =>
    simp only [enG, catF]
    by_cases e : i = n
    · subst e
      rw [if_neg (by omega), show enT b i + j - enT b i = j by omega]
    · have h1 : enT b (i + 1) ≤ enT b n := enT_mono b (by omega)
      have h2 : enT b (i + 1) = enT b i + len (b i).toNat := rfl
      rw [if_pos (by omega)]
      exact ih (by omega)
theorem enc_dcd {b : Nat → Int} {n : Nat} (hb : Byt n b) : Dcd (bitF (byF (enG b n) (enT b n))) (8 * ((enT b n + 7) / 8)) n b 0 := by
  have hg : ∀ i, i < enT b n → 0 ≤ enG b n i ∧ enG b n i ≤ 1 := fun i _ => enG_bd n i
  have hone : ∀ i, enT b n ≤ i → bitF (byF (enG b n) (enT b n)) i = 1 := fun i hi => by rw [hbitF_byF hg, if_neg (by omega)]
  refine ⟨n, enT b, fun i => (b i).toNat, ⟨rfl, fun i hi => ?_⟩, .inl ⟨rfl, rfl, fun i hi => (byt_nat hb hi).2.symm, mt_ones (fun i h1 _ => hone i h1) (by omega), by omega, fun i h1 _ => hone i h1⟩⟩
  obtain ⟨s1, s2⟩ := byt_nat hb hi
  have h1 : enT b (i + 1) ≤ enT b n := enT_mono b (by omega)
  have h2 : enT b (i + 1) = enT b i + len (b i).toNat := rfl
  refine ⟨⟨by show (b i).toNat < 257; omega, by show enT b i + len (b i).toNat ≤ _; omega, ?_⟩, s1, rfl⟩
  have e : bnum (fun j => bitF (byF (enG b n) (enT b n)) (enT b i + j)) (len (b i).toNat) = bnum (bitsOf (cd (rnk (b i).toNat) : Int) (len (b i).toNat)) (len (b i).toNat) := bnum_congr fun j hj => by
    show bitF (byF (enG b n) (enT b n)) (enT b i + j) = _
    rw [hbitF_byF hg, if_pos (by omega), enG_at b hi hj]
  show bnum (fun j => bitF (byF (enG b n) (enT b n)) (enT b i + j)) (len (b i).toNat) = _
  rw [e, hbnum_bitsOf (by omega) (cd_lt _ (by omega))]
theorem dec_enc {x h : Nat → Int} {m n : Nat} (hx : Byt m x) (hd : Dcd (bitF x) (8 * m) n h 0) :
    Byt n h ∧ 5 * n ≤ 8 * m ∧ (enT h n + 7) / 8 = m ∧ ∀ i, i < m → byF (enG h n) (enT h n) i = x i := by
  obtain ⟨k, p, s, hc, hE⟩ := hd
  rcases hE with ⟨_, rfl, hf, _, h7, hone⟩ | ⟨h, _⟩ | ⟨h, _⟩
  · obtain ⟨hp1, hp2⟩ := hc.pos n (Nat.le_refl _)
    have hs : ∀ i, i < n → (h i).toNat = s i := fun i hi => by rw [hf i hi]; simp
    have hT : ∀ i, i ≤ n → enT h i = p i := by
      intro i
      induction i with
      | zero => intro _; exact hc.1.symm
      | succ i ih =>
        intro hi
        simp only [enT]
        rw [ih (by omega), hs i (by omega), (hc.2 i (by omega)).2.2]
    have hG : ∀ i, i ≤ n → ∀ j, j < p i → enG h i j = bitF x j := by
      intro i
      induction i with
      | zero => intro _ j hj; rw [hc.1] at hj; omega
      | succ i ih =>
        intro hi j hj
        have hci := hc.2 i (by omega)
        simp only [enG, catF]
        rw [hT i (by omega), hs i (by omega)]
        by_cases e : j < p i
        · rw [if_pos e]
          exact ih (by omega) j e
        · rw [if_neg e]
          rw [hci.2.2] at hj
          rw [← hci.1.2.2, bits_of_num (fun i _ => bitF_bd _) (by omega)]
          show bitF x (p i + (j - p i)) = _
          rw [show p i + (j - p i) = j by omega]
    refine ⟨fun i hi => ?_, by omega, by rw [hT n (Nat.le_refl _)]; omega, fun i hi => ?_⟩
    · have := (hc.2 i hi).2.1
      rw [hf i hi]
      omega
    · rw [hT n (Nat.le_refl _), byF_eq]
      have hxi := hx i hi
      rw [show bnum (rbit (enG h n) (p n) i) 8 = bnum (fun k => x i / 2 ^ (7 - k) % 2) 8 from bnum_congr fun k hk => ?_, byte_of_bits hxi.1 hxi.2]
      unfold rbit
      have e : bitF x (8 * i + k) = x i / 2 ^ (7 - k) % 2 := by
        unfold bitF
        rw [show (8 * i + k) / 8 = i by omega, show (8 * i + k) % 8 = k by omega]
      by_cases hlt : 8 * i + k < p n
      · rw [if_pos hlt, hG n (Nat.le_refl _) _ hlt, e]
      · rw [if_neg hlt, ← e, hone _ (by omega) (by omega)]
  · cases h
  · cases h
set_option maxRecDepth 20000 in
set_option maxHeartbeats 6400000 in
theorem huffBack_walk (A C : Option Addr) (n c m d : Nat) (f x : Nat → Int) (w : World) (ha : Rd .u8 w A n c f) (hf : Byt n f) (hc : Rd .u8 w C m d x) (hx : Byt m x) : Calls Try.prog 11 #[.slice A n c, .slice C m d] w (Yes w) := by
  by_cases hbig : 300 < n ∨ 300 < m
  · by_cases h1 : 300 < n
    · have hd : decide ((300 : Int) < (n : Int)) = true := decide_eq_true (by omega)
      clear ha hf hc hx hbig
      go_enter Try.func11, Try.ntmps11
      go_wp2_with fail
      refine (alive17 _).mono ?_
      rintro e w' ⟨rfl, hb⟩
      have HB := hide hb
      clear hb
      go_wp2_with fail
      go_ret
      exact ⟨rfl, HB.out⟩
    · have hd : decide ((300 : Int) < (n : Int)) = false := decide_eq_false (by omega)
      have hd2 : decide ((300 : Int) < (m : Int)) = true := decide_eq_true (by omega)
      clear ha hf hc hx hbig
      go_enter Try.func11, Try.ntmps11
      go_wp2_with fail
      refine (alive17 _).mono ?_
      rintro e w' ⟨rfl, hb⟩
      have HB := hide hb
      clear hb
      go_wp2_with fail
      go_ret
      exact ⟨rfl, HB.out⟩
  have hd : decide ((300 : Int) < (n : Int)) = false := decide_eq_false (by omega)
  have hd2 : decide ((300 : Int) < (m : Int)) = false := decide_eq_false (by omega)
  have hn : n ≤ 300 := by omega
  have hm : m ≤ 300 := by omega
  have hTle := enT_le hf n (Nat.le_refl _)
  have hN1 : (enT f n + 7) / 8 ≤ 2000 := by omega
  have HN1 := hide hN1
  have Ha := hide ha
  have Hf := hide hf
  have Hc := hide hc
  have Hx := hide hx
  clear ha hf hc hx hbig hTle hN1
  go_enter Try.func11, Try.ntmps11
  go_wp2_with fail
  refine (encode_any A n c f _ Ha.out Hf.out (by omega)).mono ?_
  rintro e w1 ⟨v1, rfl, ho1, hb1⟩
  obtain ⟨A1, c1, rfl, hr1, _⟩ := ho1.rd
  have Hr1 := hide hr1
  have Ha1 := hide (Ha.out.below hb1)
  have Hc1 := hide (Hc.out.below hb1)
  have HB1 := hide hb1
  clear ho1 hr1 hb1
  go_wp2_with fail
  refine (decode_any A1 _ c1 _ _ Hr1.out (hbyF_byt (fun i _ => enG_bd n i) _) HN1.out).mono ?_
  rintro e w2 ⟨v2, m2, h2, er2, rfl, ho2, hD2, hb2⟩
  obtain ⟨rfl, rfl, hff⟩ := (enc_dcd Hf.out).same (bitF_bits _ _) hD2
  obtain ⟨A2, c2, rfl, hr2, _⟩ := ho2.rd
  have Hr2 := hide hr2
  have Hff := hide hff
  have Ha2 := hide (Ha1.out.below hb2)
  have Hc2 := hide (Hc1.out.below hb2)
  have HB2 := hide (HB1.out.of hb2)
  clear ho2 hr2 hb2 hD2 hff
  go_wp2_with fail
  refine (rsame_yes _ _ _ _ _ _ _ _ Ha2.out Hr2.out Hff.out).mono ?_
  rintro e w3 ⟨rfl, hd3⟩
  have Hc3 := hide (Hc2.out.below (drawn_below hd3 _))
  have HB3 := hide (HB2.out.of (drawn_below hd3 _))
  clear hd3
  go_wp2_with fail
  refine (decode_any C m d x _ Hc3.out Hx.out (by omega)).mono ?_
  rintro e w4 ⟨v4, m4, h4, er4, rfl, ho4, hD4, hb4⟩
  have Hc4 := hide (Hc3.out.below hb4)
  have HB4 := hide (HB3.out.of hb4)
  obtain ⟨A4, c4, rfl, hr4, _⟩ := ho4.rd
  have Hr4 := hide hr4
  have HD4 := hide hD4
  clear ho4 hr4 hb4 hD4
  by_cases he : er4 = 0
  · subst he
    obtain ⟨g1, g2, g3, g4⟩ := dec_enc Hx.out HD4.out
    have G1 := hide g1
    have G3 := hide g3
    have G4 := hide g4
    have hm4 : m4 ≤ 1000 := by omega
    clear g1 g2 g3 g4
    go_wp2_with fail
    refine (encode_any A4 m4 c4 h4 _ Hr4.out G1.out hm4).mono ?_
    rintro e w5 ⟨v5, rfl, ho5, hb5⟩
    rw [G3.out] at ho5
    obtain ⟨A5, c5, rfl, hr5, _⟩ := ho5.rd
    have Hr5 := hide hr5
    have Hc5 := hide (Hc4.out.below hb5)
    have HB5 := hide (HB4.out.of hb5)
    clear ho5 hr5 hb5
    go_wp2_with fail
    refine (rsame_yes _ _ _ _ _ _ _ _ Hr5.out Hc5.out G4.out).mono ?_
    rintro e w6 ⟨rfl, hd6⟩
    have HB6 := hide (HB5.out.of (drawn_below hd6 _))
    clear hd6
    go_wp2_with fail
    refine (alive17 _).mono ?_
    rintro e w7 ⟨rfl, hb7⟩
    have HB7 := hide (HB6.out.of hb7)
    clear hb7
    go_wp2_with fail
    go_ret
    exact ⟨rfl, HB7.out⟩
  · have t1 : (er4 != 0) = true := by simpa using he
    clear he
    go_wp2_with fail
    refine (alive17 _).mono ?_
    rintro e w7 ⟨rfl, hb7⟩
    have HB7 := hide (HB4.out.of hb7)
    clear hb7
    go_wp2_with fail
    go_ret
    exact ⟨rfl, HB7.out⟩
end Go.Proofs.Ytkdldcmeiihbcaa
