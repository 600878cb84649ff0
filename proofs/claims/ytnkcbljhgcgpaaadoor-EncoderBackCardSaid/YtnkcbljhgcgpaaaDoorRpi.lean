/- Layer 22: what is put begins with itself; what is got is right. -/
import Derived.Test.YtnkcbljhgcgpaaaDoorRph
namespace Go.Proofs.YtnkcbljhgcgpaaaDoor
set_option linter.unusedVariables false
set_option linter.unusedSimpArgs false
open Go.RowKit Go.PlainAid

theorem pf_top {first b n : Int} (h : pfE first b n = 0) : pfF first b n 0 ≤ first + (p8 b - 1) := by
  obtain ⟨h1, h2, h3, h4, h5, h6, h7⟩ := pfE_ok h
  unfold pfF
  by_cases hs : n < p8 b - 1
  · rw [if_pos hs]
    simp only [oneF]
    omega
  · rw [if_neg hs]
    simp [catF, oneF]
theorem kd_first {k n : Int} (hk : k = 1 ∨ k = 2 ∨ k = 3 ∨ k = 4 ∨ k = 5) (h : pfE (fst22 k) (bit22 k) n = 0) : kd (pfF (fst22 k) (bit22 k) n 0) = k := by
  have h1 := pf_first h
  have h2 := pf_top h
  generalize pfF (fst22 k) (bit22 k) n 0 = x at *
  have e : fst22 k ≤ x ∧ x ≤ fst22 k + (p8 (bit22 k) - 1) := ⟨h1, h2⟩
  clear h h1 h2
  rcases hk with rfl | rfl | rfl | rfl | rfl
  · have e1 : (128 : Int) ≤ x := e.1
    unfold kd
    rw [if_pos e1]
  · have e1 : (64 : Int) ≤ x := e.1
    have e2 : x ≤ 64 + (64 - 1) := e.2
    unfold kd
    rw [if_neg (by omega), if_pos e1]
  · have e2 : x ≤ 0 + (16 - 1) := e.2
    unfold kd
    rw [if_neg (by omega), if_neg (by omega), if_neg (by omega), if_neg (by omega)]
  · have e1 : (16 : Int) ≤ x := e.1
    have e2 : x ≤ 16 + (16 - 1) := e.2
    unfold kd
    rw [if_neg (by omega), if_neg (by omega), if_neg (by omega), if_pos e1]
  · have e1 : (32 : Int) ≤ x := e.1
    have e2 : x ≤ 32 + (32 - 1) := e.2
    unfold kd
    rw [if_neg (by omega), if_neg (by omega), if_pos e1]
theorem fst_fine {k : Int} (hk : k = 1 ∨ k = 2 ∨ k = 3 ∨ k = 4 ∨ k = 5) {n : Int} (h0 : 0 ≤ n) (h1 : n ≤ 2147483647) : pfE (fst22 k) (bit22 k) n = 0 := by
  refine pfE_fine ?_ (by omega)
  rcases hk with rfl | rfl | rfl | rfl | rfl <;> decide
theorem shiftF (p : Nat) (P Y : Nat → Int) : (fun j => catF p P Y (p + j)) = Y := by
  funext j
  unfold catF
  rw [if_neg (by omega), Nat.add_sub_cancel_left]
theorem tx_le_sl (s : ByteArray) (sh : Bool) : txN s sh ≤ slN s sh := by
  show txN s sh ≤ pfN 7 (txN s sh : Nat) + txN s sh
  omega
/-- The number that begins what is put, whatever comes behind it. -/
theorem num22 {k n : Int} (hk : k = 1 ∨ k = 2 ∨ k = 3 ∨ k = 4 ∨ k = 5) (h0 : 0 ≤ n) (h1 : n ≤ 2147483647) (Y : Nat → Int) (m : Nat) :
    kd (catF (pfN (bit22 k) n) (pfF (fst22 k) (bit22 k) n) Y 0) = k ∧ pg (catF (pfN (bit22 k) n) (pfF (fst22 k) (bit22 k) n) Y) (pfN (bit22 k) n + m) (bit22 k) = (n, (pfN (bit22 k) n : Int), 0) := by
  have hE := fst_fine hk h0 h1
  have hN := pfN_bd (bit22 k) n
  have e : catF (pfN (bit22 k) n) (pfF (fst22 k) (bit22 k) n) Y 0 = pfF (fst22 k) (bit22 k) n 0 := by
    unfold catF
    rw [if_pos (by omega)]
  exact ⟨by rw [e]; exact kd_first hk hE, pg_back hE m Y⟩
theorem gtr_back {k i : Int} {ns : ByteArray} {a : Bool} {vs : ByteArray} {b : Bool} {z : Int} (hr : rpB k i ns a vs b z = true) (hns : ns.size ≤ 400) (hvs : vs.size ≤ 400) (m : Nat) (g : Nat → Int) :
    GtR (catF (rpN k i ns a vs b z) (rpF k i ns a vs b z) g) (rpN k i ns a vs b z + m) k i ns a vs b z (rpN k i ns a vs b z : Int) 0 := by
  rcases rpB_cases hr with ⟨rfl, h1, h2, rfl, rfl, rfl, rfl, rfl⟩ | ⟨rfl, h1, h2, rfl, rfl, rfl, rfl, rfl⟩ | ⟨hk, rfl, h3⟩
  · have hq := num22 (k := 1) (by decide) (show 0 ≤ i by omega) h2 g m
    have hN := pfN_bd (bit22 1) i
    show GtR (catF (pfN (bit22 1) i) (pfF (fst22 1) (bit22 1) i) g) (pfN (bit22 1) i + m) 1 i ⟨#[]⟩ false ⟨#[]⟩ false 0 (pfN (bit22 1) i : Int) 0
    exact .inr ⟨by omega, i, pfN (bit22 1) i, 0, by rw [hq.1]; exact hq.2, .inr (.inr (.inl ⟨rfl, hq.1, by omega, rfl, rfl, rfl, rfl, rfl, rfl, rfl, rfl, rfl⟩))⟩
  · have hq := num22 (k := 5) (by decide) h1 h2 g m
    have hN := pfN_bd (bit22 5) z
    show GtR (catF (pfN (bit22 5) z) (pfF (fst22 5) (bit22 5) z) g) (pfN (bit22 5) z + m) 5 0 ⟨#[]⟩ false ⟨#[]⟩ false z (pfN (bit22 5) z : Int) 0
    exact .inr ⟨by omega, z, pfN (bit22 5) z, 0, by rw [hq.1]; exact hq.2, .inr (.inr (.inr (.inl ⟨rfl, hq.1, rfl, rfl, rfl, rfl, rfl, rfl, rfl, rfl, rfl⟩)))⟩
  · have hk5 : k = 1 ∨ k = 2 ∨ k = 3 ∨ k = 4 ∨ k = 5 := by omega
    have hk1 : k ≠ 1 := by omega
    have hk55 : k ≠ 5 := by omega
    by_cases hi : i = 0
    · subst hi
      have eN : rpN k 0 ns a vs b 0 = pfN (bit22 k) 0 + slN ns a + slN vs b := by unfold rpN; rw [if_neg hk1, if_neg hk55, if_pos rfl]
      have eF : rpF k 0 ns a vs b 0 = catF (pfN (bit22 k) 0 + slN ns a) (catF (pfN (bit22 k) 0) (pfF (fst22 k) (bit22 k) 0) (slF ns a)) (slF vs b) := by unfold rpF; rw [if_neg hk1, if_neg hk55, if_pos rfl]
      rw [eN, eF, catF_catF, catF_catF]
      have hN := pfN_bd (bit22 k) 0
      obtain ⟨L1, hL1⟩ : ∃ L, slN ns a = L := ⟨_, rfl⟩
      obtain ⟨L2, hL2⟩ : ∃ L, slN vs b = L := ⟨_, rfl⟩
      have hq := num22 hk5 (Int.le_refl 0) (by decide) (catF (slN ns a) (slF ns a) (catF (slN vs b) (slF vs b) g)) (slN ns a + (slN vs b + m))
      have hs1 := slr_back ns a hns (slN vs b + m) (catF (slN vs b) (slF vs b) g) (((pfN (bit22 k) 0 + slN ns a + slN vs b + m : Nat) : Int)) (.inl (by have := tx_le_sl ns a; omega))
      have hs2 := slr_back vs b hvs m g (((pfN (bit22 k) 0 + slN ns a + slN vs b + m : Nat) : Int)) (.inl (by have := tx_le_sl vs b; omega))
      rw [hL1, hL2] at *
      generalize pfN (bit22 k) 0 = p at *
      have en : p + L1 + L2 + m = p + (L1 + (L2 + m)) := by omega
      refine .inr ⟨by omega, 0, p, 0, by rw [hq.1, en]; exact hq.2, .inr (.inr (.inr (.inr (.inr ⟨rfl, by rw [hq.1]; exact hk1, by rw [hq.1]; exact hk55, rfl, ns, a, (L1 : Int), 0, ?_, .inr ⟨rfl, vs, b, (L2 : Int), 0, ?_, .inr ⟨rfl, hq.1.symm, rfl, rfl, rfl, rfl, rfl, rfl, ?_, rfl⟩⟩⟩))))⟩
      · rw [shiftF, show p + L1 + L2 + m - p = L1 + (L2 + m) by omega]
        exact hs1
      · have ef : (fun j => catF p (pfF (fst22 k) (bit22 k) 0) (catF L1 (slF ns a) (catF L2 (slF vs b) g)) (p + (L1 : Int).toNat + j)) = catF L2 (slF vs b) g := by
          funext j
          rw [Int.toNat_natCast, Nat.add_assoc]
          unfold catF
          rw [if_neg (by omega), Nat.add_sub_cancel_left, if_neg (by omega), Nat.add_sub_cancel_left]
        rw [ef, show p + L1 + L2 + m - (p + (L1 : Int).toNat) = L2 + m by omega]
        exact hs2
      · omega
    · obtain ⟨h1, h2, rfl, rfl⟩ := h3.resolve_left hi
      have eN : rpN k i ⟨#[]⟩ false vs b 0 = pfN (bit22 k) i + slN vs b := by unfold rpN; rw [if_neg hk1, if_neg hk55, if_neg hi]
      have eF : rpF k i ⟨#[]⟩ false vs b 0 = catF (pfN (bit22 k) i) (pfF (fst22 k) (bit22 k) i) (slF vs b) := by unfold rpF; rw [if_neg hk1, if_neg hk55, if_neg hi]
      rw [eN, eF, catF_catF]
      have hN := pfN_bd (bit22 k) i
      have hs2 := slr_back vs b hvs m g (((pfN (bit22 k) i + slN vs b + m : Nat) : Int)) (.inl (by have := tx_le_sl vs b; omega))
      have hq := num22 hk5 (show 0 ≤ i by omega) h2 (catF (slN vs b) (slF vs b) g) (slN vs b + m)
      clear eN eF hr h3
      generalize slN vs b = L2 at *
      generalize pfN (bit22 k) i = p at *
      have en : p + L2 + m = p + (L2 + m) := by omega
      refine .inr ⟨by omega, i, p, 0, by rw [hq.1, en]; exact hq.2, .inr (.inr (.inr (.inr (.inl ⟨rfl, by rw [hq.1]; exact hk1, by rw [hq.1]; exact hk55, hi, vs, b, (L2 : Int), 0, ?_, .inr ⟨rfl, hq.1.symm, rfl, rfl, rfl, rfl, rfl, rfl, ?_, rfl⟩⟩))))⟩
      · rw [shiftF, show p + L2 + m - p = L2 + m by omega]
        exact hs2
      · omega
theorem gtr_ok {f : Nat → Int} {n : Nat} {k i z m er : Int} {ns vs : ByteArray} {a b : Bool} (h : GtR f n k i ns a vs b z m er) : (er ≠ 0 ∧ m = 0) ∨ (er = 0 ∧ rpB k i ns a vs b z = true ∧ 0 < m ∧ m ≤ n) := by
  rcases h with ⟨h0, hz, rfl⟩ | ⟨h0, N, t, d, hp, h⟩
  · exact .inl ⟨by decide, hz.2.2.2.2.2.2.2⟩
  · by_cases hd : d = 0
    case neg =>
      rcases h with ⟨q1, hz, rfl⟩ | ⟨q1, _⟩ | ⟨q1, _⟩ | ⟨q1, _⟩ | ⟨q1, _⟩ | ⟨q1, _⟩
      · exact .inl ⟨q1, hz.2.2.2.2.2.2.2⟩
      all_goals exact absurd q1 hd
    subst hd
    have hb := pg_bdB (bit_rng (f 0)) (show (pg f n (bit22 (kd (f 0)))).2.2 = 0 by rw [hp])
    rw [hp] at hb
    simp only at hb
    obtain ⟨_, b1, b2, b3, b4⟩ := hb
    rcases h with ⟨q1, hz, rfl⟩ | ⟨q1, q2, q3, hz, rfl⟩ | ⟨q1, q2, q3, rfl, rfl, rfl, rfl, rfl, rfl, rfl, rfl, rfl⟩ | ⟨q1, q2, rfl, rfl, rfl, rfl, rfl, rfl, rfl, rfl, rfl⟩ | ⟨q1, q2, q3, q4, s, sh, q, e1, hS, h⟩ | ⟨q1, q2, q3, q4, s, sh, q, e1, hS, h⟩
    · exact absurd rfl q1
    · exact .inl ⟨by decide, hz.2.2.2.2.2.2.2⟩
    · refine .inr ⟨rfl, ?_, by omega, by omega⟩
      unfold rpB isN
      rw [if_pos rfl, noT_e, decide_eq_true (show 0 < i by omega), decide_eq_true b1, decide_eq_true b2]
      rfl
    · refine .inr ⟨rfl, ?_, by omega, by omega⟩
      unfold rpB isN
      rw [if_neg (by decide), if_neg (by decide), if_pos rfl, noT_e, decide_eq_true b1, decide_eq_true b2]
      rfl
    · have hq := slr_rng hS
      have hkr := kd_rng (f 0)
      rcases h with ⟨y1, hz, rfl⟩ | ⟨y1, rfl, rfl, rfl, rfl, rfl, rfl, rfl, rfl, rfl⟩
      · exact .inl ⟨y1, hz.2.2.2.2.2.2.2⟩
      · refine .inr ⟨rfl, ?_, by omega, by omega⟩
        unfold rpB isN
        rw [if_neg q2, if_pos (by omega), noT_e, decide_eq_true b1, decide_eq_true b2, Bool.or_true]
        rfl
    · have hq := slr_rng hS
      have hkr := kd_rng (f 0)
      rcases h with ⟨y1, hz, rfl⟩ | ⟨y1, s2, sh2, q2', e2, hS2, h⟩
      · exact .inl ⟨y1, hz.2.2.2.2.2.2.2⟩
      · have hq2 := slr_rng hS2
        rcases h with ⟨y2, hz, rfl⟩ | ⟨y2, rfl, rfl, rfl, rfl, rfl, rfl, rfl, rfl, rfl⟩
        · exact .inl ⟨y2, hz.2.2.2.2.2.2.2⟩
        · refine .inr ⟨rfl, ?_, by omega, by omega⟩
          unfold rpB isN
          rw [if_neg q2, if_pos (by omega)]
          rfl
end Go.Proofs.YtnkcbljhgcgpaaaDoor
