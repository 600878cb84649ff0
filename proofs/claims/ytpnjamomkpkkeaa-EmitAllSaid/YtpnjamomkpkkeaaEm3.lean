/- Layer 15: what any frame says is right, and is written so that it says the same. No walk. -/
import Derived.Test.YtpnjamomkpkkeaaEm2
namespace Go.Proofs.Ytpnjamomkpkkeaa
set_option linter.unusedVariables false
set_option linter.unusedSimpArgs false
open Go.RowKit

theorem num_ext5 {f g : Nat → Int} : ∀ k, (∀ i, i < k → f i = g i) → num f k = num g k
  | 0, _ => rfl
  | k + 1, h => by
    unfold num
    rw [num_ext5 k fun i hi => h i (by omega), h k (by omega)]
theorem fd_pad5 (T fl : Int) {n : Nat} {f : Nat → Int} (hf : Byt n f) : (hsB T fl 3 = true → 0 ≤ (fdOf T fl n f).pad) ∧ (hsB T fl 3 = false → (fdOf T fl n f).pad = -1) := by
  have h1 : ∀ t, 0 ≤ nbV f n t 1 := fun t => (nbV_rng hf (by decide)).1
  by_cases h0 : T = 0
  · subst h0
    unfold fdOf
    rw [if_pos rfl]
    cases hsB 0 fl 3 <;> simp [h1]
  by_cases h2 : T = 1
  · subst h2
    unfold fdOf
    rw [if_neg (by decide), if_pos rfl]
    cases hsB 1 fl 3 <;> cases hsB 1 fl 5 <;> simp [h1]
  by_cases h5 : T = 5
  · subst h5
    unfold fdOf
    rw [if_neg (by decide), if_neg (by decide), if_neg (by decide), if_neg (by decide), if_neg (by decide), if_pos rfl]
    cases hsB 5 fl 3 <;> simp [h1]
  have e3 : hsB T fl 3 = false := hsB3_no ⟨h0, h2, h5⟩
  refine ⟨fun h => absurd h (by rw [e3]; decide), fun _ => ?_⟩
  unfold fdOf
  rw [if_neg h0, if_neg h2]
  (repeat' split) <;> first | rfl | (exact absurd (by assumption) h5)
theorem fd_sn5 (T fl : Int) {n : Nat} {f : Nat → Int} (h : T ≠ 4) : (fdOf T fl n f).sn = 0 := by
  unfold fdOf
  (repeat' split) <;> first | rfl | (exact absurd (by assumption) h)
theorem bk_ok {T fl st : Int} {n : Nat} {f : Nat → Int} (hf : Byt n f) (h0 : (frR T fl st n f).fs = 0) (he : (frR T fl st n f).en = 0) :
    (bk5 T fl st n f (fdOf T fl n f)).Ok ∧ (bk5 T fl st n f (fdOf T fl n f)).emL.length = n ∧ (bk5 T fl st n f (fdOf T fl n f)).gR = frR T fl st n f := by
  obtain ⟨hg, hr⟩ := frR_good h0 he
  have hms : (fdOf T fl n f).ms = false ∧ ovB (fdOf T fl n f) n = false ∧ misB T st = false ∧ wrsB T fl n = false := by
    unfold frR at h0
    rw [if_pos hr] at h0
    have hsz : szS T ≠ 0 := by unfold szS; split <;> decide
    by_cases h2 : misB T st = true
    · rw [if_pos h2] at h0; exact absurd h0 (by decide)
    rw [if_neg h2] at h0
    by_cases h3 : wrsB T fl n = true
    · rw [if_pos h3] at h0; exact absurd h0 hsz
    rw [if_neg h3] at h0
    by_cases h4 : (fdOf T fl n f).ms = true
    · rw [if_pos h4] at h0; exact absurd h0 hsz
    rw [if_neg h4] at h0
    by_cases h5 : ovB (fdOf T fl n f) n = true
    · rw [if_pos h5] at h0; exact absurd h0 (by decide)
    exact ⟨by simpa using h4, by simpa using h5, by simpa using h2, by simpa using h3⟩
  obtain ⟨hms, hov, hmi, hwr⟩ := hms
  obtain ⟨hb1, hb2, hb3⟩ := bk_all T fl st hf hms
  have hrg := fd_rng5 T fl hf
  have hpd := fd_pad5 T fl hf
  have h4 := fun (e : T = 4) => (bk_4 fl st hf (by rw [← e]; exact hms)).2
  have hsn := fd_sn5 T fl (n := n) (f := f)
  generalize hD : fdOf T fl n f = D at hg hms hov hb1 hb2 hb3 hrg hpd hsn ⊢
  have hlen : (bk5 T fl st n f D).emL.length = n := by
    show ((fr5 (bk5 T fl st n f D)) ++ (bk5 T fl st n f D).dL ++ (bk5 T fl st n f D).zL).length = n
    rw [List.length_append, List.length_append, hb2]
    have e1 : (bk5 T fl st n f D).dL.length = upN n D.off (m0 D.pad) := by simp [Fm5.dL, bk5]
    have e2 : (bk5 T fl st n f D).zL.length = (m0 D.pad).toNat := by
      unfold Fm5.zL
      show (if hsB T fl 3 = true then List.replicate D.pad.toNat (0 : Int) else []).length = _
      cases h : hsB T fl 3 with
      | true => rw [if_pos rfl, List.length_replicate, m0_of (hpd.1 h)]
      | false => rw [if_neg (by decide), hpd.2 h]; rfl
    rw [e1, e2]
    have hov' : ¬ (((n - D.off : Nat) : Int) < m0 D.pad) := of_decide_eq_false hov
    unfold upN
    rw [if_pos (by omega)]
    omega
  have hgf : ∀ i, i < D.off → lF (bk5 T fl st n f D).emL i = lF (fr5 (bk5 T fl st n f D)) i := fun i hi => by
    show lF ((fr5 (bk5 T fl st n f D)) ++ (bk5 T fl st n f D).dL ++ (bk5 T fl st n f D).zL) i = _
    rw [lF_left (by rw [List.length_append]; omega), lF_left (by omega)]
  have hfd : fdOf T fl n (lF (bk5 T fl st n f D).emL) = D := hb3 _ hgf
  have hgR : (bk5 T fl st n f D).gR = goodR T fl st n D := by
    show frR T fl st (bk5 T fl st n f D).emL.length (lF (bk5 T fl st n f D).emL) = _
    rw [hlen]
    unfold frR
    rw [if_pos hr, if_neg (by rw [hmi]; decide), if_neg (by rw [hwr]; decide), hfd, if_neg (by rw [hms]; decide), if_neg (by rw [hov]; decide)]
  refine ⟨⟨?_, by rw [hgR]; rfl, by rw [hgR]; rfl, ?_⟩, hlen, by rw [hgR, hg]⟩
  · refine ⟨fun h => ⟨hpd.1 h, hrg.pad.2⟩, fun _ => ⟨hrg.pa.1, hrg.pa.2, hrg.wt.1, hrg.wt.2⟩, fun _ => hrg.co, fun e i hi => ?_, fun _ => ⟨hrg.pm.1, by have := hrg.pm.2; show D.pm ≤ _; omega⟩, fun _ => ⟨⟨hrg.la.1, by have := hrg.la.2; show D.la ≤ _; omega⟩, hrg.co⟩, fun _ => ⟨hrg.sp.1, by have := hrg.sp.2; show D.sp ≤ _; omega⟩⟩
    have e' : T = 4 := e
    subst e'
    have hs6 := (h4 rfl).1
    rw [hD] at hs6
    have hi' : i < D.sn := hi
    have k1 := num_bd (n := n - i * 6) (f := fun j => f (i * 6 + j)) (fun j hj => hf _ (by omega)) 2 (by omega) (by decide)
    have k2 := num_bd (n := n - (i * 6 + 2)) (f := fun j => f (i * 6 + 2 + j)) (fun j hj => hf _ (by omega)) 4 (by omega) (by decide)
    have q1 := k1.2
    have q2 := k2.2
    simp only [Int.reducePow] at q1 q2
    exact ⟨⟨k1.1, q1⟩, ⟨k2.1, q2⟩⟩
  · rw [Fm5.Sm, hgR]
    refine ⟨⟨rfl, rfl, rfl, rfl⟩, ⟨rfl, fun i hi => ?_⟩, ⟨rfl, fun i hi => ?_⟩, rfl, rfl, rfl, rfl, rfl, rfl, rfl⟩
    · have hi' : i < upN n D.off (m0 D.pad) := hi
      show lF ((fr5 (bk5 T fl st n f D)) ++ (bk5 T fl st n f D).dL ++ (bk5 T fl st n f D).zL) (D.off + i) = f (D.off + i)
      have e1 : (bk5 T fl st n f D).dL.length = upN n D.off (m0 D.pad) := by simp [Fm5.dL, bk5]
      rw [lF_left (by rw [List.length_append]; omega), ← hb2, lF_right (by omega), hb2]
      exact lF_map (n := upN n D.off (m0 D.pad)) (f := fun i => f (D.off + i)) hi'
    · have hi' : i < D.sn := hi
      by_cases e : T = 4
      · subst e
        obtain ⟨hs6, hbf⟩ := h4 rfl
        rw [hD] at hs6 hbf
        have ho : n ≤ D.off := by
          have : (fdOf 4 fl n f).off = n := by unfold fdOf; rw [if_neg (by decide), if_neg (by decide), if_neg (by decide), if_neg (by decide), if_pos rfl]
          rw [hD] at this
          omega
        have hb : ∀ j, j < n → lF (bk5 4 fl st n f D).emL j = f j := fun j hj => by rw [hgf j (by omega), hbf j hj]
        exact ⟨num_ext5 2 fun j hj => hb _ (by omega), num_ext5 4 fun j hj => hb _ (by omega)⟩
      · rw [hsn e] at hi'
        omega
end Go.Proofs.Ytpnjamomkpkkeaa
