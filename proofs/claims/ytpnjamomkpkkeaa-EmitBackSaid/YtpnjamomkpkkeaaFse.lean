/- Layer 14: what a frame says does not hang on its padding: numbers. -/
import Derived.Test.YtpnjamomkpkkeaaFsd
namespace Go.Proofs.Ytpnjamomkpkkeaa
set_option linter.unusedVariables false
set_option linter.unusedSimpArgs false
open Go.RowKit

theorem num_ext {f g : Nat → Int} : ∀ k, (∀ i, i < k → f i = g i) → num f k = num g k
  | 0, _ => rfl
  | k + 1, h => by
    unfold num
    rw [num_ext k fun i hi => h i (by omega), h k (by omega)]

theorem fd_same {T fl : Int} {n : Nat} {f g : Nat → Int} (hf : Byt n f) (hms : (fdOf T fl n f).ms = false) (hov : ovB (fdOf T fl n f) n = false) (hfg : ∀ j, j + (m0 (fdOf T fl n f).pad).toNat < n → g j = f j) : fdOf T fl n g = fdOf T fl n f := by
  have hby : 0 < n → 0 ≤ f 0 ∧ f 0 ≤ 255 := fun h => hf 0 h
  by_cases h0' : T = 0
  · subst h0'
    cases e3 : hsB 0 fl 3 with
    | true =>
      have hfd : ∀ f, fdOf 0 fl n f = { pad := nbV f n 0 1, off := (nbT n 0 1), ms := (false || (nbM n 0 1)) } := fun f => by unfold fdOf; rw [if_pos rfl, if_pos e3]
      rw [hfd] at hms hov hfg ⊢
      rw [hfd]
      simp only [Bool.or_eq_false_iff] at hms
      obtain ⟨-, m0_⟩ := hms
      have L0_ := nbM_no m0_
      obtain ⟨V0_, T0_, M0_⟩ := nb_ok (f := f) (n := n) (t := 0) (s := 1) (by omega)
      obtain ⟨U0_, -, -⟩ := nb_ok (f := g) (n := n) (t := 0) (s := 1) (by omega)
      simp only [Nat.reduceAdd] at T0_
      simp only [V0_, T0_, U0_] at hov hfg ⊢
      have hb0 := hby (by omega)
      have hz : num (fun i => f (0 + i)) 1 = f 0 := num1 _
      rw [hz] at hov hfg
      have hov2 : ¬ (((n - 1 : Nat) : Int) < f 0) := by have h := of_decide_eq_false hov; rw [show m0 (f 0) = f 0 from m0_of hb0.1] at h; exact h
      rw [m0_of hb0.1] at hfg
      have C0_ : num (fun i => g (0 + i)) 1 = num (fun i => f (0 + i)) 1 := num_ext 1 (fun i hi => hfg (0 + i) (by omega))
      simp only [C0_]
    | false =>
      have hfd : ∀ f, fdOf 0 fl n f = { off := 0 } := fun f => by unfold fdOf; rw [if_pos rfl, if_neg (by rw [e3]; decide)]
      rw [hfd] at hms hov hfg ⊢
      rw [hfd]
  by_cases h1 : T = 1
  · subst h1
    cases e3 : hsB 1 fl 3 with
    | true =>
      cases e5 : hsB 1 fl 5 with
      | true =>
        have hfd : ∀ f, fdOf 1 fl n f = { pad := nbV f n 0 1, pa := lowN (nbV f n (nbT n 0 1) 4), al := lowB (nbV f n (nbT n 0 1) 4), wt := nbV f n (nbT n (nbT n 0 1) 4) 1, off := (nbT n (nbT n (nbT n 0 1) 4) 1), ms := (((false || (nbM n 0 1)) || nbM n (nbT n 0 1) 4) || nbM n (nbT n (nbT n 0 1) 4) 1) } := fun f => by unfold fdOf; rw [if_neg (by decide), if_pos rfl, if_pos e3, if_pos e5]
        rw [hfd] at hms hov hfg ⊢
        rw [hfd]
        simp only [Bool.or_eq_false_iff] at hms
        obtain ⟨⟨⟨-, m0_⟩, m1_⟩, m2_⟩ := hms
        have L0_ := nbM_no m0_
        obtain ⟨V0_, T0_, M0_⟩ := nb_ok (f := f) (n := n) (t := 0) (s := 1) (by omega)
        obtain ⟨U0_, -, -⟩ := nb_ok (f := g) (n := n) (t := 0) (s := 1) (by omega)
        simp only [Nat.reduceAdd] at T0_
        rw [T0_] at m1_
        have L1_ := nbM_no m1_
        obtain ⟨V1_, T1_, M1_⟩ := nb_ok (f := f) (n := n) (t := 1) (s := 4) (by omega)
        obtain ⟨U1_, -, -⟩ := nb_ok (f := g) (n := n) (t := 1) (s := 4) (by omega)
        simp only [Nat.reduceAdd] at T1_
        rw [T0_, T1_] at m2_
        have L2_ := nbM_no m2_
        obtain ⟨V2_, T2_, M2_⟩ := nb_ok (f := f) (n := n) (t := 5) (s := 1) (by omega)
        obtain ⟨U2_, -, -⟩ := nb_ok (f := g) (n := n) (t := 5) (s := 1) (by omega)
        simp only [Nat.reduceAdd] at T2_
        simp only [V0_, T0_, U0_, V1_, T1_, U1_, V2_, T2_, U2_] at hov hfg ⊢
        have hb0 := hby (by omega)
        have hz : num (fun i => f (0 + i)) 1 = f 0 := num1 _
        rw [hz] at hov hfg
        have hov2 : ¬ (((n - 6 : Nat) : Int) < f 0) := by have h := of_decide_eq_false hov; rw [show m0 (f 0) = f 0 from m0_of hb0.1] at h; exact h
        rw [m0_of hb0.1] at hfg
        have C0_ : num (fun i => g (0 + i)) 1 = num (fun i => f (0 + i)) 1 := num_ext 1 (fun i hi => hfg (0 + i) (by omega))
        have C1_ : num (fun i => g (1 + i)) 4 = num (fun i => f (1 + i)) 4 := num_ext 4 (fun i hi => hfg (1 + i) (by omega))
        have C2_ : num (fun i => g (5 + i)) 1 = num (fun i => f (5 + i)) 1 := num_ext 1 (fun i hi => hfg (5 + i) (by omega))
        simp only [C0_, C1_, C2_]
      | false =>
        have hfd : ∀ f, fdOf 1 fl n f = { pad := nbV f n 0 1, off := (nbT n 0 1), ms := (false || (nbM n 0 1)) } := fun f => by unfold fdOf; rw [if_neg (by decide), if_pos rfl, if_pos e3, if_neg (by rw [e5]; decide)]
        rw [hfd] at hms hov hfg ⊢
        rw [hfd]
        simp only [Bool.or_eq_false_iff] at hms
        obtain ⟨-, m0_⟩ := hms
        have L0_ := nbM_no m0_
        obtain ⟨V0_, T0_, M0_⟩ := nb_ok (f := f) (n := n) (t := 0) (s := 1) (by omega)
        obtain ⟨U0_, -, -⟩ := nb_ok (f := g) (n := n) (t := 0) (s := 1) (by omega)
        simp only [Nat.reduceAdd] at T0_
        simp only [V0_, T0_, U0_] at hov hfg ⊢
        have hb0 := hby (by omega)
        have hz : num (fun i => f (0 + i)) 1 = f 0 := num1 _
        rw [hz] at hov hfg
        have hov2 : ¬ (((n - 1 : Nat) : Int) < f 0) := by have h := of_decide_eq_false hov; rw [show m0 (f 0) = f 0 from m0_of hb0.1] at h; exact h
        rw [m0_of hb0.1] at hfg
        have C0_ : num (fun i => g (0 + i)) 1 = num (fun i => f (0 + i)) 1 := num_ext 1 (fun i hi => hfg (0 + i) (by omega))
        simp only [C0_]
    | false =>
      cases e5 : hsB 1 fl 5 with
      | true =>
        have hfd : ∀ f, fdOf 1 fl n f = { pa := lowN (nbV f n 0 4), al := lowB (nbV f n 0 4), wt := nbV f n (nbT n 0 4) 1, off := (nbT n (nbT n 0 4) 1), ms := ((false || nbM n 0 4) || nbM n (nbT n 0 4) 1) } := fun f => by unfold fdOf; rw [if_neg (by decide), if_pos rfl, if_neg (by rw [e3]; decide), if_pos e5]
        rw [hfd] at hms hov hfg ⊢
        rw [hfd]
        simp only [Bool.or_eq_false_iff] at hms
        obtain ⟨⟨-, m0_⟩, m1_⟩ := hms
        have L0_ := nbM_no m0_
        obtain ⟨V0_, T0_, M0_⟩ := nb_ok (f := f) (n := n) (t := 0) (s := 4) (by omega)
        obtain ⟨U0_, -, -⟩ := nb_ok (f := g) (n := n) (t := 0) (s := 4) (by omega)
        simp only [Nat.reduceAdd] at T0_
        rw [T0_] at m1_
        have L1_ := nbM_no m1_
        obtain ⟨V1_, T1_, M1_⟩ := nb_ok (f := f) (n := n) (t := 4) (s := 1) (by omega)
        obtain ⟨U1_, -, -⟩ := nb_ok (f := g) (n := n) (t := 4) (s := 1) (by omega)
        simp only [Nat.reduceAdd] at T1_
        simp only [V0_, T0_, U0_, V1_, T1_, U1_] at hov hfg ⊢
        have hz0 : (m0 (-1)).toNat = 0 := rfl
        rw [hz0] at hfg
        have C0_ : num (fun i => g (0 + i)) 4 = num (fun i => f (0 + i)) 4 := num_ext 4 (fun i hi => hfg (0 + i) (by omega))
        have C1_ : num (fun i => g (4 + i)) 1 = num (fun i => f (4 + i)) 1 := num_ext 1 (fun i hi => hfg (4 + i) (by omega))
        simp only [C0_, C1_]
      | false =>
        have hfd : ∀ f, fdOf 1 fl n f = { off := 0 } := fun f => by unfold fdOf; rw [if_neg (by decide), if_pos rfl, if_neg (by rw [e3]; decide), if_neg (by rw [e5]; decide)]
        rw [hfd] at hms hov hfg ⊢
        rw [hfd]
  by_cases h2 : T = 2
  · subst h2
    have hfd : ∀ f, fdOf 2 fl n f = { pa := lowN (nbV f n 0 4), al := lowB (nbV f n 0 4), wt := nbV f n (nbT n 0 4) 1, off := (nbT n (nbT n 0 4) 1), ms := ((false || nbM n 0 4) || nbM n (nbT n 0 4) 1) } := fun f => by unfold fdOf; rw [if_neg (by decide), if_neg (by decide), if_pos rfl]
    rw [hfd] at hms hov hfg ⊢
    rw [hfd]
    simp only [Bool.or_eq_false_iff] at hms
    obtain ⟨⟨-, m0_⟩, m1_⟩ := hms
    have L0_ := nbM_no m0_
    obtain ⟨V0_, T0_, M0_⟩ := nb_ok (f := f) (n := n) (t := 0) (s := 4) (by omega)
    obtain ⟨U0_, -, -⟩ := nb_ok (f := g) (n := n) (t := 0) (s := 4) (by omega)
    simp only [Nat.reduceAdd] at T0_
    rw [T0_] at m1_
    have L1_ := nbM_no m1_
    obtain ⟨V1_, T1_, M1_⟩ := nb_ok (f := f) (n := n) (t := 4) (s := 1) (by omega)
    obtain ⟨U1_, -, -⟩ := nb_ok (f := g) (n := n) (t := 4) (s := 1) (by omega)
    simp only [Nat.reduceAdd] at T1_
    simp only [V0_, T0_, U0_, V1_, T1_, U1_] at hov hfg ⊢
    have hz0 : (m0 (-1)).toNat = 0 := rfl
    rw [hz0] at hfg
    have C0_ : num (fun i => g (0 + i)) 4 = num (fun i => f (0 + i)) 4 := num_ext 4 (fun i hi => hfg (0 + i) (by omega))
    have C1_ : num (fun i => g (4 + i)) 1 = num (fun i => f (4 + i)) 1 := num_ext 1 (fun i hi => hfg (4 + i) (by omega))
    simp only [C0_, C1_]
  by_cases h3 : T = 3
  · subst h3
    have hfd : ∀ f, fdOf 3 fl n f = { co := nbV f n 0 4, off := (nbT n 0 4), ms := (false || nbM n 0 4) } := fun f => by unfold fdOf; rw [if_neg (by decide), if_neg (by decide), if_neg (by decide), if_pos rfl]
    rw [hfd] at hms hov hfg ⊢
    rw [hfd]
    simp only [Bool.or_eq_false_iff] at hms
    obtain ⟨-, m0_⟩ := hms
    have L0_ := nbM_no m0_
    obtain ⟨V0_, T0_, M0_⟩ := nb_ok (f := f) (n := n) (t := 0) (s := 4) (by omega)
    obtain ⟨U0_, -, -⟩ := nb_ok (f := g) (n := n) (t := 0) (s := 4) (by omega)
    simp only [Nat.reduceAdd] at T0_
    simp only [V0_, T0_, U0_] at hov hfg ⊢
    have hz0 : (m0 (-1)).toNat = 0 := rfl
    rw [hz0] at hfg
    have C0_ : num (fun i => g (0 + i)) 4 = num (fun i => f (0 + i)) 4 := num_ext 4 (fun i hi => hfg (0 + i) (by omega))
    simp only [C0_]
  by_cases h4 : T = 4
  · subst h4
    have hfd : ∀ f, fdOf 4 fl n f = { sn := nsN (n - 0), off := n, ms := (false || decide ((n - 0) % 6 ≠ 0)) } := fun f => by unfold fdOf; rw [if_neg (by decide), if_neg (by decide), if_neg (by decide), if_neg (by decide), if_pos rfl]
    rw [hfd] at hms hov hfg ⊢
    rw [hfd]
  by_cases h5 : T = 5
  · subst h5
    cases e3 : hsB 5 fl 3 with
    | true =>
      have hfd : ∀ f, fdOf 5 fl n f = { pad := nbV f n 0 1, pm := lowN (nbV f n (nbT n 0 1) 4), off := (nbT n (nbT n 0 1) 4), ms := ((false || (nbM n 0 1)) || nbM n (nbT n 0 1) 4) } := fun f => by unfold fdOf; rw [if_neg (by decide), if_neg (by decide), if_neg (by decide), if_neg (by decide), if_neg (by decide), if_pos rfl, if_pos e3]
      rw [hfd] at hms hov hfg ⊢
      rw [hfd]
      simp only [Bool.or_eq_false_iff] at hms
      obtain ⟨⟨-, m0_⟩, m1_⟩ := hms
      have L0_ := nbM_no m0_
      obtain ⟨V0_, T0_, M0_⟩ := nb_ok (f := f) (n := n) (t := 0) (s := 1) (by omega)
      obtain ⟨U0_, -, -⟩ := nb_ok (f := g) (n := n) (t := 0) (s := 1) (by omega)
      simp only [Nat.reduceAdd] at T0_
      rw [T0_] at m1_
      have L1_ := nbM_no m1_
      obtain ⟨V1_, T1_, M1_⟩ := nb_ok (f := f) (n := n) (t := 1) (s := 4) (by omega)
      obtain ⟨U1_, -, -⟩ := nb_ok (f := g) (n := n) (t := 1) (s := 4) (by omega)
      simp only [Nat.reduceAdd] at T1_
      simp only [V0_, T0_, U0_, V1_, T1_, U1_] at hov hfg ⊢
      have hb0 := hby (by omega)
      have hz : num (fun i => f (0 + i)) 1 = f 0 := num1 _
      rw [hz] at hov hfg
      have hov2 : ¬ (((n - 5 : Nat) : Int) < f 0) := by have h := of_decide_eq_false hov; rw [show m0 (f 0) = f 0 from m0_of hb0.1] at h; exact h
      rw [m0_of hb0.1] at hfg
      have C0_ : num (fun i => g (0 + i)) 1 = num (fun i => f (0 + i)) 1 := num_ext 1 (fun i hi => hfg (0 + i) (by omega))
      have C1_ : num (fun i => g (1 + i)) 4 = num (fun i => f (1 + i)) 4 := num_ext 4 (fun i hi => hfg (1 + i) (by omega))
      simp only [C0_, C1_]
    | false =>
      have hfd : ∀ f, fdOf 5 fl n f = { pm := lowN (nbV f n 0 4), off := (nbT n 0 4), ms := (false || nbM n 0 4) } := fun f => by unfold fdOf; rw [if_neg (by decide), if_neg (by decide), if_neg (by decide), if_neg (by decide), if_neg (by decide), if_pos rfl, if_neg (by rw [e3]; decide)]
      rw [hfd] at hms hov hfg ⊢
      rw [hfd]
      simp only [Bool.or_eq_false_iff] at hms
      obtain ⟨-, m0_⟩ := hms
      have L0_ := nbM_no m0_
      obtain ⟨V0_, T0_, M0_⟩ := nb_ok (f := f) (n := n) (t := 0) (s := 4) (by omega)
      obtain ⟨U0_, -, -⟩ := nb_ok (f := g) (n := n) (t := 0) (s := 4) (by omega)
      simp only [Nat.reduceAdd] at T0_
      simp only [V0_, T0_, U0_] at hov hfg ⊢
      have hz0 : (m0 (-1)).toNat = 0 := rfl
      rw [hz0] at hfg
      have C0_ : num (fun i => g (0 + i)) 4 = num (fun i => f (0 + i)) 4 := num_ext 4 (fun i hi => hfg (0 + i) (by omega))
      simp only [C0_]
  by_cases h7 : T = 7
  · subst h7
    have hfd : ∀ f, fdOf 7 fl n f = { la := lowN (nbV f n 0 4), co := nbV f n (nbT n 0 4) 4, off := (nbT n (nbT n 0 4) 4), ms := ((false || nbM n 0 4) || nbM n (nbT n 0 4) 4) } := fun f => by unfold fdOf; rw [if_neg (by decide), if_neg (by decide), if_neg (by decide), if_neg (by decide), if_neg (by decide), if_neg (by decide), if_pos rfl]
    rw [hfd] at hms hov hfg ⊢
    rw [hfd]
    simp only [Bool.or_eq_false_iff] at hms
    obtain ⟨⟨-, m0_⟩, m1_⟩ := hms
    have L0_ := nbM_no m0_
    obtain ⟨V0_, T0_, M0_⟩ := nb_ok (f := f) (n := n) (t := 0) (s := 4) (by omega)
    obtain ⟨U0_, -, -⟩ := nb_ok (f := g) (n := n) (t := 0) (s := 4) (by omega)
    simp only [Nat.reduceAdd] at T0_
    rw [T0_] at m1_
    have L1_ := nbM_no m1_
    obtain ⟨V1_, T1_, M1_⟩ := nb_ok (f := f) (n := n) (t := 4) (s := 4) (by omega)
    obtain ⟨U1_, -, -⟩ := nb_ok (f := g) (n := n) (t := 4) (s := 4) (by omega)
    simp only [Nat.reduceAdd] at T1_
    simp only [V0_, T0_, U0_, V1_, T1_, U1_] at hov hfg ⊢
    have hz0 : (m0 (-1)).toNat = 0 := rfl
    rw [hz0] at hfg
    have C0_ : num (fun i => g (0 + i)) 4 = num (fun i => f (0 + i)) 4 := num_ext 4 (fun i hi => hfg (0 + i) (by omega))
    have C1_ : num (fun i => g (4 + i)) 4 = num (fun i => f (4 + i)) 4 := num_ext 4 (fun i hi => hfg (4 + i) (by omega))
    simp only [C0_, C1_]
  by_cases h8 : T = 8
  · subst h8
    have hfd : ∀ f, fdOf 8 fl n f = { sp := lowN (nbV f n 0 4), off := (nbT n 0 4), ms := (false || nbM n 0 4) } := fun f => by unfold fdOf; rw [if_neg (by decide), if_neg (by decide), if_neg (by decide), if_neg (by decide), if_neg (by decide), if_neg (by decide), if_neg (by decide), if_pos rfl]
    rw [hfd] at hms hov hfg ⊢
    rw [hfd]
    simp only [Bool.or_eq_false_iff] at hms
    obtain ⟨-, m0_⟩ := hms
    have L0_ := nbM_no m0_
    obtain ⟨V0_, T0_, M0_⟩ := nb_ok (f := f) (n := n) (t := 0) (s := 4) (by omega)
    obtain ⟨U0_, -, -⟩ := nb_ok (f := g) (n := n) (t := 0) (s := 4) (by omega)
    simp only [Nat.reduceAdd] at T0_
    simp only [V0_, T0_, U0_] at hov hfg ⊢
    have hz0 : (m0 (-1)).toNat = 0 := rfl
    rw [hz0] at hfg
    have C0_ : num (fun i => g (0 + i)) 4 = num (fun i => f (0 + i)) 4 := num_ext 4 (fun i hi => hfg (0 + i) (by omega))
    simp only [C0_]
  have hfd : ∀ f, fdOf T fl n f = { off := 0 } := fun f => by unfold fdOf; rw [if_neg h0', if_neg h1, if_neg h2, if_neg h3, if_neg h4, if_neg h5, if_neg h7, if_neg h8]
  rw [hfd] at hms hov hfg ⊢
  rw [hfd]
theorem fd_sn {T fl : Int} {n : Nat} {f : Nat → Int} (h : (fdOf T fl n f).sn ≠ 0) : (fdOf T fl n f).pad = -1 ∧ (fdOf T fl n f).sn * 6 ≤ n := by
  revert h
  unfold fdOf
  (repeat' split) <;> intro h <;> first | exact absurd rfl h | exact ⟨rfl, by dsimp only; unfold nsN; split <;> omega⟩
/-- What a right frame says is said of any bytes that are the same but for the padding. -/
theorem pad_same {T fl st : Int} {n : Nat} {f g : Nat → Int} {G : FR} (hG : frR T fl st n f = G) (h0 : G.fs = 0) (hr : HdR n T fl st) (hf : Byt n f) (hfg : ∀ j, j + (m0 G.pad).toNat < n → g j = f j) :
    frR T fl st n g = G ∧ (∀ i, i < G.N → g (G.off + i) = f (G.off + i)) ∧ (∀ i, i < G.sn → sF g i = sF f i ∧ sG g i = sG f i) ∧ G.pad ≤ n ∧ G.fc = 0 := by
  have hsz : szS T ≠ 0 := by unfold szS; split <;> decide
  subst hG
  have key : misB T st = false ∧ wrsB T fl n = false ∧ (fdOf T fl n f).ms = false ∧ ovB (fdOf T fl n f) n = false := by
    unfold frR at h0
    rw [if_pos hr] at h0
    cases hm : misB T st with
    | true => rw [hm, if_pos rfl] at h0; exact absurd h0 (by decide)
    | false =>
    rw [hm, if_neg (by decide)] at h0
    cases hs : wrsB T fl n with
    | true => rw [hs, if_pos rfl] at h0; exact absurd h0 hsz
    | false =>
    rw [hs, if_neg (by decide)] at h0
    cases hms : (fdOf T fl n f).ms with
    | true => rw [hms, if_pos rfl] at h0; exact absurd h0 hsz
    | false =>
    rw [hms, if_neg (by decide)] at h0
    cases hov : ovB (fdOf T fl n f) n with
    | true => rw [hov, if_pos rfl] at h0; exact absurd h0 (by decide)
    | false => exact ⟨rfl, rfl, rfl, rfl⟩
  obtain ⟨hm, hs, hms, hov⟩ := key
  have eF : frR T fl st n f = goodR T fl st n (fdOf T fl n f) := by unfold frR; rw [if_pos hr, hm, if_neg (by decide), hs, if_neg (by decide), hms, if_neg (by decide), hov, if_neg (by decide)]
  rw [eF] at hfg ⊢
  have hfg2 : ∀ j, j + (m0 (fdOf T fl n f).pad).toNat < n → g j = f j := hfg
  have eS := fd_same hf hms hov hfg2
  have eG : frR T fl st n g = goodR T fl st n (fdOf T fl n f) := by unfold frR; rw [if_pos hr, hm, if_neg (by decide), hs, if_neg (by decide), eS, hms, if_neg (by decide), hov, if_neg (by decide)]
  rw [eG]
  have hoff := fd_off T fl n f
  have hsn := fd_sn (T := T) (fl := fl) (n := n) (f := f)
  clear eS eG eF h0
  generalize fdOf T fl n f = D at *
  have hov2 : ¬ (((n - D.off : Nat) : Int) < m0 D.pad) := of_decide_eq_false hov
  have hm0 : 0 ≤ m0 D.pad := by unfold m0; split <;> omega
  have hmp : D.pad ≤ m0 D.pad := by unfold m0; split <;> omega
  refine ⟨rfl, fun i hi => hfg2 _ ?_, fun i hi => ?_, ?_, rfl⟩
  · have hi2 : i < upN n D.off (m0 D.pad) := hi
    unfold upN at hi2
    rw [if_pos (by omega)] at hi2
    show D.off + i + _ < n
    omega
  · have hi2 : i < D.sn := hi
    obtain ⟨p1, p2⟩ := hsn (by omega)
    rw [p1] at hfg2
    have hz0 : (m0 (-1)).toNat = 0 := rfl
    rw [hz0] at hfg2
    unfold sF sG
    exact ⟨num_ext 2 fun j hj => hfg2 _ (by omega), num_ext 4 fun j hj => hfg2 _ (by omega)⟩
  · show D.pad ≤ n
    omega
end Go.Proofs.Ytpnjamomkpkkeaa
