/- Layer 15: what a frame says is written as it was. No walk. -/
import Derived.Test.YtpnjamomkpkkeaaEm1
import Derived.Test.YtpnjamomkpkkeaaSetV
namespace Go.Proofs.Ytpnjamomkpkkeaa
set_option linter.unusedVariables false
set_option linter.unusedSimpArgs false
open Go.RowKit

theorem nb_ok5 {f : Nat → Int} {n t s : Nat} (h : t + s ≤ n) : nbV f n t s = num (fun i => f (t + i)) s ∧ nbT n t s = t + s ∧ nbM n t s = false := by
  unfold nbV nbT nbM
  rw [if_pos h, if_pos h, decide_eq_true h]
  exact ⟨rfl, rfl, rfl⟩
theorem nbM_no5 {n t s : Nat} (h : nbM n t s = false) : t + s ≤ n := by
  unfold nbM at h
  simpa using h
def FL (t s : Nat) (f : Nat → Int) : List Int := (List.range s).map fun i => f (t + i)
theorem FL_len (t s : Nat) (f : Nat → Int) : (FL t s f).length = s := by simp [FL]
theorem FL_app (t a b : Nat) (f : Nat → Int) : FL t a f ++ FL (t + a) b f = FL t (a + b) f := by
  unfold FL
  rw [List.range_add, List.map_append, List.map_map]
  congr 1
  apply List.map_congr_left
  intro i _
  show f (t + a + i) = f (t + (a + i))
  rw [Nat.add_assoc]
theorem numL_fl {f : Nat → Int} {n : Nat} (hf : Byt n f) (t s : Nat) (h : t + s ≤ n) (h1 : 1 ≤ s) (h4 : s ≤ 4) : numL (num (fun i => f (t + i)) s) s = FL t s f := by
  unfold numL FL
  apply List.map_congr_left
  intro i hi
  exact byteAt_num (n := n - t) (f := fun i => f (t + i)) (fun i hi => hf (t + i) (by omega)) s h1 h4 (by omega) i (List.mem_range.1 hi)
theorem num4_rng {f : Nat → Int} {n : Nat} (hf : Byt n f) (t : Nat) (h : t + 4 ≤ n) : 0 ≤ num (fun i => f (t + i)) 4 ∧ num (fun i => f (t + i)) 4 < 4294967296 := by
  have h := num_bd (n := n - t) (f := fun i => f (t + i)) (fun i hi => hf (t + i) (by omega)) 4 (by omega) (by decide)
  refine ⟨h.1, ?_⟩
  have h2 := h.2
  simp at h2
  exact h2
theorem wrd_low {x : Int} (h : 0 ≤ x ∧ x < 4294967296) : wrd5 (lowN x) (lowB x) = x := by
  by_cases h1 : x < 2147483648
  · have e1 : lowN x = x := by unfold lowN; rw [if_neg (show ¬ (x < 0 ∨ 4294967296 ≤ x) by omega), if_pos h1]
    have e2 : lowB x = false := decide_eq_false (show ¬ (2147483648 ≤ x ∧ x < 4294967296) by omega)
    unfold wrd5
    rw [e1, e2, if_neg (by decide)]
  · have e1 : lowN x = x - 2147483648 := by unfold lowN; rw [if_neg (show ¬ (x < 0 ∨ 4294967296 ≤ x) by omega), if_neg h1]
    have e2 : lowB x = true := decide_eq_true (show 2147483648 ≤ x ∧ x < 4294967296 by omega)
    unfold wrd5
    rw [e1, e2, if_pos rfl]
    omega
theorem hsB5_no {T fl : Int} (h : T ≠ 1) : hsB T fl 5 = false := by
  unfold hsB usedN
  rw [if_neg h]
  (repeat' split) <;> simp [Nat.testBit]
/-- The frame that is said. -/
def bk5 (T fl st : Int) (n : Nat) (f : Nat → Int) (D : FD) : Fm5 := { T := T, fl := fl, st := st, pad := D.pad, nd := upN n D.off (m0 D.pad), d := fun i => f (D.off + i), ns := D.sn, s := sF f, g := sG f, wt := D.wt, pa := D.pa, al := D.al, pm := D.pm, la := D.la, co := D.co, sp := D.sp }
def fr5 (X : Fm5) : List Int := X.padL ++ X.prL ++ X.tyL
theorem lowN_low (x : Int) : lowN (lowN x) = lowN x := by
  have h := lowN_rng x
  generalize lowN x = y at h
  unfold lowN
  rw [if_neg (show ¬ (y < 0 ∨ 4294967296 ≤ y) by omega), if_pos (show y < 2147483648 by omega)]
theorem num_of1 {g : Nat → Int} {t : Nat} {v : Int} (h : ∀ i, i < 1 → g (t + i) = byteAt v 1 i) (hv : 0 ≤ v ∧ v ≤ 255) : num (fun i => g (t + i)) 1 = v := by
  simp only [num, h 0 (by decide)]
  unfold byteAt
  simp
  omega
theorem num_of4 {g : Nat → Int} {t : Nat} {v : Int} (h : ∀ i, i < 4 → g (t + i) = byteAt v 4 i) (hv : 0 ≤ v ∧ v < 4294967296) : num (fun i => g (t + i)) 4 = v := by
  simp only [num, h 0 (by decide), h 1 (by decide), h 2 (by decide), h 3 (by decide)]
  unfold byteAt
  simp
  omega
theorem lt4 {i : Nat} (h : i < 4) : i = 0 ∨ i = 1 ∨ i = 2 ∨ i = 3 := by omega
theorem num1_rng {f : Nat → Int} {n : Nat} (hf : Byt n f) (t : Nat) (h : t + 1 ≤ n) : 0 ≤ num (fun i => f (t + i)) 1 ∧ num (fun i => f (t + i)) 1 ≤ 255 := by
  have h := hf t (by omega)
  simp only [num]
  simp
  exact h
def BkP (T fl st : Int) (n : Nat) (f : Nat → Int) : Prop := (fdOf T fl n f).off ≤ n ∧ (fr5 (bk5 T fl st n f (fdOf T fl n f))).length = (fdOf T fl n f).off ∧ ∀ g : Nat → Int, (∀ i, i < (fdOf T fl n f).off → g i = lF (fr5 (bk5 T fl st n f (fdOf T fl n f))) i) → fdOf T fl n g = fdOf T fl n f
theorem bk_0_t_n (fl st : Int) {n : Nat} {f : Nat → Int} (hf : Byt n f) (e3 : hsB 0 fl 3 = true) (hms : (fdOf 0 fl n f).ms = false) : BkP 0 fl st n f := by
  have e5 : hsB 0 fl 5 = false := hsB5_no (by decide)
  have hfd : ∀ f, fdOf 0 fl n f = { pad := nbV f n 0 1, off := (nbT n 0 1), ms := (false || nbM n 0 1) } := fun f => by unfold fdOf; rw [if_pos rfl, if_pos e3]
  unfold BkP
  rw [hfd] at hms
  simp only [Bool.or_eq_false_iff] at hms
  obtain ⟨-, m0_⟩ := hms
  have L0_ := nbM_no5 m0_
  obtain ⟨V0_, T0_, M0_⟩ := nb_ok5 (f := f) (n := n) (t := 0) (s := 1) (by omega)
  simp only [Nat.reduceAdd] at T0_
  have R0_ := num1_rng hf 0 (by omega)
  generalize hx0 : num (fun i => f (0 + i)) 1 = x0 at V0_ R0_
  have hD : fdOf 0 fl n f = { pad := x0, off := 1, ms := (false || nbM n 0 1) } := by rw [hfd]; simp only [T0_, V0_]
  have hX : fr5 (bk5 0 fl st n f (fdOf 0 fl n f)) = numL x0 1 := by
    rw [hD]
    simp [fr5, bk5, Fm5.padL, Fm5.prL, Fm5.tyL, Fm5.P3, Fm5.P5, e3, e5]
  have ho : (fdOf 0 fl n f).off = 1 := by rw [hD]
  refine ⟨by omega, by rw [hX, ho]; simp [numL_len], fun g hg => ?_⟩
  rw [ho, hX] at hg
  rw [hD, hfd g]
  obtain ⟨U0_, -, -⟩ := nb_ok5 (f := g) (n := n) (t := 0) (s := 1) (by omega)
  have G0_ := num_of1 (g := g) (t := 0) (v := x0) (fun i hi => by
    obtain rfl : i = 0 := by omega
    rw [hg _ (by decide)]
    simp [lF, numL, List.range_succ]) R0_
  simp only [T0_, U0_, G0_, lowN_low]
theorem bk_0_f_n (fl st : Int) {n : Nat} {f : Nat → Int} (hf : Byt n f) (e3 : hsB 0 fl 3 = false) (hms : (fdOf 0 fl n f).ms = false) : BkP 0 fl st n f := by
  have e5 : hsB 0 fl 5 = false := hsB5_no (by decide)
  have hfd : ∀ f, fdOf 0 fl n f = { off := 0 } := fun f => by unfold fdOf; rw [if_pos rfl, if_neg (by rw [e3]; decide)]
  unfold BkP
  rw [hfd] at hms
  have hD : fdOf 0 fl n f = { off := 0 } := by rw [hfd]
  have hX : fr5 (bk5 0 fl st n f (fdOf 0 fl n f)) = [] := by
    rw [hD]
    simp [fr5, bk5, Fm5.padL, Fm5.prL, Fm5.tyL, Fm5.P3, Fm5.P5, e3, e5]
  have ho : (fdOf 0 fl n f).off = 0 := by rw [hD]
  refine ⟨by omega, by rw [hX, ho]; simp [numL_len], fun g hg => ?_⟩
  rw [hfd, hfd]
theorem bk_1_t_t (fl st : Int) {n : Nat} {f : Nat → Int} (hf : Byt n f) (e3 : hsB 1 fl 3 = true) (e5 : hsB 1 fl 5 = true) (hms : (fdOf 1 fl n f).ms = false) : BkP 1 fl st n f := by
  have hfd : ∀ f, fdOf 1 fl n f = { pad := nbV f n 0 1, pa := lowN (nbV f n (nbT n 0 1) 4), al := lowB (nbV f n (nbT n 0 1) 4), wt := nbV f n (nbT n (nbT n 0 1) 4) 1, off := (nbT n (nbT n (nbT n 0 1) 4) 1), ms := (((false || nbM n 0 1) || nbM n (nbT n 0 1) 4) || nbM n (nbT n (nbT n 0 1) 4) 1) } := fun f => by unfold fdOf; rw [if_neg (by decide), if_pos rfl, if_pos e3, if_pos e5]
  unfold BkP
  rw [hfd] at hms
  simp only [Bool.or_eq_false_iff] at hms
  obtain ⟨⟨⟨-, m0_⟩, m1_⟩, m2_⟩ := hms
  have L0_ := nbM_no5 m0_
  obtain ⟨V0_, T0_, M0_⟩ := nb_ok5 (f := f) (n := n) (t := 0) (s := 1) (by omega)
  simp only [Nat.reduceAdd] at T0_
  have R0_ := num1_rng hf 0 (by omega)
  generalize hx0 : num (fun i => f (0 + i)) 1 = x0 at V0_ R0_
  rw [T0_] at m1_
  have L1_ := nbM_no5 m1_
  obtain ⟨V1_, T1_, M1_⟩ := nb_ok5 (f := f) (n := n) (t := 1) (s := 4) (by omega)
  simp only [Nat.reduceAdd] at T1_
  have R1_ := num4_rng hf 1 (by omega)
  generalize hx1 : num (fun i => f (1 + i)) 4 = x1 at V1_ R1_
  rw [T0_, T1_] at m2_
  have L2_ := nbM_no5 m2_
  obtain ⟨V2_, T2_, M2_⟩ := nb_ok5 (f := f) (n := n) (t := 5) (s := 1) (by omega)
  simp only [Nat.reduceAdd] at T2_
  have R2_ := num1_rng hf 5 (by omega)
  generalize hx2 : num (fun i => f (5 + i)) 1 = x2 at V2_ R2_
  have hD : fdOf 1 fl n f = { pad := x0, pa := lowN x1, al := lowB x1, wt := x2, off := 6, ms := (((false || nbM n 0 1) || nbM n 1 4) || nbM n 5 1) } := by rw [hfd]; simp only [T0_, T1_, T2_, V0_, V1_, V2_]
  have hX : fr5 (bk5 1 fl st n f (fdOf 1 fl n f)) = numL x0 1 ++ numL (wrd5 (lowN x1) (lowB x1)) 4 ++ numL x2 1 := by
    rw [hD]
    simp [fr5, bk5, Fm5.padL, Fm5.prL, Fm5.tyL, Fm5.P3, Fm5.P5, e3, e5]
  have ho : (fdOf 1 fl n f).off = 6 := by rw [hD]
  refine ⟨by omega, by rw [hX, ho]; simp [numL_len], fun g hg => ?_⟩
  rw [ho, hX] at hg
  rw [hD, hfd g]
  obtain ⟨U0_, -, -⟩ := nb_ok5 (f := g) (n := n) (t := 0) (s := 1) (by omega)
  have G0_ := num_of1 (g := g) (t := 0) (v := x0) (fun i hi => by
    obtain rfl : i = 0 := by omega
    rw [hg _ (by decide)]
    simp [lF, numL, List.range_succ]) R0_
  obtain ⟨U1_, -, -⟩ := nb_ok5 (f := g) (n := n) (t := 1) (s := 4) (by omega)
  have G1_ := num_of4 (g := g) (t := 1) (v := (wrd5 (lowN x1) (lowB x1))) (fun i hi => by
    rcases lt4 hi with rfl | rfl | rfl | rfl <;> rw [hg _ (by decide)] <;> simp [lF, numL, List.range_succ]) (by rw [wrd_low R1_]; exact R1_)
  rw [wrd_low R1_] at G1_
  obtain ⟨U2_, -, -⟩ := nb_ok5 (f := g) (n := n) (t := 5) (s := 1) (by omega)
  have G2_ := num_of1 (g := g) (t := 5) (v := x2) (fun i hi => by
    obtain rfl : i = 0 := by omega
    rw [hg _ (by decide)]
    simp [lF, numL, List.range_succ]) R2_
  simp only [T0_, T1_, T2_, U0_, G0_, U1_, G1_, U2_, G2_, lowN_low]
theorem bk_1_t_f (fl st : Int) {n : Nat} {f : Nat → Int} (hf : Byt n f) (e3 : hsB 1 fl 3 = true) (e5 : hsB 1 fl 5 = false) (hms : (fdOf 1 fl n f).ms = false) : BkP 1 fl st n f := by
  have hfd : ∀ f, fdOf 1 fl n f = { pad := nbV f n 0 1, off := (nbT n 0 1), ms := (false || nbM n 0 1) } := fun f => by unfold fdOf; rw [if_neg (by decide), if_pos rfl, if_pos e3, if_neg (by rw [e5]; decide)]
  unfold BkP
  rw [hfd] at hms
  simp only [Bool.or_eq_false_iff] at hms
  obtain ⟨-, m0_⟩ := hms
  have L0_ := nbM_no5 m0_
  obtain ⟨V0_, T0_, M0_⟩ := nb_ok5 (f := f) (n := n) (t := 0) (s := 1) (by omega)
  simp only [Nat.reduceAdd] at T0_
  have R0_ := num1_rng hf 0 (by omega)
  generalize hx0 : num (fun i => f (0 + i)) 1 = x0 at V0_ R0_
  have hD : fdOf 1 fl n f = { pad := x0, off := 1, ms := (false || nbM n 0 1) } := by rw [hfd]; simp only [T0_, V0_]
  have hX : fr5 (bk5 1 fl st n f (fdOf 1 fl n f)) = numL x0 1 := by
    rw [hD]
    simp [fr5, bk5, Fm5.padL, Fm5.prL, Fm5.tyL, Fm5.P3, Fm5.P5, e3, e5]
  have ho : (fdOf 1 fl n f).off = 1 := by rw [hD]
  refine ⟨by omega, by rw [hX, ho]; simp [numL_len], fun g hg => ?_⟩
  rw [ho, hX] at hg
  rw [hD, hfd g]
  obtain ⟨U0_, -, -⟩ := nb_ok5 (f := g) (n := n) (t := 0) (s := 1) (by omega)
  have G0_ := num_of1 (g := g) (t := 0) (v := x0) (fun i hi => by
    obtain rfl : i = 0 := by omega
    rw [hg _ (by decide)]
    simp [lF, numL, List.range_succ]) R0_
  simp only [T0_, U0_, G0_, lowN_low]
theorem bk_1_f_t (fl st : Int) {n : Nat} {f : Nat → Int} (hf : Byt n f) (e3 : hsB 1 fl 3 = false) (e5 : hsB 1 fl 5 = true) (hms : (fdOf 1 fl n f).ms = false) : BkP 1 fl st n f := by
  have hfd : ∀ f, fdOf 1 fl n f = { pa := lowN (nbV f n 0 4), al := lowB (nbV f n 0 4), wt := nbV f n (nbT n 0 4) 1, off := (nbT n (nbT n 0 4) 1), ms := ((false || nbM n 0 4) || nbM n (nbT n 0 4) 1) } := fun f => by unfold fdOf; rw [if_neg (by decide), if_pos rfl, if_neg (by rw [e3]; decide), if_pos e5]
  unfold BkP
  rw [hfd] at hms
  simp only [Bool.or_eq_false_iff] at hms
  obtain ⟨⟨-, m0_⟩, m1_⟩ := hms
  have L0_ := nbM_no5 m0_
  obtain ⟨V0_, T0_, M0_⟩ := nb_ok5 (f := f) (n := n) (t := 0) (s := 4) (by omega)
  simp only [Nat.reduceAdd] at T0_
  have R0_ := num4_rng hf 0 (by omega)
  generalize hx0 : num (fun i => f (0 + i)) 4 = x0 at V0_ R0_
  rw [T0_] at m1_
  have L1_ := nbM_no5 m1_
  obtain ⟨V1_, T1_, M1_⟩ := nb_ok5 (f := f) (n := n) (t := 4) (s := 1) (by omega)
  simp only [Nat.reduceAdd] at T1_
  have R1_ := num1_rng hf 4 (by omega)
  generalize hx1 : num (fun i => f (4 + i)) 1 = x1 at V1_ R1_
  have hD : fdOf 1 fl n f = { pa := lowN x0, al := lowB x0, wt := x1, off := 5, ms := ((false || nbM n 0 4) || nbM n 4 1) } := by rw [hfd]; simp only [T0_, T1_, V0_, V1_]
  have hX : fr5 (bk5 1 fl st n f (fdOf 1 fl n f)) = numL (wrd5 (lowN x0) (lowB x0)) 4 ++ numL x1 1 := by
    rw [hD]
    simp [fr5, bk5, Fm5.padL, Fm5.prL, Fm5.tyL, Fm5.P3, Fm5.P5, e3, e5]
  have ho : (fdOf 1 fl n f).off = 5 := by rw [hD]
  refine ⟨by omega, by rw [hX, ho]; simp [numL_len], fun g hg => ?_⟩
  rw [ho, hX] at hg
  rw [hD, hfd g]
  obtain ⟨U0_, -, -⟩ := nb_ok5 (f := g) (n := n) (t := 0) (s := 4) (by omega)
  have G0_ := num_of4 (g := g) (t := 0) (v := (wrd5 (lowN x0) (lowB x0))) (fun i hi => by
    rcases lt4 hi with rfl | rfl | rfl | rfl <;> rw [hg _ (by decide)] <;> simp [lF, numL, List.range_succ]) (by rw [wrd_low R0_]; exact R0_)
  rw [wrd_low R0_] at G0_
  obtain ⟨U1_, -, -⟩ := nb_ok5 (f := g) (n := n) (t := 4) (s := 1) (by omega)
  have G1_ := num_of1 (g := g) (t := 4) (v := x1) (fun i hi => by
    obtain rfl : i = 0 := by omega
    rw [hg _ (by decide)]
    simp [lF, numL, List.range_succ]) R1_
  simp only [T0_, T1_, U0_, G0_, U1_, G1_, lowN_low]
theorem bk_1_f_f (fl st : Int) {n : Nat} {f : Nat → Int} (hf : Byt n f) (e3 : hsB 1 fl 3 = false) (e5 : hsB 1 fl 5 = false) (hms : (fdOf 1 fl n f).ms = false) : BkP 1 fl st n f := by
  have hfd : ∀ f, fdOf 1 fl n f = { off := 0 } := fun f => by unfold fdOf; rw [if_neg (by decide), if_pos rfl, if_neg (by rw [e3]; decide), if_neg (by rw [e5]; decide)]
  unfold BkP
  rw [hfd] at hms
  have hD : fdOf 1 fl n f = { off := 0 } := by rw [hfd]
  have hX : fr5 (bk5 1 fl st n f (fdOf 1 fl n f)) = [] := by
    rw [hD]
    simp [fr5, bk5, Fm5.padL, Fm5.prL, Fm5.tyL, Fm5.P3, Fm5.P5, e3, e5]
  have ho : (fdOf 1 fl n f).off = 0 := by rw [hD]
  refine ⟨by omega, by rw [hX, ho]; simp [numL_len], fun g hg => ?_⟩
  rw [hfd, hfd]
theorem bk_2_n_n (fl st : Int) {n : Nat} {f : Nat → Int} (hf : Byt n f) (hms : (fdOf 2 fl n f).ms = false) : BkP 2 fl st n f := by
  have e3 : hsB 2 fl 3 = false := hsB3_no (by decide)
  have e5 : hsB 2 fl 5 = false := hsB5_no (by decide)
  have hfd : ∀ f, fdOf 2 fl n f = { pa := lowN (nbV f n 0 4), al := lowB (nbV f n 0 4), wt := nbV f n (nbT n 0 4) 1, off := (nbT n (nbT n 0 4) 1), ms := ((false || nbM n 0 4) || nbM n (nbT n 0 4) 1) } := fun f => by unfold fdOf; rw [if_neg (by decide), if_neg (by decide), if_pos rfl]
  unfold BkP
  rw [hfd] at hms
  simp only [Bool.or_eq_false_iff] at hms
  obtain ⟨⟨-, m0_⟩, m1_⟩ := hms
  have L0_ := nbM_no5 m0_
  obtain ⟨V0_, T0_, M0_⟩ := nb_ok5 (f := f) (n := n) (t := 0) (s := 4) (by omega)
  simp only [Nat.reduceAdd] at T0_
  have R0_ := num4_rng hf 0 (by omega)
  generalize hx0 : num (fun i => f (0 + i)) 4 = x0 at V0_ R0_
  rw [T0_] at m1_
  have L1_ := nbM_no5 m1_
  obtain ⟨V1_, T1_, M1_⟩ := nb_ok5 (f := f) (n := n) (t := 4) (s := 1) (by omega)
  simp only [Nat.reduceAdd] at T1_
  have R1_ := num1_rng hf 4 (by omega)
  generalize hx1 : num (fun i => f (4 + i)) 1 = x1 at V1_ R1_
  have hD : fdOf 2 fl n f = { pa := lowN x0, al := lowB x0, wt := x1, off := 5, ms := ((false || nbM n 0 4) || nbM n 4 1) } := by rw [hfd]; simp only [T0_, T1_, V0_, V1_]
  have hX : fr5 (bk5 2 fl st n f (fdOf 2 fl n f)) = numL (wrd5 (lowN x0) (lowB x0)) 4 ++ numL x1 1 := by
    rw [hD]
    simp [fr5, bk5, Fm5.padL, Fm5.prL, Fm5.tyL, Fm5.P3, Fm5.P5, e3, e5]
  have ho : (fdOf 2 fl n f).off = 5 := by rw [hD]
  refine ⟨by omega, by rw [hX, ho]; simp [numL_len], fun g hg => ?_⟩
  rw [ho, hX] at hg
  rw [hD, hfd g]
  obtain ⟨U0_, -, -⟩ := nb_ok5 (f := g) (n := n) (t := 0) (s := 4) (by omega)
  have G0_ := num_of4 (g := g) (t := 0) (v := (wrd5 (lowN x0) (lowB x0))) (fun i hi => by
    rcases lt4 hi with rfl | rfl | rfl | rfl <;> rw [hg _ (by decide)] <;> simp [lF, numL, List.range_succ]) (by rw [wrd_low R0_]; exact R0_)
  rw [wrd_low R0_] at G0_
  obtain ⟨U1_, -, -⟩ := nb_ok5 (f := g) (n := n) (t := 4) (s := 1) (by omega)
  have G1_ := num_of1 (g := g) (t := 4) (v := x1) (fun i hi => by
    obtain rfl : i = 0 := by omega
    rw [hg _ (by decide)]
    simp [lF, numL, List.range_succ]) R1_
  simp only [T0_, T1_, U0_, G0_, U1_, G1_, lowN_low]
theorem bk_3_n_n (fl st : Int) {n : Nat} {f : Nat → Int} (hf : Byt n f) (hms : (fdOf 3 fl n f).ms = false) : BkP 3 fl st n f := by
  have e3 : hsB 3 fl 3 = false := hsB3_no (by decide)
  have e5 : hsB 3 fl 5 = false := hsB5_no (by decide)
  have hfd : ∀ f, fdOf 3 fl n f = { co := nbV f n 0 4, off := (nbT n 0 4), ms := (false || nbM n 0 4) } := fun f => by unfold fdOf; rw [if_neg (by decide), if_neg (by decide), if_neg (by decide), if_pos rfl]
  unfold BkP
  rw [hfd] at hms
  simp only [Bool.or_eq_false_iff] at hms
  obtain ⟨-, m0_⟩ := hms
  have L0_ := nbM_no5 m0_
  obtain ⟨V0_, T0_, M0_⟩ := nb_ok5 (f := f) (n := n) (t := 0) (s := 4) (by omega)
  simp only [Nat.reduceAdd] at T0_
  have R0_ := num4_rng hf 0 (by omega)
  generalize hx0 : num (fun i => f (0 + i)) 4 = x0 at V0_ R0_
  have hD : fdOf 3 fl n f = { co := x0, off := 4, ms := (false || nbM n 0 4) } := by rw [hfd]; simp only [T0_, V0_]
  have hX : fr5 (bk5 3 fl st n f (fdOf 3 fl n f)) = numL x0 4 := by
    rw [hD]
    simp [fr5, bk5, Fm5.padL, Fm5.prL, Fm5.tyL, Fm5.P3, Fm5.P5, e3, e5]
  have ho : (fdOf 3 fl n f).off = 4 := by rw [hD]
  refine ⟨by omega, by rw [hX, ho]; simp [numL_len], fun g hg => ?_⟩
  rw [ho, hX] at hg
  rw [hD, hfd g]
  obtain ⟨U0_, -, -⟩ := nb_ok5 (f := g) (n := n) (t := 0) (s := 4) (by omega)
  have G0_ := num_of4 (g := g) (t := 0) (v := x0) (fun i hi => by
    rcases lt4 hi with rfl | rfl | rfl | rfl <;> rw [hg _ (by decide)] <;> simp [lF, numL, List.range_succ]) R0_
  simp only [T0_, U0_, G0_, lowN_low]
theorem bk_5_t_n (fl st : Int) {n : Nat} {f : Nat → Int} (hf : Byt n f) (e3 : hsB 5 fl 3 = true) (hms : (fdOf 5 fl n f).ms = false) : BkP 5 fl st n f := by
  have e5 : hsB 5 fl 5 = false := hsB5_no (by decide)
  have hfd : ∀ f, fdOf 5 fl n f = { pad := nbV f n 0 1, pm := lowN (nbV f n (nbT n 0 1) 4), off := (nbT n (nbT n 0 1) 4), ms := ((false || nbM n 0 1) || nbM n (nbT n 0 1) 4) } := fun f => by unfold fdOf; rw [if_neg (by decide), if_neg (by decide), if_neg (by decide), if_neg (by decide), if_neg (by decide), if_pos rfl, if_pos e3]
  unfold BkP
  rw [hfd] at hms
  simp only [Bool.or_eq_false_iff] at hms
  obtain ⟨⟨-, m0_⟩, m1_⟩ := hms
  have L0_ := nbM_no5 m0_
  obtain ⟨V0_, T0_, M0_⟩ := nb_ok5 (f := f) (n := n) (t := 0) (s := 1) (by omega)
  simp only [Nat.reduceAdd] at T0_
  have R0_ := num1_rng hf 0 (by omega)
  generalize hx0 : num (fun i => f (0 + i)) 1 = x0 at V0_ R0_
  rw [T0_] at m1_
  have L1_ := nbM_no5 m1_
  obtain ⟨V1_, T1_, M1_⟩ := nb_ok5 (f := f) (n := n) (t := 1) (s := 4) (by omega)
  simp only [Nat.reduceAdd] at T1_
  have R1_ := num4_rng hf 1 (by omega)
  generalize hx1 : num (fun i => f (1 + i)) 4 = x1 at V1_ R1_
  have hD : fdOf 5 fl n f = { pad := x0, pm := lowN x1, off := 5, ms := ((false || nbM n 0 1) || nbM n 1 4) } := by rw [hfd]; simp only [T0_, T1_, V0_, V1_]
  have hX : fr5 (bk5 5 fl st n f (fdOf 5 fl n f)) = numL x0 1 ++ numL (lowN x1) 4 := by
    rw [hD]
    simp [fr5, bk5, Fm5.padL, Fm5.prL, Fm5.tyL, Fm5.P3, Fm5.P5, e3, e5]
  have ho : (fdOf 5 fl n f).off = 5 := by rw [hD]
  refine ⟨by omega, by rw [hX, ho]; simp [numL_len], fun g hg => ?_⟩
  rw [ho, hX] at hg
  rw [hD, hfd g]
  obtain ⟨U0_, -, -⟩ := nb_ok5 (f := g) (n := n) (t := 0) (s := 1) (by omega)
  have G0_ := num_of1 (g := g) (t := 0) (v := x0) (fun i hi => by
    obtain rfl : i = 0 := by omega
    rw [hg _ (by decide)]
    simp [lF, numL, List.range_succ]) R0_
  obtain ⟨U1_, -, -⟩ := nb_ok5 (f := g) (n := n) (t := 1) (s := 4) (by omega)
  have G1_ := num_of4 (g := g) (t := 1) (v := (lowN x1)) (fun i hi => by
    rcases lt4 hi with rfl | rfl | rfl | rfl <;> rw [hg _ (by decide)] <;> simp [lF, numL, List.range_succ]) ⟨(lowN_rng _).1, by have := (lowN_rng x1).2; omega⟩
  simp only [T0_, T1_, U0_, G0_, U1_, G1_, lowN_low]
theorem bk_5_f_n (fl st : Int) {n : Nat} {f : Nat → Int} (hf : Byt n f) (e3 : hsB 5 fl 3 = false) (hms : (fdOf 5 fl n f).ms = false) : BkP 5 fl st n f := by
  have e5 : hsB 5 fl 5 = false := hsB5_no (by decide)
  have hfd : ∀ f, fdOf 5 fl n f = { pm := lowN (nbV f n 0 4), off := (nbT n 0 4), ms := (false || nbM n 0 4) } := fun f => by unfold fdOf; rw [if_neg (by decide), if_neg (by decide), if_neg (by decide), if_neg (by decide), if_neg (by decide), if_pos rfl, if_neg (by rw [e3]; decide)]
  unfold BkP
  rw [hfd] at hms
  simp only [Bool.or_eq_false_iff] at hms
  obtain ⟨-, m0_⟩ := hms
  have L0_ := nbM_no5 m0_
  obtain ⟨V0_, T0_, M0_⟩ := nb_ok5 (f := f) (n := n) (t := 0) (s := 4) (by omega)
  simp only [Nat.reduceAdd] at T0_
  have R0_ := num4_rng hf 0 (by omega)
  generalize hx0 : num (fun i => f (0 + i)) 4 = x0 at V0_ R0_
  have hD : fdOf 5 fl n f = { pm := lowN x0, off := 4, ms := (false || nbM n 0 4) } := by rw [hfd]; simp only [T0_, V0_]
  have hX : fr5 (bk5 5 fl st n f (fdOf 5 fl n f)) = numL (lowN x0) 4 := by
    rw [hD]
    simp [fr5, bk5, Fm5.padL, Fm5.prL, Fm5.tyL, Fm5.P3, Fm5.P5, e3, e5]
  have ho : (fdOf 5 fl n f).off = 4 := by rw [hD]
  refine ⟨by omega, by rw [hX, ho]; simp [numL_len], fun g hg => ?_⟩
  rw [ho, hX] at hg
  rw [hD, hfd g]
  obtain ⟨U0_, -, -⟩ := nb_ok5 (f := g) (n := n) (t := 0) (s := 4) (by omega)
  have G0_ := num_of4 (g := g) (t := 0) (v := (lowN x0)) (fun i hi => by
    rcases lt4 hi with rfl | rfl | rfl | rfl <;> rw [hg _ (by decide)] <;> simp [lF, numL, List.range_succ]) ⟨(lowN_rng _).1, by have := (lowN_rng x0).2; omega⟩
  simp only [T0_, U0_, G0_, lowN_low]
theorem bk_7_n_n (fl st : Int) {n : Nat} {f : Nat → Int} (hf : Byt n f) (hms : (fdOf 7 fl n f).ms = false) : BkP 7 fl st n f := by
  have e3 : hsB 7 fl 3 = false := hsB3_no (by decide)
  have e5 : hsB 7 fl 5 = false := hsB5_no (by decide)
  have hfd : ∀ f, fdOf 7 fl n f = { la := lowN (nbV f n 0 4), co := nbV f n (nbT n 0 4) 4, off := (nbT n (nbT n 0 4) 4), ms := ((false || nbM n 0 4) || nbM n (nbT n 0 4) 4) } := fun f => by unfold fdOf; rw [if_neg (by decide), if_neg (by decide), if_neg (by decide), if_neg (by decide), if_neg (by decide), if_neg (by decide), if_pos rfl]
  unfold BkP
  rw [hfd] at hms
  simp only [Bool.or_eq_false_iff] at hms
  obtain ⟨⟨-, m0_⟩, m1_⟩ := hms
  have L0_ := nbM_no5 m0_
  obtain ⟨V0_, T0_, M0_⟩ := nb_ok5 (f := f) (n := n) (t := 0) (s := 4) (by omega)
  simp only [Nat.reduceAdd] at T0_
  have R0_ := num4_rng hf 0 (by omega)
  generalize hx0 : num (fun i => f (0 + i)) 4 = x0 at V0_ R0_
  rw [T0_] at m1_
  have L1_ := nbM_no5 m1_
  obtain ⟨V1_, T1_, M1_⟩ := nb_ok5 (f := f) (n := n) (t := 4) (s := 4) (by omega)
  simp only [Nat.reduceAdd] at T1_
  have R1_ := num4_rng hf 4 (by omega)
  generalize hx1 : num (fun i => f (4 + i)) 4 = x1 at V1_ R1_
  have hD : fdOf 7 fl n f = { la := lowN x0, co := x1, off := 8, ms := ((false || nbM n 0 4) || nbM n 4 4) } := by rw [hfd]; simp only [T0_, T1_, V0_, V1_]
  have hX : fr5 (bk5 7 fl st n f (fdOf 7 fl n f)) = numL (lowN x0) 4 ++ numL x1 4 := by
    rw [hD]
    simp [fr5, bk5, Fm5.padL, Fm5.prL, Fm5.tyL, Fm5.P3, Fm5.P5, e3, e5]
  have ho : (fdOf 7 fl n f).off = 8 := by rw [hD]
  refine ⟨by omega, by rw [hX, ho]; simp [numL_len], fun g hg => ?_⟩
  rw [ho, hX] at hg
  rw [hD, hfd g]
  obtain ⟨U0_, -, -⟩ := nb_ok5 (f := g) (n := n) (t := 0) (s := 4) (by omega)
  have G0_ := num_of4 (g := g) (t := 0) (v := (lowN x0)) (fun i hi => by
    rcases lt4 hi with rfl | rfl | rfl | rfl <;> rw [hg _ (by decide)] <;> simp [lF, numL, List.range_succ]) ⟨(lowN_rng _).1, by have := (lowN_rng x0).2; omega⟩
  obtain ⟨U1_, -, -⟩ := nb_ok5 (f := g) (n := n) (t := 4) (s := 4) (by omega)
  have G1_ := num_of4 (g := g) (t := 4) (v := x1) (fun i hi => by
    rcases lt4 hi with rfl | rfl | rfl | rfl <;> rw [hg _ (by decide)] <;> simp [lF, numL, List.range_succ]) R1_
  simp only [T0_, T1_, U0_, G0_, U1_, G1_, lowN_low]
theorem bk_8_n_n (fl st : Int) {n : Nat} {f : Nat → Int} (hf : Byt n f) (hms : (fdOf 8 fl n f).ms = false) : BkP 8 fl st n f := by
  have e3 : hsB 8 fl 3 = false := hsB3_no (by decide)
  have e5 : hsB 8 fl 5 = false := hsB5_no (by decide)
  have hfd : ∀ f, fdOf 8 fl n f = { sp := lowN (nbV f n 0 4), off := (nbT n 0 4), ms := (false || nbM n 0 4) } := fun f => by unfold fdOf; rw [if_neg (by decide), if_neg (by decide), if_neg (by decide), if_neg (by decide), if_neg (by decide), if_neg (by decide), if_neg (by decide), if_pos rfl]
  unfold BkP
  rw [hfd] at hms
  simp only [Bool.or_eq_false_iff] at hms
  obtain ⟨-, m0_⟩ := hms
  have L0_ := nbM_no5 m0_
  obtain ⟨V0_, T0_, M0_⟩ := nb_ok5 (f := f) (n := n) (t := 0) (s := 4) (by omega)
  simp only [Nat.reduceAdd] at T0_
  have R0_ := num4_rng hf 0 (by omega)
  generalize hx0 : num (fun i => f (0 + i)) 4 = x0 at V0_ R0_
  have hD : fdOf 8 fl n f = { sp := lowN x0, off := 4, ms := (false || nbM n 0 4) } := by rw [hfd]; simp only [T0_, V0_]
  have hX : fr5 (bk5 8 fl st n f (fdOf 8 fl n f)) = numL (lowN x0) 4 := by
    rw [hD]
    simp [fr5, bk5, Fm5.padL, Fm5.prL, Fm5.tyL, Fm5.P3, Fm5.P5, e3, e5]
  have ho : (fdOf 8 fl n f).off = 4 := by rw [hD]
  refine ⟨by omega, by rw [hX, ho]; simp [numL_len], fun g hg => ?_⟩
  rw [ho, hX] at hg
  rw [hD, hfd g]
  obtain ⟨U0_, -, -⟩ := nb_ok5 (f := g) (n := n) (t := 0) (s := 4) (by omega)
  have G0_ := num_of4 (g := g) (t := 0) (v := (lowN x0)) (fun i hi => by
    rcases lt4 hi with rfl | rfl | rfl | rfl <;> rw [hg _ (by decide)] <;> simp [lF, numL, List.range_succ]) ⟨(lowN_rng _).1, by have := (lowN_rng x0).2; omega⟩
  simp only [T0_, U0_, G0_, lowN_low]
theorem bk_4 (fl st : Int) {n : Nat} {f : Nat → Int} (hf : Byt n f) (hms : (fdOf 4 fl n f).ms = false) : BkP 4 fl st n f ∧ (fdOf 4 fl n f).sn * 6 = n ∧ ∀ i, i < n → lF (fr5 (bk5 4 fl st n f (fdOf 4 fl n f))) i = f i := by
  have e3 : hsB 4 fl 3 = false := hsB3_no (by decide)
  have e5 : hsB 4 fl 5 = false := hsB5_no (by decide)
  have hfd : ∀ f, fdOf 4 fl n f = { sn := nsN (n - 0), off := n, ms := (false || decide ((n - 0) % 6 ≠ 0)) } := fun f => by unfold fdOf; rw [if_neg (by decide), if_neg (by decide), if_neg (by decide), if_neg (by decide), if_pos rfl]
  rw [hfd] at hms
  have h6 : n % 6 = 0 := by simpa using hms
  have hn6 : n / 6 * 6 = n := by omega
  have hns : nsN (n - 0) = n / 6 := by unfold nsN; rw [Nat.sub_zero, if_pos h6]
  have hD : fdOf 4 fl n f = { sn := n / 6, off := n, ms := (false || decide ((n - 0) % 6 ≠ 0)) } := by rw [hfd, hns]
  have hX : fr5 (bk5 4 fl st n f (fdOf 4 fl n f)) = (List.range n).map (sB (sF f) (sG f)) := by
    rw [hD]
    simp [fr5, bk5, Fm5.padL, Fm5.prL, Fm5.tyL, Fm5.setL, Fm5.P3, Fm5.P5, e3, e5, hn6]
  have ho : (fdOf 4 fl n f).off = n := by rw [hD]
  refine ⟨⟨by omega, by rw [hX, ho]; simp, fun g _ => by rw [hfd, hfd]⟩, by rw [hD]; exact hn6, fun i hi => ?_⟩
  rw [hX, lF_map hi]
  unfold sB sF sG
  by_cases h2 : i % 6 < 2
  · rw [if_pos h2]
    have := byteAt_num (n := n - i / 6 * 6) (f := fun j => f (i / 6 * 6 + j)) (fun j hj => hf _ (by omega)) 2 (by decide) (by decide) (by omega) (i % 6) h2
    rw [this]
    show f (i / 6 * 6 + i % 6) = f i
    rw [show i / 6 * 6 + i % 6 = i by omega]
  · rw [if_neg h2]
    have := byteAt_num (n := n - (i / 6 * 6 + 2)) (f := fun j => f (i / 6 * 6 + 2 + j)) (fun j hj => hf _ (by omega)) 4 (by decide) (by decide) (by omega) (i % 6 - 2) (by omega)
    rw [this]
    show f (i / 6 * 6 + 2 + (i % 6 - 2)) = f i
    rw [show i / 6 * 6 + 2 + (i % 6 - 2) = i by omega]
theorem bk_o (T fl st : Int) (hT : ¬ (T = 0 ∨ T = 1 ∨ T = 2 ∨ T = 3 ∨ T = 4 ∨ T = 5 ∨ T = 7 ∨ T = 8)) {n : Nat} {f : Nat → Int} : BkP T fl st n f := by
  have hn : T ≠ 0 ∧ T ≠ 1 ∧ T ≠ 2 ∧ T ≠ 3 ∧ T ≠ 4 ∧ T ≠ 5 ∧ T ≠ 7 ∧ T ≠ 8 := by omega
  obtain ⟨h0, h1, h2, h3, h4, h5, h7, h8⟩ := hn
  have e3 : hsB T fl 3 = false := hsB3_no ⟨h0, h1, h5⟩
  have e5 : hsB T fl 5 = false := hsB5_no h1
  have hfd : ∀ f, fdOf T fl n f = { off := 0 } := fun f => by unfold fdOf; rw [if_neg h0, if_neg h1, if_neg h2, if_neg h3, if_neg h4, if_neg h5, if_neg h7, if_neg h8]
  have hX : fr5 (bk5 T fl st n f (fdOf T fl n f)) = [] := by
    rw [hfd]
    simp [fr5, bk5, Fm5.padL, Fm5.prL, Fm5.tyL, Fm5.P3, Fm5.P5, e3, e5, h2, h3, h4, h5, h7, h8]
  refine ⟨by rw [hfd]; exact Nat.zero_le _, by rw [hX, hfd]; rfl, fun g _ => by rw [hfd, hfd]⟩
/-- What stands ahead of a frame's data is written as it was, but for bits that say nothing. -/
theorem bk_all (T fl st : Int) {n : Nat} {f : Nat → Int} (hf : Byt n f) (hms : (fdOf T fl n f).ms = false) : BkP T fl st n f := by
  by_cases h0 : T = 0
  · subst h0
    cases e3 : hsB 0 fl 3
    · exact bk_0_f_n fl st hf e3 hms
    · exact bk_0_t_n fl st hf e3 hms
  by_cases h1 : T = 1
  · subst h1
    cases e3 : hsB 1 fl 3 <;> cases e5 : hsB 1 fl 5
    · exact bk_1_f_f fl st hf e3 e5 hms
    · exact bk_1_f_t fl st hf e3 e5 hms
    · exact bk_1_t_f fl st hf e3 e5 hms
    · exact bk_1_t_t fl st hf e3 e5 hms
  by_cases h2 : T = 2
  · subst h2; exact bk_2_n_n fl st hf hms
  by_cases h3 : T = 3
  · subst h3; exact bk_3_n_n fl st hf hms
  by_cases h4 : T = 4
  · subst h4; exact (bk_4 fl st hf hms).1
  by_cases h5 : T = 5
  · subst h5
    cases e3 : hsB 5 fl 3
    · exact bk_5_f_n fl st hf e3 hms
    · exact bk_5_t_n fl st hf e3 hms
  by_cases h7 : T = 7
  · subst h7; exact bk_7_n_n fl st hf hms
  by_cases h8 : T = 8
  · subst h8; exact bk_8_n_n fl st hf hms
  exact bk_o T fl st (by omega)
end Go.Proofs.Ytpnjamomkpkkeaa
