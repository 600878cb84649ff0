/- Layer 15: the bytes of a frame's body, as a list; what a frame as it is parsed lies within. No walk. -/
import Derived.Test.YtpnjamomkpkkeaaFs1
import Derived.Test.YtpnjamomkpkkeaaFrd
import Derived.Test.YtpnjamomkpkkeaaMJ
namespace Go.Proofs.Ytpnjamomkpkkeaa
set_option linter.unusedVariables false
set_option linter.unusedSimpArgs false
open Go.RowKit

/-- A frame that is to be written. -/
structure Fm5 where
  T : Int
  fl : Int
  st : Int
  pad : Int
  nd : Nat
  d : Nat → Int
  ns : Nat
  s : Nat → Int
  g : Nat → Int
  wt : Int
  pa : Int
  al : Bool
  pm : Int
  la : Int
  co : Int
  sp : Int
def lF (l : List Int) : Nat → Int := fun i => l.getD i 0
theorem lF_app {a b : List Int} {i : Nat} (h : i < a.length + b.length) : lF (a ++ b) i = catF a.length (lF a) (lF b) i := by
  unfold lF catF
  by_cases h1 : i < a.length
  · rw [if_pos h1]
    simp [List.getD_eq_getElem?_getD, List.getElem?_append_left h1]
  · rw [if_neg h1]
    simp [List.getD_eq_getElem?_getD, List.getElem?_append_right (Nat.le_of_not_lt h1)]
theorem lF_map {n i : Nat} {f : Nat → Int} (h : i < n) : lF ((List.range n).map f) i = f i := by
  simp [lF, List.getD_eq_getElem?_getD, h]
theorem lF_left {a b : List Int} {i : Nat} (h : i < a.length) : lF (a ++ b) i = lF a i := by
  rw [lF_app (by omega)]
  unfold catF
  rw [if_pos h]
theorem lF_right {a b : List Int} {i : Nat} (h : i < b.length) : lF (a ++ b) (a.length + i) = lF b i := by
  rw [lF_app (by omega)]
  unfold catF
  rw [if_neg (by omega), Nat.add_sub_cancel_left]
def numL (v : Int) (s : Nat) : List Int := (List.range s).map (byteAt v s)
theorem numL_len (v : Int) (s : Nat) : (numL v s).length = s := by simp [numL]
def wrd5 (n : Int) (b : Bool) : Int := if b = true then n + 2147483648 else n
namespace Fm5
def P3 (X : Fm5) : Bool := hsB X.T X.fl 3
def P5 (X : Fm5) : Prop := X.T = 2 ∨ hsB X.T X.fl 5 = true
instance (X : Fm5) : Decidable X.P5 := by unfold P5; infer_instance
def padL (X : Fm5) : List Int := if X.P3 = true then numL X.pad 1 else []
def prL (X : Fm5) : List Int := if X.P5 then numL (wrd5 X.pa X.al) 4 ++ numL X.wt 1 else []
def setL (X : Fm5) : List Int := (List.range (X.ns * 6)).map (sB X.s X.g)
def tyL (X : Fm5) : List Int := if X.T = 3 then numL X.co 4 else if X.T = 4 then X.setL else if X.T = 5 then numL X.pm 4 else if X.T = 7 then numL X.la 4 ++ numL X.co 4 else if X.T = 8 then numL X.sp 4 else []
def dL (X : Fm5) : List Int := (List.range X.nd).map X.d
def zL (X : Fm5) : List Int := if X.P3 = true then List.replicate X.pad.toNat 0 else []
def emL (X : Fm5) : List Int := X.padL ++ X.prL ++ X.tyL ++ X.dL ++ X.zL
def A5 (X : Fm5) : Prop := 0 ≤ X.pa ∧ X.pa ≤ 2147483647 ∧ 0 ≤ X.wt ∧ X.wt ≤ 255
def S5 (X : Fm5) : Prop := ∀ i, i < X.ns → okS X.s X.g i
/-- What the program asks of the numbers. -/
def POk (X : Fm5) : Prop := (X.P3 = true → 0 ≤ X.pad ∧ X.pad ≤ 255) ∧ (X.P5 → X.A5) ∧ (X.T = 3 → 0 ≤ X.co ∧ X.co ≤ 4294967295) ∧ (X.T = 4 → X.S5) ∧ (X.T = 5 → 0 ≤ X.pm ∧ X.pm ≤ 4294967295) ∧ (X.T = 7 → (0 ≤ X.la ∧ X.la ≤ 4294967295) ∧ 0 ≤ X.co ∧ X.co ≤ 4294967295) ∧ (X.T = 8 → 0 ≤ X.sp ∧ X.sp ≤ 4294967295)
/-- What the document asks of them. -/
def ROk (X : Fm5) : Prop := (X.P3 = true → 0 ≤ X.pad ∧ X.pad ≤ 255) ∧ (X.P5 → X.A5) ∧ ((0 ≤ X.co ∧ X.co ≤ 4294967295) ∧ (0 ≤ X.la ∧ X.la ≤ 2147483647) ∧ (0 ≤ X.sp ∧ X.sp ≤ 2147483647) ∧ 0 ≤ X.pm ∧ X.pm ≤ 2147483647) ∧ (X.T = 4 → X.S5)
theorem ROk.p {X : Fm5} (h : X.ROk) : X.POk := by
  obtain ⟨h1, h2, ⟨h3, h4, h5, h6⟩, h7⟩ := h
  exact ⟨h1, h2, fun _ => h3, h7, fun _ => by omega, fun _ => ⟨by omega, h3⟩, fun _ => by omega⟩
def gR (X : Fm5) : FR := frR X.T X.fl X.st X.emL.length (lF X.emL)
/-- Is what is read again the frame itself? -/
def Sm (X : Fm5) : Prop := (X.gR.T = X.T ∧ X.gR.fl = X.fl ∧ X.gR.st = X.st ∧ X.gR.pad = X.pad) ∧ (X.gR.N = X.nd ∧ ∀ i, i < X.gR.N → lF X.emL (X.gR.off + i) = X.d i) ∧ (X.gR.sn = X.ns ∧ ∀ i, i < X.gR.sn → sF (lF X.emL) i = X.s i ∧ sG (lF X.emL) i = X.g i) ∧
  X.gR.wt = X.wt ∧ X.gR.pa = X.pa ∧ X.gR.al = X.al ∧ X.gR.pm = X.pm ∧ X.gR.la = X.la ∧ X.gR.co = X.co ∧ X.gR.sp = X.sp
def Ok (X : Fm5) : Prop := X.POk ∧ X.gR.en = 0 ∧ X.gR.fs = 0 ∧ X.Sm
end Fm5
theorem byteAt_rng5 (v : Int) (s i : Nat) : 0 ≤ byteAt v s i ∧ byteAt v s i ≤ 255 := by
  unfold byteAt
  have := Int.emod_nonneg (v / 2 ^ (8 * (s - 1 - i))) (show (256 : Int) ≠ 0 by decide)
  have := Int.emod_lt_of_pos (v / 2 ^ (8 * (s - 1 - i))) (show (0 : Int) < 256 by decide)
  omega
def BytL (l : List Int) : Prop := ∀ x ∈ l, 0 ≤ x ∧ x ≤ 255
theorem BytL.byt {l : List Int} (h : BytL l) : Byt l.length (lF l) := fun i hi => by
  unfold lF
  rw [List.getD_eq_getElem?_getD, List.getElem?_eq_getElem hi]
  exact h _ (List.getElem_mem hi)
theorem bytL_num (v : Int) (s : Nat) : BytL (numL v s) := fun x hx => by
  obtain ⟨i, _, rfl⟩ := List.mem_map.1 hx
  exact byteAt_rng5 v s i
theorem BytL.app {a b : List Int} (h : BytL a) (k : BytL b) : BytL (a ++ b) := fun x hx => by
  rcases List.mem_append.1 hx with hx | hx
  · exact h x hx
  · exact k x hx
theorem bytL_nil : BytL [] := fun x hx => by cases hx
theorem Fm5.bytL {X : Fm5} (hd : Byt X.nd X.d) : BytL X.emL := by
  refine ((((?_ : BytL X.padL).app (?_ : BytL X.prL)).app (?_ : BytL X.tyL)).app (?_ : BytL X.dL)).app (?_ : BytL X.zL)
  · unfold Fm5.padL; split <;> first | exact bytL_num _ _ | exact bytL_nil
  · unfold Fm5.prL; split <;> first | exact (bytL_num _ _).app (bytL_num _ _) | exact bytL_nil
  · unfold Fm5.tyL
    have hs : BytL X.setL := fun x hx => by
      obtain ⟨i, _, rfl⟩ := List.mem_map.1 hx
      unfold sB
      split <;> exact byteAt_rng5 _ _ _
    (repeat' split) <;> first | exact bytL_num _ _ | exact hs | exact (bytL_num _ _).app (bytL_num _ _) | exact bytL_nil
  · intro x hx
    obtain ⟨i, hi, rfl⟩ := List.mem_map.1 hx
    exact hd i (List.mem_range.1 hi)
  · unfold Fm5.zL
    split
    · intro x hx
      rw [(List.mem_replicate.1 hx).2]
      decide
    · exact bytL_nil
theorem lowN_rng (x : Int) : 0 ≤ lowN x ∧ lowN x ≤ 2147483647 := by
  unfold lowN
  (repeat' split) <;> omega
theorem nbV_rng {f : Nat → Int} {n t s : Nat} (hf : Byt n f) (h4 : s ≤ 4) : 0 ≤ nbV f n t s ∧ nbV f n t s ≤ 4294967295 ∧ (s = 1 → nbV f n t s ≤ 255) := by
  unfold nbV
  split
  · have h := num_bd (n := n - t) (f := fun i => f (t + i)) (fun i hi => hf (t + i) (by omega)) s (by omega) h4
    refine ⟨h.1, ?_, fun e => ?_⟩
    · have h2 := h.2
      have : s = 0 ∨ s = 1 ∨ s = 2 ∨ s = 3 ∨ s = 4 := by omega
      rcases this with rfl | rfl | rfl | rfl | rfl <;> simp_all <;> omega
    · subst e
      have h2 := h.2
      simp_all
      omega
  · exact ⟨by decide, by decide, fun _ => by decide⟩
structure FD.Rng (D : FD) : Prop where
  pa : 0 ≤ D.pa ∧ D.pa ≤ 2147483647
  wt : 0 ≤ D.wt ∧ D.wt ≤ 255
  pm : 0 ≤ D.pm ∧ D.pm ≤ 2147483647
  la : 0 ≤ D.la ∧ D.la ≤ 2147483647
  sp : 0 ≤ D.sp ∧ D.sp ≤ 2147483647
  co : 0 ≤ D.co ∧ D.co ≤ 4294967295
  pad : -1 ≤ D.pad ∧ D.pad ≤ 255
theorem fd_rng5 (T fl : Int) {n : Nat} {f : Nat → Int} (hf : Byt n f) : (fdOf T fl n f).Rng := by
  unfold fdOf
  have h1 : ∀ t, -1 ≤ nbV f n t 1 ∧ nbV f n t 1 ≤ 255 := fun t => ⟨by have := (nbV_rng (t := t) (s := 1) hf (by decide)).1; omega, (nbV_rng hf (by decide)).2.2 rfl⟩
  have h1' : ∀ t, 0 ≤ nbV f n t 1 ∧ nbV f n t 1 ≤ 255 := fun t => ⟨(nbV_rng hf (by decide)).1, (nbV_rng hf (by decide)).2.2 rfl⟩
  have h4 : ∀ t, 0 ≤ nbV f n t 4 ∧ nbV f n t 4 ≤ 4294967295 := fun t => ⟨(nbV_rng hf (by decide)).1, (nbV_rng hf (by decide)).2.1⟩
  (repeat' split) <;> refine ⟨?_, ?_, ?_, ?_, ?_, ?_, ?_⟩ <;> first | exact lowN_rng _ | exact h1' _ | exact h1 _ | exact h4 _ | (dsimp only; omega)
theorem frR_good {T fl st : Int} {n : Nat} {f : Nat → Int} (h : (frR T fl st n f).fs = 0) (he : (frR T fl st n f).en = 0) : frR T fl st n f = goodR T fl st n (fdOf T fl n f) ∧ HdR n T fl st := by
  unfold frR at h he ⊢
  have hsz : szS T ≠ 0 := by unfold szS; split <;> decide
  by_cases h1 : HdR n T fl st
  · rw [if_pos h1] at h ⊢
    refine ⟨?_, h1⟩
    by_cases h2 : misB T st = true
    · rw [if_pos h2] at h; exact absurd h (by decide)
    · rw [if_neg h2] at h ⊢
      by_cases h3 : wrsB T fl n = true
      · rw [if_pos h3] at h; exact absurd h hsz
      · rw [if_neg h3] at h ⊢
        by_cases h4 : (fdOf T fl n f).ms = true
        · rw [if_pos h4] at h; exact absurd h hsz
        · rw [if_neg h4] at h ⊢
          by_cases h5 : ovB (fdOf T fl n f) n = true
          · rw [if_pos h5] at h; exact absurd h (by decide)
          · rw [if_neg h5]
  · rw [if_neg h1] at he; exact absurd he (by decide)
/-- What says itself keeps the document's bounds. -/
theorem Fm5.Ok.r {X : Fm5} (h : X.Ok) (hd : Byt X.nd X.d) : X.ROk := by
  obtain ⟨hp, he, hf, ⟨⟨_, _, _, hpad⟩, _, _, hwt, hpa, _, hpm, hla, hco, hsp⟩⟩ := h
  have hg := (frR_good hf he).1
  have hr := fd_rng5 X.T X.fl (Fm5.bytL hd).byt
  have hg' : X.gR = goodR X.T X.fl X.st X.emL.length (fdOf X.T X.fl X.emL.length (lF X.emL)) := hg
  rw [hg'] at hpad hwt hpa hpm hla hco hsp
  simp only [goodR] at hpad hwt hpa hpm hla hco hsp
  exact ⟨hp.1, hp.2.1, ⟨by rw [← hco]; exact hr.co, by rw [← hla]; exact hr.la, by rw [← hsp]; exact hr.sp, by rw [← hpm]; exact hr.pm⟩, hp.2.2.2.1⟩
/-- The two sides' ways to say that it is one. -/
theorem Fm5.ok_iff {X : Fm5} (hd : Byt X.nd X.d) : X.Ok ↔ X.ROk ∧ HdR X.emL.length X.T X.fl X.st ∧ X.gR.fs = 0 ∧ X.Sm := by
  constructor
  · intro h
    exact ⟨h.r hd, (frR_good h.2.2.1 h.2.1).2, h.2.2.1, h.2.2.2⟩
  · rintro ⟨h1, h2, h3, h4⟩
    exact ⟨h1.p, by show (frR _ _ _ _ _).en = 0; rw [frR_en, if_pos h2], h3, h4⟩
theorem sameB_iff {n m : Nat} {f g : Nat → Int} : sameB n m f g = true ↔ n = m ∧ ∀ i, i < n → f i = g i := by
  unfold sameB
  simp
theorem Fm5.sm_iff (X : Fm5) : smB X.gR.T X.gR.fl X.gR.st X.gR.pad X.T X.fl X.st X.pad X.gR.N X.nd (fun i => lF X.emL (X.gR.off + i)) X.d X.gR.sn X.ns (sF (lF X.emL)) (sG (lF X.emL)) X.s X.g X.gR.wt X.gR.pa X.gR.pm X.gR.la X.gR.co X.gR.sp X.wt X.pa X.pm X.la X.co X.sp X.gR.al X.al = true ↔ X.Sm := by
  unfold smB Fm5.Sm
  simp only [Bool.and_eq_true, beq_iff_eq, sameB_iff, same2B, decide_eq_true_eq]
  constructor
  · rintro ⟨a, b, c, d, e, f, g, h, i, j, k, l, m⟩
    exact ⟨⟨a, b, c, d⟩, e, f, g, h, i, j, k, l, m⟩
  · rintro ⟨⟨a, b, c, d⟩, e, f, g, h, i, j, k, l, m⟩
    exact ⟨a, b, c, d, e, f, g, h, i, j, k, l, m⟩
theorem Fm5.sm_iff' (X : Fm5) : smB X.T X.fl X.st X.pad X.gR.T X.gR.fl X.gR.st X.gR.pad X.nd X.gR.N X.d (fun i => lF X.emL (X.gR.off + i)) X.ns X.gR.sn X.s X.g (sF (lF X.emL)) (sG (lF X.emL)) X.wt X.pa X.pm X.la X.co X.sp X.gR.wt X.gR.pa X.gR.pm X.gR.la X.gR.co X.gR.sp X.al X.gR.al = true ↔ X.Sm := by
  unfold smB Fm5.Sm
  simp only [Bool.and_eq_true, beq_iff_eq, sameB_iff, same2B, decide_eq_true_eq]
  constructor
  · rintro ⟨a, b, c, d, ⟨e1, e2⟩, ⟨f1, f2⟩, g, h, i, j, k, l, m⟩
    exact ⟨⟨a.symm, b.symm, c.symm, d.symm⟩, ⟨e1.symm, fun q hq => (e2 q (by omega)).symm⟩, ⟨f1.symm, fun q hq => ⟨(f2 q (by omega)).1.symm, (f2 q (by omega)).2.symm⟩⟩, g.symm, h.symm, i.symm, j.symm, k.symm, l.symm, m.symm⟩
  · rintro ⟨⟨a, b, c, d⟩, ⟨e1, e2⟩, ⟨f1, f2⟩, g, h, i, j, k, l, m⟩
    exact ⟨a.symm, b.symm, c.symm, d.symm, ⟨e1.symm, fun q hq => (e2 q (by omega)).symm⟩, ⟨f1.symm, fun q hq => ⟨(f2 q (by omega)).1.symm, (f2 q (by omega)).2.symm⟩⟩, g.symm, h.symm, i.symm, j.symm, k.symm, l.symm, m.symm⟩
end Go.Proofs.Ytpnjamomkpkkeaa
