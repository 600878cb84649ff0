/- Layer 10: what Cut makes, byte by byte. -/
import Derived.Test.YtpnjamomkpkkeaaJn5
namespace Go.Proofs.Ytpnjamomkpkkeaa
set_option linter.unusedVariables false
set_option linter.unusedSimpArgs false
open Go.RowKit

def pushJ (s : JS) (x : Int) (n : Nat) (b : Nat → Int) : JS := ⟨s.m + 1, upd s.X s.m x, upd s.N s.m n, upd s.G s.m b⟩
def extJ (s : JS) (n : Nat) (b : Nat → Int) : JS := ⟨s.m, s.X, upd s.N (s.m - 1) (s.N (s.m - 1) + n), upd s.G (s.m - 1) (catF (s.N (s.m - 1)) (s.G (s.m - 1)) b)⟩
/-- Pieces, how many sizes were used up, how much room the last piece has. -/
structure CtS where
  p : JS
  a : Nat
  r : Int
def szF (g : Nat → Int) (d a : Nat) : Int := max 1 (g (a % d))
theorem szF_pos (g : Nat → Int) (d a : Nat) : 1 ≤ szF g d a := by unfold szF; omega
def CtS.byte (g : Nat → Int) (d : Nat) (s : CtS) (x b : Int) : CtS :=
  if s.r = 0 then ⟨pushJ s.p x 1 (fun _ => b), s.a + 1, szF g d s.a - 1⟩ else ⟨extJ s.p 1 (fun _ => b), s.a, s.r - 1⟩
def CtS.bytes (g : Nat → Int) (d : Nat) (s : CtS) (x : Int) (b : Nat → Int) : Nat → CtS
  | 0 => s
  | j + 1 => (CtS.bytes g d s x b j).byte g d x (b j)
def cts (g : Nat → Int) (d : Nat) (F : Nat → Ck) : Nat → CtS
  | 0 => ⟨⟨0, fun _ => 0, fun _ => 0, fun _ _ => 0⟩, 0, 0⟩
  | k + 1 => ⟨((cts g d F k).bytes g d (F k).from_ (F k).b (F k).n).p, ((cts g d F k).bytes g d (F k).from_ (F k).b (F k).n).a, 0⟩
section
variable {g : Nat → Int} {d : Nat}
theorem CtS.bytes_add (s : CtS) (x : Int) (b : Nat → Int) (i j : Nat) : s.bytes g d x b (i + j) = (s.bytes g d x b i).bytes g d x (fun k => b (i + k)) j := by
  induction j with
  | zero => rfl
  | succ j ih =>
    show (s.bytes g d x b (i + j)).byte g d x (b (i + j)) = _
    rw [ih]
    rfl
structure CtB (s : CtS) (x : Int) (T : Nat) : Prop where
  m : s.p.m ≤ T
  a : s.a ≤ T
  n : ∀ i, i < s.p.m → s.p.N i ≤ T
  r0 : 0 ≤ s.r
  r1 : s.r ≤ 9223372036854775807
  last : s.r ≠ 0 → 0 < s.p.m ∧ s.p.X (s.p.m - 1) = x
theorem CtB.byte {s : CtS} {x : Int} {T : Nat} (h : CtB s x T) (hg : ∀ i, i < d → g i ≤ 9223372036854775807) (hd : 0 < d) (b : Int) : CtB (s.byte g d x b) x (T + 1) := by
  unfold CtS.byte
  have hs : szF g d s.a ≤ 9223372036854775807 := by unfold szF; have := hg (s.a % d) (Nat.mod_lt _ hd); omega
  have hp := szF_pos g d s.a
  have h1 := h.m
  have h2 := h.a
  have h3 := h.r0
  have h4 := h.r1
  split
  · refine ⟨by simp only [pushJ]; omega, by simp only; omega, fun i hi => ?_, by simp only; omega, by simp only; omega, fun _ => ⟨by simp [pushJ], by simp [pushJ, upd]⟩⟩
    simp only [pushJ] at hi ⊢
    unfold upd
    split
    · omega
    · have := h.n i (by omega); omega
  · rename_i hr
    have hl := h.last hr
    refine ⟨by simp only [extJ]; omega, by simp only; omega, fun i hi => ?_, by simp only; omega, by simp only; omega, fun _ => by simpa [extJ] using hl⟩
    simp only [extJ] at hi ⊢
    unfold upd
    split
    · have := h.n (s.p.m - 1) (by omega); omega
    · have := h.n i hi; omega
theorem CtB.bytes {s : CtS} {x : Int} {T : Nat} (h : CtB s x T) (hg : ∀ i, i < d → g i ≤ 9223372036854775807) (hd : 0 < d) (b : Nat → Int) (j : Nat) : CtB (s.bytes g d x b j) x (T + j) := by
  induction j with
  | zero => exact h
  | succ j ih => exact ih.byte hg hd _
theorem cts_b (F : Nat → Ck) (hg : ∀ i, i < d → g i ≤ 9223372036854775807) (hd : 0 < d) (k : Nat) (x : Int) : CtB (cts g d F k) x (sumC F k) := by
  induction k generalizing x with
  | zero => exact ⟨Nat.le_refl _, Nat.le_refl _, fun i hi => absurd hi (by simp [cts]), by simp [cts], by simp [cts], fun h => absurd rfl h⟩
  | succ k ih =>
    have h := (ih (F k).from_).bytes hg hd (F k).b (F k).n
    exact ⟨h.m, h.a, h.n, by simp [cts], by simp [cts], fun h => absurd rfl h⟩
theorem cts_r (F : Nat → Ck) (k : Nat) : (cts g d F k).r = 0 := by cases k <;> rfl
/-- A whole piece. -/
theorem CtS.take (s : CtS) (x : Int) (b : Nat → Int) (hr : s.r = 0) (j : Nat) (h1 : 1 ≤ j) (h2 : (j : Int) ≤ szF g d s.a) :
    (s.bytes g d x b j).a = s.a + 1 ∧ (s.bytes g d x b j).r = szF g d s.a - j ∧ JEq (s.bytes g d x b j).p (pushJ s.p x j b) := by
  induction j with
  | zero => omega
  | succ j ih =>
    by_cases hj : j = 0
    · subst hj
      have e : s.bytes g d x b (0 + 1) = ⟨pushJ s.p x 1 (fun _ => b 0), s.a + 1, szF g d s.a - 1⟩ := by
        show s.byte g d x (b 0) = _
        unfold CtS.byte
        rw [if_pos hr]
      rw [e]
      refine ⟨rfl, by simp, rfl, fun i hi => ?_⟩
      simp only [pushJ] at hi ⊢
      unfold upd
      by_cases h : i = s.p.m
      · simp only [if_pos h]
        refine ⟨trivial, trivial, fun k hk => ?_⟩
        rw [show k = 0 by omega]
      · simp [if_neg h]
    · obtain ⟨i1, i2, i3⟩ := ih (by omega) (by omega)
      have e : s.bytes g d x b (j + 1) = ⟨extJ (s.bytes g d x b j).p 1 (fun _ => b j), (s.bytes g d x b j).a, (s.bytes g d x b j).r - 1⟩ := by
        show (s.bytes g d x b j).byte g d x (b j) = _
        unfold CtS.byte
        rw [if_neg (by rw [i2]; omega)]
      rw [e]
      generalize s.bytes g d x b j = t at *
      refine ⟨i1, by simp only; rw [i2]; omega, ?_⟩
      obtain ⟨e1, e2⟩ := i3
      have hm : t.p.m = s.p.m + 1 := e1
      refine ⟨e1, fun i hi => ?_⟩
      simp only [extJ] at hi ⊢
      obtain ⟨a1, a2, a3⟩ := e2 i hi
      simp only [pushJ] at a1 a2 a3 ⊢
      unfold upd at a1 a2 a3 ⊢
      by_cases h : i = s.p.m
      · subst h
        simp only [if_true] at a1 a2 a3
        simp only [show t.p.m - 1 = s.p.m by omega, if_true]
        refine ⟨a1, by omega, fun k hk => ?_⟩
        unfold catF
        split
        · rename_i h3
          exact a3 k (by omega)
        · rw [show k = j by omega]
      · simp only [if_neg h] at a1 a2 a3
        simp only [show t.p.m - 1 = s.p.m by omega, if_neg h]
        exact ⟨a1, a2, a3⟩
/-- The pieces' bytes are those that were cut. -/
theorem fl_push (s : JS) (x : Int) (n : Nat) (b : Nat → Int) : flF (pushJ s x n b).X (pushJ s x n b).N (pushJ s x n b).G (s.m + 1) = flF s.X s.N s.G s.m ++ flC x b n := by
  show flF _ _ _ s.m ++ flC _ _ _ = _
  rw [flF_congr (X' := s.X) (N' := s.N) (G' := s.G) s.m (fun i hi => by simp [pushJ, upd, show i ≠ s.m by omega])]
  simp [pushJ, upd]
theorem flC_cat (x : Int) (N : Nat) (f : Nat → Int) (b : Int) : flC x (catF N f (fun _ => b)) (N + 1) = flC x f N ++ [(x, b)] := by
  rw [flC_succ, flC_congr (b' := f) (fun i hi => by simp [catF, hi])]
  simp [catF]
theorem fl_ext (s : JS) (x b : Int) (hm : 0 < s.m) (hx : s.X (s.m - 1) = x) : flF (extJ s 1 (fun _ => b)).X (extJ s 1 (fun _ => b)).N (extJ s 1 (fun _ => b)).G s.m = flF s.X s.N s.G s.m ++ [(x, b)] := by
  obtain ⟨m, X, N, G⟩ := s
  obtain ⟨p, rfl⟩ : ∃ p, m = p + 1 := ⟨m - 1, by simp only at hm; omega⟩
  simp only [Nat.add_sub_cancel] at hx
  show flF _ _ _ p ++ flC _ _ _ = (flF _ _ _ p ++ flC _ _ _) ++ _
  rw [flF_congr (X' := X) (N' := N) (G' := G) p (fun i hi => by simp [extJ, upd, show i ≠ p by omega])]
  rw [List.append_assoc]
  congr 1
  simp only [extJ, Nat.add_sub_cancel, upd, if_true]
  rw [flC_cat, hx]
theorem fl_byte {s : CtS} {x : Int} {T : Nat} (h : CtB s x T) (b : Int) : flF (s.byte g d x b).p.X (s.byte g d x b).p.N (s.byte g d x b).p.G (s.byte g d x b).p.m = flF s.p.X s.p.N s.p.G s.p.m ++ [(x, b)] := by
  unfold CtS.byte
  split
  · exact fl_push s.p x 1 (fun _ => b)
  · rename_i hr
    exact fl_ext s.p x b (h.last hr).1 (h.last hr).2
theorem fl_bytes {s : CtS} {x : Int} {T : Nat} (h : CtB s x T) (hg : ∀ i, i < d → g i ≤ 9223372036854775807) (hd : 0 < d) (b : Nat → Int) (j : Nat) :
    flF (s.bytes g d x b j).p.X (s.bytes g d x b j).p.N (s.bytes g d x b j).p.G (s.bytes g d x b j).p.m = flF s.p.X s.p.N s.p.G s.p.m ++ flC x b j := by
  induction j with
  | zero => simp [flC, CtS.bytes]
  | succ j ih =>
    show flF ((s.bytes g d x b j).byte g d x (b j)).p.X ((s.bytes g d x b j).byte g d x (b j)).p.N ((s.bytes g d x b j).byte g d x (b j)).p.G ((s.bytes g d x b j).byte g d x (b j)).p.m = _
    rw [fl_byte (h.bytes hg hd b j), ih, flC_succ, List.append_assoc]
theorem fl_cts (F : Nat → Ck) (hg : ∀ i, i < d → g i ≤ 9223372036854775807) (hd : 0 < d) (k : Nat) :
    flF (cts g d F k).p.X (cts g d F k).p.N (cts g d F k).p.G (cts g d F k).p.m = flF (fun i => (F i).from_) (fun i => (F i).n) (fun i => (F i).b) k := by
  induction k with
  | zero => rfl
  | succ k ih =>
    show flF ((cts g d F k).bytes g d (F k).from_ (F k).b (F k).n).p.X ((cts g d F k).bytes g d (F k).from_ (F k).b (F k).n).p.N ((cts g d F k).bytes g d (F k).from_ (F k).b (F k).n).p.G ((cts g d F k).bytes g d (F k).from_ (F k).b (F k).n).p.m = _
    rw [fl_bytes (cts_b F hg hd k (F k).from_) hg hd, ih]
    rfl
/-- Cut and joined again: joined. -/
theorem jn_cut (F H : Nat → Ck) (hg : ∀ i, i < d → g i ≤ 9223372036854775807) (hd : 0 < d) (n : Nat) (hH : ∀ i, i < (cts g d F n).p.m → (H i).from_ = (cts g d F n).p.X i ∧ (H i).n = (cts g d F n).p.N i ∧ (H i).b = (cts g d F n).p.G i) :
    JEq (jn H (cts g d F n).p.m) (jn F n) := by
  refine (jn_jb H _).trans (JEq.trans ?_ (jn_jb F n).symm)
  rw [flF_congr (X' := (cts g d F n).p.X) (N' := (cts g d F n).p.N) (G' := (cts g d F n).p.G) (cts g d F n).p.m (fun i hi => ⟨(hH i hi).1, (hH i hi).2.1, fun j _ => by rw [(hH i hi).2.2]⟩), fl_cts F hg hd n]
  exact JEq.refl _
theorem cut_byt_byte {s : CtS} {x b : Int} (hb : 0 ≤ b ∧ b ≤ 255) (h : ∀ i, i < s.p.m → Byt (s.p.N i) (s.p.G i)) (hl : s.r ≠ 0 → 0 < s.p.m) : ∀ i, i < (s.byte g d x b).p.m → Byt ((s.byte g d x b).p.N i) ((s.byte g d x b).p.G i) := by
  unfold CtS.byte
  split
  · intro i hi
    simp only [pushJ] at hi ⊢
    unfold upd
    by_cases e : i = s.p.m
    · rw [if_pos e, if_pos e]
      exact fun _ _ => hb
    · rw [if_neg e, if_neg e]
      exact h i (by omega)
  · intro i hi
    simp only [extJ] at hi ⊢
    unfold upd
    by_cases e : i = s.p.m - 1
    · subst e
      rw [if_pos rfl, if_pos rfl]
      intro k hk
      unfold catF
      split
      · rename_i h3
        exact h _ hi k h3
      · exact hb
    · rw [if_neg e, if_neg e]
      exact h i hi
theorem cut_byt (F : Nat → Ck) (n : Nat) (hg : ∀ i, i < d → g i ≤ 9223372036854775807) (hd : 0 < d) (hb : ∀ i, i < n → Byt (F i).n (F i).b) (k : Nat) (hk : k ≤ n) : ∀ i, i < (cts g d F k).p.m → Byt ((cts g d F k).p.N i) ((cts g d F k).p.G i) := by
  induction k with
  | zero => exact fun i hi => absurd hi (by simp [cts])
  | succ k ih =>
    have key : ∀ j, j ≤ (F k).n → ∀ i, i < ((cts g d F k).bytes g d (F k).from_ (F k).b j).p.m → Byt (((cts g d F k).bytes g d (F k).from_ (F k).b j).p.N i) (((cts g d F k).bytes g d (F k).from_ (F k).b j).p.G i) := by
      intro j
      induction j with
      | zero => exact fun _ => ih (by omega)
      | succ j ihj => exact fun hj => cut_byt_byte (hb k (by omega) j (by omega)) (ihj (by omega)) (fun hr => (((cts_b F hg hd k (F k).from_).bytes hg hd (F k).b j).last hr).1)
    exact key _ (Nat.le_refl _)
end
end Go.Proofs.Ytpnjamomkpkkeaa
