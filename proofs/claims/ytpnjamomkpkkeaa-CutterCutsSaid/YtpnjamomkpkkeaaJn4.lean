/- Layer 10: what Join makes, byte by byte. -/
import Derived.Test.YtpnjamomkpkkeaaJn3
namespace Go.Proofs.Ytpnjamomkpkkeaa
set_option linter.unusedVariables false
set_option linter.unusedSimpArgs false
open Go.RowKit

/-- The same pieces. -/
def JEq (s t : JS) : Prop := s.m = t.m ∧ ∀ i, i < s.m → s.X i = t.X i ∧ s.N i = t.N i ∧ ∀ j, j < s.N i → s.G i j = t.G i j
theorem JEq.refl (s : JS) : JEq s s := ⟨rfl, fun _ _ => ⟨rfl, rfl, fun _ _ => rfl⟩⟩
theorem JEq.symm {s t : JS} (h : JEq s t) : JEq t s := ⟨h.1.symm, fun i hi => by
  obtain ⟨a, b, c⟩ := h.2 i (by have := h.1; omega)
  exact ⟨a.symm, b.symm, fun j hj => (c j (by omega)).symm⟩⟩
theorem JEq.trans {s t u : JS} (h : JEq s t) (g : JEq t u) : JEq s u := ⟨h.1.trans g.1, fun i hi => by
  obtain ⟨a, b, c⟩ := h.2 i hi
  obtain ⟨a', b', c'⟩ := g.2 i (by have := h.1; omega)
  exact ⟨a.trans a', b.trans b', fun j hj => (c j hj).trans (c' j (by omega))⟩⟩
theorem JEq.step {s t : JS} (h : JEq s t) (x : Int) (j : Nat) {b b' : Nat → Int} (hb : ∀ i, i < j → b i = b' i) : JEq (s.step x j b) (t.step x j b') := by
  obtain ⟨h1, h2⟩ := h
  by_cases hj : j = 0
  · subst hj
    rw [JS.step_none, JS.step_none]
    exact ⟨h1, h2⟩
  by_cases hc : 0 < s.m ∧ s.X (s.m - 1) = x
  · have hl := h2 (s.m - 1) (by omega)
    have hc' : 0 < t.m ∧ t.X (t.m - 1) = x := by rw [← h1]; exact ⟨hc.1, by rw [← hl.1]; exact hc.2⟩
    rw [JS.step_more hj hc, JS.step_more hj hc']
    refine ⟨h1, fun i hi => ?_⟩
    simp only at hi ⊢
    obtain ⟨a, b1, c⟩ := h2 i hi
    rw [← h1]
    unfold upd
    by_cases e : i = s.m - 1
    · subst e
      rw [if_pos rfl, if_pos rfl, if_pos rfl, if_pos rfl]
      refine ⟨a, by rw [b1], fun k hk => ?_⟩
      unfold catF
      rw [← b1]
      by_cases e2 : k < s.N (s.m - 1)
      · rw [if_pos e2, if_pos e2]
        exact c k e2
      · rw [if_neg e2, if_neg e2]
        exact hb _ (by omega)
    · rw [if_neg e, if_neg e, if_neg e, if_neg e]
      exact ⟨a, b1, c⟩
  · have hc' : ¬ (0 < t.m ∧ t.X (t.m - 1) = x) := by
      rintro ⟨a, e⟩
      rw [← h1] at a e
      exact hc ⟨a, by rw [(h2 (s.m - 1) (by omega)).1]; exact e⟩
    rw [JS.step_new hj hc, JS.step_new hj hc']
    refine ⟨by simp only; omega, fun i hi => ?_⟩
    simp only at hi ⊢
    rw [← h1]
    unfold upd
    by_cases e : i = s.m
    · rw [if_pos e, if_pos e, if_pos e, if_pos e, if_pos e, if_pos e]
      exact ⟨rfl, rfl, hb⟩
    · rw [if_neg e, if_neg e, if_neg e, if_neg e, if_neg e, if_neg e]
      exact h2 i (by omega)
/-- One byte more. -/
theorem JS.step_snoc (s : JS) (x : Int) (j : Nat) (b : Nat → Int) : JEq (s.step x (j + 1) b) ((s.step x j b).step x 1 (fun _ => b j)) := by
  by_cases hj : j = 0
  · subst hj
    rw [JS.step_none]
    exact (JEq.refl s).step x 1 (fun i hi => by rw [show i = 0 by omega])
  by_cases hc : 0 < s.m ∧ s.X (s.m - 1) = x
  · rw [JS.step_more (by omega) hc, JS.step_more hj hc, JS.step_more (by omega) (by simpa using hc)]
    refine ⟨rfl, fun i hi => ?_⟩
    simp only at hi ⊢
    unfold upd
    by_cases e : i = s.m - 1
    · subst e
      simp only [if_true]
      refine ⟨trivial, by omega, fun k hk => ?_⟩
      unfold catF
      by_cases e1 : k < s.N (s.m - 1)
      · rw [if_pos e1, if_pos (by omega)]
      · rw [if_neg e1]
        by_cases e2 : k < s.N (s.m - 1) + j
        · rw [if_pos e2]
        · rw [if_neg e2, show k - s.N (s.m - 1) = j by omega]
    · simp only [if_neg e]
      simp
  · rw [JS.step_new (by omega) hc, JS.step_new hj hc, JS.step_more (by omega) (by simp [upd])]
    refine ⟨rfl, fun i hi => ?_⟩
    simp only [Nat.add_sub_cancel] at hi ⊢
    unfold upd
    by_cases e : i = s.m
    · subst e
      simp only [if_true]
      refine ⟨trivial, trivial, fun k hk => ?_⟩
      unfold catF
      by_cases e2 : k < j
      · rw [if_pos e2]
      · rw [if_neg e2, show k = j by omega]
    · simp only [if_neg e]
      simp
/-- Bytes, one by one, with who sent them. -/
def jb (l : List (Int × Int)) : JS := l.foldl (fun s p => s.step p.1 1 (fun _ => p.2)) ⟨0, fun _ => 0, fun _ => 0, fun _ _ => 0⟩
theorem jb_snoc (l : List (Int × Int)) (p : Int × Int) : jb (l ++ [p]) = (jb l).step p.1 1 (fun _ => p.2) := by
  unfold jb
  rw [List.foldl_append]
  rfl
/-- The bytes of one chunk. -/
def flC (x : Int) (b : Nat → Int) (j : Nat) : List (Int × Int) := (List.range j).map fun i => (x, b i)
theorem flC_succ (x : Int) (b : Nat → Int) (j : Nat) : flC x b (j + 1) = flC x b j ++ [(x, b j)] := by simp [flC, List.range_succ]
def flF (X : Nat → Int) (N : Nat → Nat) (G : Nat → Nat → Int) : Nat → List (Int × Int)
  | 0 => []
  | k + 1 => flF X N G k ++ flC (X k) (G k) (N k)
theorem flC_congr {x : Int} {b b' : Nat → Int} {j : Nat} (h : ∀ i, i < j → b i = b' i) : flC x b j = flC x b' j := by
  unfold flC
  exact List.map_congr_left fun i hi => by rw [h i (List.mem_range.1 hi)]
theorem flF_congr {X X' : Nat → Int} {N N' : Nat → Nat} {G G' : Nat → Nat → Int} (k : Nat) (h : ∀ i, i < k → X i = X' i ∧ N i = N' i ∧ ∀ j, j < N i → G i j = G' i j) : flF X N G k = flF X' N' G' k := by
  induction k with
  | zero => rfl
  | succ k ih =>
    obtain ⟨a, b, c⟩ := h k (by omega)
    show flF X N G k ++ flC (X k) (G k) (N k) = flF X' N' G' k ++ flC (X' k) (G' k) (N' k)
    rw [ih (fun i hi => h i (by omega)), flC_congr c, a, b]
theorem jb_chunk (s : JS) (l : List (Int × Int)) (h : JEq s (jb l)) (x : Int) (b : Nat → Int) (j : Nat) : JEq (s.step x j b) (jb (l ++ flC x b j)) := by
  induction j with
  | zero =>
    rw [JS.step_none]
    simpa [flC] using h
  | succ j ih =>
    rw [flC_succ, ← List.append_assoc, jb_snoc]
    exact (JS.step_snoc s x j b).trans (ih.step x 1 (fun _ _ => rfl))
theorem jn_jb (F : Nat → Ck) (k : Nat) : JEq (jn F k) (jb (flF (fun i => (F i).from_) (fun i => (F i).n) (fun i => (F i).b) k)) := by
  induction k with
  | zero => exact JEq.refl _
  | succ k ih =>
    rw [jn_succ F k rfl]
    exact jb_chunk _ _ ih _ _ _
end Go.Proofs.Ytpnjamomkpkkeaa
