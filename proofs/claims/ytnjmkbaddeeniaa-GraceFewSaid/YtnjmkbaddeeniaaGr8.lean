/- Layer 35: few can all be kept: what is counted. -/
import Derived.Test.YtnjmkbaddeeniaaGr7
namespace Go.Proofs.Ytnjmkbaddeeniaa
open Go.RowKit Go.Maps

/-- Nothing was kept. -/
structure UnG (a : Int) (s : GS) : Prop where
  most : s.most = a
  f : ∀ i, i < s.n → s.f i = 0
  free : s.free = if 0 < a then 0 else s.n
  lt : ∀ k x, s.nx k = some x → 0 ≤ x ∧ x < (s.n : Int)
  inj : ∀ k l x, s.nx k = some x → s.nx l = some x → k = l
theorem UnG.new (a : Int) : UnG a (newS a) := ⟨rfl, fun _ _ => rfl, by unfold newS; simp, fun k x h => by simp [newS] at h, fun k l x h => by simp [newS] at h⟩
theorem closeG_new {s : GS} {id : Int} (h : s.nx id = none) : closeG s id = fillG ⟨s.most, s.n + 1, catF s.n s.f (oneF 0), updI s.nx id s.n, s.free, s.c + 1⟩ s.n := by
  unfold closeG
  rw [h]
theorem closeG_old {s : GS} {id x : Int} (h : s.nx id = some x) : closeG s id = s := by
  unfold closeG
  rw [h]
theorem UnG.close {a : Int} {s : GS} (h : UnG a s) (ha : 0 ≤ a) (id : Int) : UnG a (closeG s id) := by
  cases hx : s.nx id with
  | some x => rw [closeG_old hx]; exact h
  | none =>
    rw [closeG_new hx]
    obtain ⟨l1, l2, l3, l4, _⟩ := fillG_le ⟨s.most, s.n + 1, catF s.n s.f (oneF 0), updI s.nx id s.n, s.free, s.c + 1⟩ s.n
    refine ⟨l4.trans h.most, fun i hi => ?_, ?_, fun k x hk => ?_, fun k l x hk hl => ?_⟩
    · rw [l2]
      simp only
      unfold catF oneF
      split
      · exact h.f i (by assumption)
      · rfl
    · rw [l1]
      unfold fillG
      simp only
      rw [show catF s.n s.f (oneF 0) s.n = 0 by simp [catF, oneF], h.most]
      by_cases h0 : 0 < a
      · rw [if_neg (by omega), if_pos h0]
        simp only
        rw [h.free, if_pos h0]
      · rw [if_pos (by omega), if_neg h0]
    · rw [l3] at hk
      rw [l1]
      simp only [updI] at hk ⊢
      split at hk
      · cases hk; omega
      · have := h.lt k x hk; omega
    · rw [l3] at hk hl
      simp only [updI] at hk hl
      split at hk
      · rename_i e1
        cases hk
        split at hl
        · rename_i e2; rw [e1, e2]
        · have := h.lt l _ hl; omega
      · split at hl
        · cases hl
          have := h.lt k _ hk; omega
        · exact h.inj k l x hk hl
theorem close_has {s : GS} (id : Int) : ∃ x, (closeG s id).nx id = some x := by
  cases hx : s.nx id with
  | some x => rw [closeG_old hx]; exact ⟨x, hx⟩
  | none =>
    rw [closeG_new hx, (fillG_le _ _).2.2.1]
    exact ⟨s.n, by simp [updI]⟩
theorem close_keeps {s : GS} (id k : Int) (h : ∃ x, s.nx k = some x) : ∃ x, (closeG s id).nx k = some x := by
  cases hx : s.nx id with
  | some x => rw [closeG_old hx]; exact h
  | none =>
    rw [closeG_new hx, (fillG_le _ _).2.2.1]
    by_cases e : k = id
    · exact ⟨s.n, by simp [updI, e]⟩
    · obtain ⟨x, hk⟩ := h
      exact ⟨x, by simp [updI, e, hk]⟩
theorem close_same {s t : GS} (hn : s.n = t.n) (hx : s.nx = t.nx) (id : Int) : (closeG s id).n = (closeG t id).n ∧ (closeG s id).nx = (closeG t id).nx := by
  cases h : s.nx id with
  | some x => rw [closeG_old h, closeG_old (show t.nx id = some x by rw [← hx]; exact h)]; exact ⟨hn, hx⟩
  | none =>
    rw [closeG_new h, closeG_new (show t.nx id = none by rw [← hx]; exact h)]
    obtain ⟨a1, _, a3, _⟩ := fillG_le ⟨s.most, s.n + 1, catF s.n s.f (oneF 0), updI s.nx id s.n, s.free, s.c + 1⟩ s.n
    obtain ⟨b1, _, b3, _⟩ := fillG_le ⟨t.most, t.n + 1, catF t.n t.f (oneF 0), updI t.nx id t.n, t.free, t.c + 1⟩ t.n
    rw [a1, a3, b1, b3]
    exact ⟨by simp only; rw [hn], by simp only; rw [hn, hx]⟩
theorem UnG.can {a : Int} {s : GS} (h : UnG a s) {id x : Int} (hx : s.nx id = some x) : canG s id = decide (0 < a) := by
  obtain ⟨h0, h1⟩ := h.lt id x hx
  unfold canG
  rw [hx, h.free]
  simp only
  by_cases ha : 0 < a
  · rw [if_pos ha, decide_eq_true ha]
    exact decide_eq_true (by simpa using h0)
  · rw [if_neg ha, decide_eq_false ha]
    exact decide_eq_false (by omega)
/-- How many of the first k places were kept. -/
def cntK (K : Nat → Bool) : Nat → Nat
  | 0 => 0
  | k + 1 => cntK K k + if K k then 1 else 0
theorem cntK_le (K : Nat → Bool) (k : Nat) : cntK K k ≤ k := by
  induction k with
  | zero => exact Nat.le_refl _
  | succ k ih => unfold cntK; split <;> omega
theorem cntK_all {K : Nat → Bool} {k : Nat} (h : cntK K k = k) : ∀ p, p < k → K p = true := by
  induction k with
  | zero => exact fun p hp => by omega
  | succ k ih =>
    unfold cntK at h
    have := cntK_le K k
    cases hk : K k with
    | false => rw [hk] at h; simp at h; omega
    | true =>
      rw [hk] at h
      simp at h
      intro p hp
      by_cases e : p = k
      · rw [e]; exact hk
      · exact ih h p (by omega)
def addK (K : Nat → Bool) (q : Nat) : Nat → Bool := fun p => K p || p == q
theorem cntK_add {K : Nat → Bool} {q : Nat} (hq : K q = false) (k : Nat) : cntK (addK K q) k = cntK K k + if q < k then 1 else 0 := by
  induction k with
  | zero => simp [cntK]
  | succ k ih =>
    show cntK (addK K q) k + (if addK K q k then 1 else 0) = cntK K k + (if K k then 1 else 0) + _
    rw [ih]
    by_cases e : q = k
    · subst e
      rw [if_neg (Nat.lt_irrefl _), if_pos (Nat.lt_succ_self _), hq, show addK K q q = true by simp [addK]]
      simp
    · have h1 : addK K q k = K k := by
        have : (k == q) = false := by simpa using fun h => e h.symm
        simp [addK, this]
      rw [h1]
      by_cases h2 : q < k
      · rw [if_pos h2, if_pos (show q < k + 1 by omega)]; omega
      · rw [if_neg h2, if_neg (show ¬ q < k + 1 by omega)]; omega
/-- Some were kept, and there are no more than can be. -/
structure KeG (a : Int) (m : Int → Option Int) (K : Nat → Bool) (s : GS) : Prop where
  most : s.most = a
  few : (s.n : Int) ≤ a
  f : ∀ i, i < s.n → s.f i = (cntK K (i + 1) : Int)
  nx : ∀ k, s.nx k = (m k).map fun x => if K x.toNat then (s.n : Int) else x
  free : s.free = 0 ∨ ∀ p, p < s.n → K p = true
  freen : s.free ≤ s.n
  lt : ∀ k x, m k = some x → 0 ≤ x ∧ x < (s.n : Int)
  inj : ∀ k l x, m k = some x → m l = some x → k = l
theorem UnG.ke {a : Int} {s : GS} (h : UnG a s) (h0 : 0 < a) (hn : (s.n : Int) ≤ a) : KeG a s.nx (fun _ => false) s :=
  ⟨h.most, hn, fun i hi => by
    rw [h.f i hi]
    have : ∀ k, cntK (fun _ => false) k = 0 := fun k => by
      induction k with
      | zero => rfl
      | succ k ih => simp [cntK, ih]
    rw [this]
    rfl, fun k => by cases s.nx k <;> rfl, .inl (by rw [h.free, if_pos h0]), by rw [h.free, if_pos h0]; omega, h.lt, h.inj⟩
theorem KeG.can {a : Int} {m : Int → Option Int} {K : Nat → Bool} {s : GS} (h : KeG a m K s) {id x : Int} (hx : m id = some x) : canG s id = true := by
  obtain ⟨h0, h1⟩ := h.lt id x hx
  unfold canG
  rw [h.nx, hx]
  simp only [Option.map_some]
  refine decide_eq_true ?_
  rcases h.free with hf | hf
  · rw [hf]
    split
    · simp
    · simpa using h0
  · rw [hf x.toNat (by omega)]
    simp only [if_true]
    have := h.freen
    omega
theorem loopG_f (s : GS) (x j : Nat) : (∀ i, (loopG s x j).f i = if x ≤ i ∧ i < x + j then s.f i + 1 else s.f i) ∧ ((loopG s x j).free = s.free ∨ ∃ i, x ≤ i ∧ i < x + j ∧ s.most ≤ s.f i + 1 ∧ (loopG s x j).free = i + 1) := by
  induction j with
  | zero => exact ⟨fun i => by rw [if_neg (by omega)]; rfl, .inl rfl⟩
  | succ j ih =>
    obtain ⟨h1, h2⟩ := ih
    obtain ⟨l1, l2, l3, l4, l5⟩ := loopG_le s x j
    have hf := l5 (x + j) (Nat.le_refl _)
    obtain ⟨_, e2, _⟩ := incG_le (loopG s x j) (x + j)
    constructor
    · intro i
      show (incG (loopG s x j) (x + j)).f i = _
      rw [e2]
      unfold setF
      by_cases e : i = x + j
      · subst e
        rw [if_pos rfl, if_pos (by omega), hf]
      · rw [if_neg e, h1 i]
        by_cases h3 : x ≤ i ∧ i < x + j
        · rw [if_pos h3, if_pos (by omega)]
        · rw [if_neg h3, if_neg (by omega)]
    · show (incG (loopG s x j) (x + j)).free = s.free ∨ ∃ i, _ ∧ _ ∧ _ ∧ (incG (loopG s x j) (x + j)).free = i + 1
      unfold incG fillG
      simp only
      split
      · rename_i h3
        refine .inr ⟨x + j, by omega, by omega, ?_, rfl⟩
        rw [l3] at h3
        simpa [setF, hf] using h3
      · rcases h2 with h2 | ⟨i, a1, a2, a3, a4⟩
        · exact .inl h2
        · exact .inr ⟨i, a1, by omega, a3, a4⟩
theorem KeG.keep {a : Int} {m : Int → Option Int} {K : Nat → Bool} {s : GS} (h : KeG a m K s) {id x : Int} (hx : m id = some x) : ∃ K', KeG a m K' (keepG s id) := by
  obtain ⟨h0, h1⟩ := h.lt id x hx
  have hc := h.can hx
  obtain ⟨y, hy, hyf⟩ := canG_yes hc
  have hy2 := h.nx id
  rw [hx, hy] at hy2
  simp only [Option.map_some, Option.some.injEq] at hy2
  have hk : keepG s id = { loopG { s with c := s.c + 1 } y.toNat (s.n - y.toNat) with nx := updI s.nx id s.n, c := s.c + 1 + 1 } := by
    unfold keepG
    rw [hy]
    simp only
    rw [if_pos hyf]
  obtain ⟨l1, _, l3, _⟩ := loopG_le { s with c := s.c + 1 } y.toNat (s.n - y.toNat)
  obtain ⟨lf, lfr⟩ := loopG_f { s with c := s.c + 1 } y.toNat (s.n - y.toNat)
  simp only at l1 l3 lf lfr
  cases hK : K x.toNat with
  | true =>
    rw [hK] at hy2
    simp only [if_true] at hy2
    subst hy2
    simp only [Int.toNat_natCast] at l1 l3 lf lfr hk
    refine ⟨K, ?_⟩
    rw [hk]
    refine ⟨l3.trans h.most, by simp only; rw [l1]; exact h.few, fun i hi => ?_, fun k => ?_, ?_, ?_, fun k z hz => by simp only; rw [l1]; exact h.lt k z hz, h.inj⟩
    · simp only at hi ⊢
      rw [l1] at hi
      rw [lf i, if_neg (by omega)]
      exact h.f i hi
    · simp only
      rw [l1]
      unfold updI
      by_cases e : k = id
      · rw [if_pos e, e, hx]
        simp [hK]
      · rw [if_neg e]
        exact h.nx k
    · simp only
      rw [l1]
      rcases lfr with e | ⟨i, a1, a2, _⟩
      · rw [e]; exact h.free
      · omega
    · simp only
      rw [l1]
      rcases lfr with e | ⟨i, a1, a2, _⟩
      · rw [e]; exact h.freen
      · omega
  | false =>
    rw [hK] at hy2
    simp only [Bool.false_eq_true, if_false] at hy2
    subst hy2
    obtain ⟨q, rfl⟩ : ∃ q : Nat, y = (q : Int) := ⟨y.toNat, by omega⟩
    simp only [Int.toNat_natCast] at l1 l3 lf lfr hk hK
    have hfu : ∀ i, q ≤ i → i < s.n → s.most ≤ s.f i + 1 → i + 1 = s.n ∧ ∀ p, p < s.n → addK K q p = true := by
      intro i hi hin hm
      have e1 := h.f i hin
      have e2 := cntK_add hK (i + 1)
      rw [if_pos (by omega)] at e2
      have e3 := cntK_le (addK K q) (i + 1)
      have e4 := h.few
      have e5 := h.most
      have e6 : i + 1 = s.n := by omega
      refine ⟨e6, ?_⟩
      have e7 : cntK (addK K q) s.n = s.n := by rw [← e6]; omega
      exact cntK_all e7
    refine ⟨addK K q, ?_⟩
    rw [hk]
    refine ⟨l3.trans h.most, by simp only; rw [l1]; exact h.few, fun i hi => ?_, fun k => ?_, ?_, ?_, fun k z hz => by simp only; rw [l1]; exact h.lt k z hz, h.inj⟩
    · simp only at hi ⊢
      rw [l1] at hi
      rw [lf i, cntK_add hK]
      by_cases h3 : q ≤ i
      · rw [if_pos (by omega), if_pos (by omega), h.f i hi]
        push_cast
        rfl
      · rw [if_neg (by omega), if_neg (by omega), h.f i hi]
        simp
    · simp only
      rw [l1]
      unfold updI
      by_cases e : k = id
      · rw [if_pos e, e, hx]
        simp [addK]
      · rw [if_neg e, h.nx k]
        cases hm : m k with
        | none => rfl
        | some z =>
          have hz := h.lt k z hm
          have hne : z.toNat ≠ q := fun e2 => e (h.inj k id z hm (by rw [hx]; congr 1; omega))
          simp [addK, hne]
    · simp only
      rw [l1]
      rcases lfr with e | ⟨i, a1, a2, a3, a4⟩
      · rw [e]
        exact h.free.imp (fun e => e) fun hf p hp => by simp [addK, hf p hp]
      · exact .inr (hfu i a1 (by omega) a3).2
    · simp only
      rw [l1]
      rcases lfr with e | ⟨i, a1, a2, a3, a4⟩
      · rw [e]; exact h.freen
      · rw [a4]; omega
end Go.Proofs.Ytnjmkbaddeeniaa
