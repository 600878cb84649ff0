/- Layer 12: all frames that end with pieces, in order: 'all' of the laws. -/
import Derived.Test.YtpnjamomkpkkeaaCta
import Derived.Test.YtpnjamomkpkkeaaJn4
namespace Go.Proofs.Ytpnjamomkpkkeaa
set_option linter.unusedVariables false
set_option linter.unusedSimpArgs false
open Go.RowKit

/-- A cutter and the frames that it has handed over so far. -/
structure AllOk (p N : Nat) (w0 w1 : World) (L : Int → List Int) (gs : List Rl) (s : Int → Pt) (v : Int → Value) (vo : Value) (G : Nat → Rw) : Prop where
  ct : CtOk p N w1 L s v
  ro : RwsO (fun i => ¬ ctS p v i) N w1 vo gs G
  nov : ∀ i, vo.ownBlock = some i → ¬ ctS p v i
  bel : Below N w0 w1
theorem RwsO.below {S : Nat → Prop} {N : Nat} {w w' : World} {ve : Value} {gs : List Rl} {F : Nat → Rw} (h : RwsO S N w ve gs F) (hb : Below w.heap.size w w') : RwsO S N w' ve gs F :=
  ⟨h.own.below hb, fun i x hx => by
    obtain ⟨h1, h2⟩ := h.bod i x hx
    exact ⟨h1.below hb, fun hn a ha => ⟨(h2 hn a ha).1, (h2 hn a ha).2.1, Nat.lt_of_lt_of_le (h2 hn a ha).2.2 hb.size⟩⟩⟩
theorem RwsO.rwsR {S : Nat → Prop} {N : Nat} {w : World} {A : Option Addr} {n c : Nat} {gs : List Rl} {F : Nat → Rw} (h : RwsO S N w (.slice A n c) gs F) : RwsR w A n c gs ∧ n = gs.length := by
  obtain ⟨A', c', e, hr⟩ := h.rws
  injection e with e1 e2 e3
  subst e1 e2 e3
  exact ⟨hr, rfl⟩
section
variable {p N : Nat} {w0 w1 : World} {L : Int → List Int} {gs : List Rl} {s : Int → Pt} {v : Int → Value} {vo : Value} {G : Nat → Rw}
theorem AllOk.below (h : AllOk p N w0 w1 L gs s v vo G) {w2 : World} (hb : Below w1.heap.size w1 w2) : AllOk p N w0 w2 L gs s v vo G :=
  ⟨h.ct.below hb, h.ro.below hb, h.nov, h.bel.trans (hb.mono h.ct.hB)⟩
theorem ctS_up {sd : Int} (hsd : sd = 0 ∨ sd = 1) {u : Value} {i : Nat} (h : ctS p (upS v sd u) i) : ctS p v i ∨ u.ownBlock = some i := by
  rcases hsd with rfl | rfl <;> rcases h with h | h | h
  · exact .inl (.inl h)
  · rw [upS_at] at h; exact .inr h
  · rw [upS_ne _ _ (by decide)] at h; exact .inl (.inr (.inr h))
  · exact .inl (.inl h)
  · rw [upS_ne _ _ (by decide)] at h; exact .inl (.inr (.inl h))
  · rw [upS_at] at h; exact .inr h
theorem ctS_of {sd : Int} (hsd : sd = 0 ∨ sd = 1) {i : Nat} (h : i = p ∨ (v sd).ownBlock = some i) : ctS p v i := by
  rcases hsd with rfl | rfl <;> rcases h with h | h
  · exact .inl h
  · exact .inr (.inl h)
  · exact .inl h
  · exact .inr (.inr h)
theorem AllOk.fed (h : AllOk p N w0 w1 L gs s v vo G) {sd : Int} (hsd : sd = 0 ∨ sd = 1) {M : List Int} {t : Pt} {u : Value} {w2 : World} (hC : CtOk p N w2 (upS L sd (L sd ++ M)) (upS s sd t) (upS v sd u)) (hq : FrQ (fun i => i = p ∨ (v sd).ownBlock = some i) w1 w2) (hu : ∀ i, u.ownBlock = some i → (v sd).ownBlock = some i ∨ w1.heap.size ≤ i) :
    AllOk p N w0 w2 (upS L sd (L sd ++ M)) gs (upS s sd t) (upS v sd u) vo G := by
  have key : ∀ i, i < w1.heap.size → ¬ ctS p v i → ¬ ctS p (upS v sd u) i := fun i hi hn hc => by
    rcases ctS_up hsd hc with h1 | h1
    · exact hn h1
    · rcases hu i h1 with h2 | h2
      · exact hn (ctS_of hsd (.inr h2))
      · omega
  refine ⟨hC, ⟨h.ro.own.frQ hq fun i hi hc => h.nov i hi (ctS_of hsd hc), fun i x hx => ?_⟩, fun i hi => key i (World.ownsRow.lt h.ro.own i hi).2 (h.nov i hi), h.bel.trans (hq.bel h.ct.hB fun i _ hc => (h.ct.at0 (ctS_of hsd hc)).1)⟩
  obtain ⟨k1, k2⟩ := h.ro.bod i x hx
  refine ⟨k1.frQ hq fun hn a ha hc => (k2 hn a ha).1 (ctS_of hsd hc), fun hn a ha => ⟨key _ (k2 hn a ha).2.2 (k2 hn a ha).1, (k2 hn a ha).2.1, Nat.lt_of_lt_of_le (k2 hn a ha).2.2 hq.size⟩⟩
theorem AllOk.app (h : AllOk p N w0 w1 L gs s v vo G) {S : Nat → Prop} {N2 : Nat} {ve : Value} {hs : List Rl} {F : Nat → Rw} (hr : RwsO S N2 w1 ve hs F) (hS : ∀ i, S i → ¬ ctS p v i ∧ vo.ownBlock ≠ some i) {vo' : Value} {w2 : World} (h6 : OwnV 6 29 N w2 vo' (gs.length + hs.length) (catV (gs.length * 6) (rwV G) (rwV F))) (hg : w1.grownBy w2 vo.ownBlock) (hb : vo'.ownBlock = vo.ownBlock ∨ vo'.ownBlock = some w1.heap.size) :
    AllOk p N w0 w2 L (gs ++ hs) s v vo' (catRw gs.length G F) := by
  have hq : FrQ (fun i => vo.ownBlock = some i) w1 w2 := FrQ.grown hg fun g e => e
  have hnb : ∀ b, b < w1.heap.size → vo.ownBlock ≠ some b → vo'.ownBlock ≠ some b := fun b hb1 hb2 e => by
    rcases hb with hb | hb
    · exact hb2 (hb ▸ e)
    · rw [hb] at e; have := Option.some.inj e; omega
  refine ⟨h.ct.frQ hq fun i _ hc e => h.nov i e hc, ⟨?_, fun i y hy => ?_⟩, fun i hi hc => ?_, h.bel.trans (hq.bel h.ct.hB fun i _ e => (World.ownsRow.lt h.ro.own i e).1)⟩
  · rw [rwV_cat] at h6
    rw [List.length_append]
    exact h6
  · unfold catRw
    by_cases hi : i < gs.length
    · rw [if_pos hi]
      rw [List.getElem?_append_left hi] at hy
      obtain ⟨k1, k2⟩ := h.ro.bod i y hy
      exact ⟨k1.frQ hq fun hn a ha => (k2 hn a ha).2.1, fun hn a ha => ⟨(k2 hn a ha).1, hnb _ (k2 hn a ha).2.2 (k2 hn a ha).2.1, Nat.lt_of_lt_of_le (k2 hn a ha).2.2 hq.size⟩⟩
    · rw [if_neg hi]
      rw [List.getElem?_append_right (by omega)] at hy
      obtain ⟨k1, k2⟩ := hr.bod _ y hy
      exact ⟨k1.frQ hq fun hn a ha => (hS _ (k2 hn a ha).1).2, fun hn a ha => ⟨(hS _ (k2 hn a ha).1).1, hnb _ (k2 hn a ha).2.2 (hS _ (k2 hn a ha).1).2, Nat.lt_of_lt_of_le (k2 hn a ha).2.2 hq.size⟩⟩
  · rcases hb with hb | hb
    · exact h.nov i (hb ▸ hi) hc
    · rw [hb] at hi
      have := Option.some.inj hi
      have := (h.ct.at0 hc).2
      omega
end
def nilL : Int → List Int := fun _ => []
/-- The bytes of the first pieces, side by side with their sides. -/
def flK (F : Nat → Ck) (k : Nat) : List (Int × Int) := flF (fun i => (F i).from_) (fun i => (F i).n) (fun i => (F i).b) k
def bM (X : Ck) : List Int := (List.range X.n).map X.b
theorem flC_map (x : Int) (b : Nat → Int) (j : Nat) : flC x b j = ((List.range j).map b).map fun y => (x, y) := by simp [flC]
theorem flK_succ (F : Nat → Ck) (k : Nat) : flK F (k + 1) = flK F k ++ (bM (F k)).map fun y => ((F k).from_, y) := by
  show flF _ _ _ k ++ flC _ _ _ = _
  rw [flC_map]; try rfl
theorem out_step (F : Nat → Ck) (k : Nat) (hL : ByL (endF nilL (flK F k) (F k).from_)) (hM : ByL (bM (F k))) :
    outF nilL (flK F (k + 1)) = outF nilL (flK F k) ++ (frs (F k).from_ (endF nilL (flK F k) (F k).from_ ++ bM (F k))).drop (frs (F k).from_ (endF nilL (flK F k) (F k).from_)).length ∧ endF nilL (flK F (k + 1)) = upS (endF nilL (flK F k)) (F k).from_ (endF nilL (flK F k) (F k).from_ ++ bM (F k)) := by
  obtain ⟨h1, h2⟩ := out_chunk (F k).from_ (bM (F k)) (endF nilL (flK F k)) hL hM
  rw [flK_succ, outF_app, endF_app, h1, h2]
  exact ⟨rfl, rfl⟩
theorem endF_len : ∀ (q : List (Int × Int)) (L : Int → List Int) (sd : Int), (endF L q sd).length ≤ (L sd).length + q.length
  | [], L, sd => Nat.le_refl _
  | (x, b) :: q, L, sd => by
    have h := endF_len q (upS L x (L x ++ [b])) sd
    show (endF _ q sd).length ≤ _
    refine Nat.le_trans h ?_
    unfold upS
    split
    · rename_i e; subst e; simp; omega
    · simp
theorem flK_len (F : Nat → Ck) (k : Nat) : (flK F k).length = sumC F k := by
  induction k with
  | zero => rfl
  | succ k ih =>
    rw [flK_succ, List.length_append, ih]
    simp [bM, sumC]
end Go.Proofs.Ytpnjamomkpkkeaa
