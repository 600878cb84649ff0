/- Layer 27: which pseudo-fields there are, as functions of the fields. -/
import Derived.Test.YtpohgehojmeodaaDoorMG
import Derived.Test.YtpohgehojmeodaaDoorMT
namespace Go.Proofs.YtpohgehojmeodaaDoor
set_option linter.unusedVariables false
set_option linter.unusedSimpArgs false
open Go.RowKit Go.PlainAid

def colB (s : ByteArray) : Bool := decide (0 < s.size ∧ bt s 0 = 58)
def eqN (a b : ByteArray) : Bool := a.toList == b.toList
theorem eqN_iff {a b : ByteArray} : eqN a b = true ↔ a = b := by
  unfold eqN
  constructor
  · intro h
    have := eq_of_beq h
    exact Go.WideShapes.bytes_inj (by rw [← ByteArray.toList_eq, ← ByteArray.toList_eq]; exact this)
  · rintro rfl; simp
theorem eqN_refl (a : ByteArray) : eqN a a = true := eqN_iff.2 rfl
def valF (F : Nat → Fd) (x : ByteArray) : Nat → Option ByteArray
  | 0 => none
  | k + 1 => match valF F x k with
    | some v => some v
    | none => if eqN (F k).name x then some (F k).val else none
def behB (F : Nat → Fd) : Nat → Bool
  | 0 => false
  | k + 1 => behB F k || !colB (F k).name
def hitB (NM : List ByteArray) (F : Nat → Fd) (k : Nat) : Bool := !behB F k && NM.any (eqN (F k).name ·) && (valF F (F k).name k).isNone
def okF (NM : List ByteArray) (F : Nat → Fd) : Nat → Bool
  | 0 => true
  | k + 1 => okF NM F k && (!colB (F k).name || hitB NM F k)
def cntF (F : Nat → Fd) (x : ByteArray) : Nat → Nat
  | 0 => 0
  | k + 1 => cntF F x k + if eqN (F k).name x then 1 else 0
theorem valF_none {F : Nat → Fd} {x : ByteArray} {k : Nat} : valF F x k = none ↔ ∀ j, j < k → eqN (F j).name x = false := by
  induction k with
  | zero => exact ⟨fun _ j hj => by omega, fun _ => rfl⟩
  | succ k ih =>
    unfold valF
    cases hv : valF F x k with
    | some v =>
      constructor
      · intro h; cases h
      · intro h
        have := ih.2 (fun j hj => h j (by omega))
        rw [hv] at this
        cases this
    | none =>
      have h0 := ih.1 hv
      constructor
      · intro h j hj
        by_cases e : j = k
        · subst e
          cases h2 : eqN (F j).name x with
          | false => rfl
          | true => rw [h2] at h; simp at h
        · exact h0 j (by omega)
      · intro h
        rw [h k (by omega)]
        rfl
theorem valF_some {F : Nat → Fd} {x v : ByteArray} {k : Nat} (h : valF F x k = some v) : ∃ j, j < k ∧ (F j).name = x := by
  refine Classical.byContradiction fun hn => ?_
  have : valF F x k = none := valF_none.2 fun j hj => by
    cases e : eqN (F j).name x with
    | false => rfl
    | true => exact absurd ⟨j, hj, eqN_iff.1 e⟩ hn
  rw [h] at this
  cases this
theorem cntF_zero {F : Nat → Fd} {x : ByteArray} {k : Nat} : cntF F x k = 0 ↔ valF F x k = none := by
  rw [valF_none]
  induction k with
  | zero => exact ⟨fun _ j hj => by omega, fun _ => rfl⟩
  | succ k ih =>
    unfold cntF
    constructor
    · intro h j hj
      by_cases e : j = k
      · subst e
        cases h2 : eqN (F j).name x with
        | false => rfl
        | true => rw [h2] at h; simp at h
      · exact ih.1 (by omega) j (by omega)
    · intro h
      rw [ih.2 (fun j hj => h j (by omega)), h k (by omega)]
      rfl
theorem cntF_le {F : Nat → Fd} {x : ByteArray} {n : Nat} : cntF F x n ≤ n := by
  induction n with
  | zero => exact Nat.le_refl _
  | succ k ih =>
    unfold cntF
    split <;> omega
theorem cntF_one {F : Nat → Fd} {x : ByteArray} {n : Nat} : cntF F x n ≤ 1 ↔ ∀ i j, i < j → j < n → ¬ ((F i).name = x ∧ (F j).name = x) := by
  induction n with
  | zero => exact ⟨fun _ i j _ hj => by omega, fun _ => by simp [cntF]⟩
  | succ k ih =>
    unfold cntF
    constructor
    · intro h i j hij hj hh
      by_cases e : j = k
      · subst e
        rw [if_pos (eqN_iff.2 hh.2)] at h
        have h0 : cntF F x j = 0 := by omega
        have := valF_none.1 (cntF_zero.1 h0) i hij
        rw [eqN_iff.2 hh.1] at this
        cases this
      · exact ih.1 (by omega) i j hij (by omega) hh
    · intro h
      by_cases e : eqN (F k).name x = true
      · rw [if_pos e]
        have : cntF F x k = 0 := cntF_zero.2 (valF_none.2 fun j hj => by
          cases e2 : eqN (F j).name x with
          | false => rfl
          | true => exact absurd ⟨eqN_iff.1 e2, eqN_iff.1 e⟩ (h j k hj (by omega)))
        omega
      · rw [if_neg e]
        exact ih.2 fun i j hij hj => h i j hij (by omega)
theorem behB_false {F : Nat → Fd} {k : Nat} : behB F k = false ↔ ∀ j, j < k → colB (F j).name = true := by
  induction k with
  | zero => exact ⟨fun _ j hj => by omega, fun _ => rfl⟩
  | succ k ih =>
    unfold behB
    rw [Bool.or_eq_false_iff, ih]
    constructor
    · rintro ⟨h1, h2⟩ j hj
      by_cases e : j = k
      · subst e; simpa using h2
      · exact h1 j (by omega)
    · intro h
      exact ⟨fun j hj => h j (by omega), by rw [h k (by omega)]; rfl⟩
theorem okF_iff {NM : List ByteArray} {F : Nat → Fd} {n : Nat} : okF NM F n = true ↔ ∀ i, i < n → colB (F i).name = true → hitB NM F i = true := by
  induction n with
  | zero => exact ⟨fun _ j hj => by omega, fun _ => rfl⟩
  | succ k ih =>
    unfold okF
    rw [Bool.and_eq_true, ih, Bool.or_eq_true]
    constructor
    · rintro ⟨h1, h2⟩ j hj hc
      by_cases e : j = k
      · subst e
        rcases h2 with h | h
        · rw [hc] at h; cases h
        · exact h
      · exact h1 j (by omega) hc
    · intro h
      refine ⟨fun j hj => h j (by omega), ?_⟩
      cases hc : colB (F k).name with
      | false => exact .inl rfl
      | true => exact .inr (h k (by omega) hc)
theorem okF_mono {NM : List ByteArray} {F : Nat → Fd} {k n : Nat} (h : okF NM F n = true) (hk : k ≤ n) : okF NM F k = true := okF_iff.2 fun i hi => okF_iff.1 h i (by omega)
/-- The document's words. -/
def OkD (NM : List ByteArray) (F : Nat → Fd) (n : Nat) : Prop := ∀ i, i < n → colB (F i).name = true → (i = 0 ∨ colB (F (i - 1)).name = true) ∧ NM.any (eqN (F i).name ·) = true ∧ cntF F (F i).name n ≤ 1
theorem okF_okD {NM : List ByteArray} {F : Nat → Fd} {n : Nat} : okF NM F n = true ↔ OkD NM F n := by
  rw [okF_iff]
  unfold hitB
  constructor
  · intro h i hi hc
    have h1 := h i hi hc
    simp only [Bool.and_eq_true, Bool.not_eq_true'] at h1
    obtain ⟨⟨hb, ha⟩, _⟩ := h1
    refine ⟨?_, ha, cntF_one.2 fun j k hjk hk hh => ?_⟩
    · by_cases e : i = 0
      · exact .inl e
      · exact .inr (behB_false.1 hb (i - 1) (by omega))
    · have hck : colB (F k).name = true := by rw [hh.2]; exact hc
      have h2 := h k hk hck
      simp only [Bool.and_eq_true] at h2
      have h3 := valF_none.1 (Option.isNone_iff_eq_none.1 h2.2) j hjk
      rw [eqN_iff.2 (hh.1.trans hh.2.symm)] at h3
      cases h3
  · intro h i hi hc
    obtain ⟨_, h2, h3⟩ := h i hi hc
    have key : ∀ m, m ≤ i → colB (F (i - m)).name = true := by
      intro m
      induction m with
      | zero => exact fun _ => hc
      | succ m ih =>
        intro hm
        have h4 := ih (by omega)
        rcases (h (i - m) (by omega) h4).1 with e | e
        · omega
        · rw [show i - (m + 1) = i - m - 1 by omega]; exact e
    simp only [Bool.and_eq_true, Bool.not_eq_true']
    refine ⟨⟨behB_false.2 fun j hj => ?_, h2⟩, Option.isNone_iff_eq_none.2 (valF_none.2 fun j hj => ?_)⟩
    · have := key (i - j) (by omega)
      rwa [show i - (i - j) = j by omega] at this
    · cases e : eqN (F j).name (F i).name with
      | false => rfl
      | true => exact absurd ⟨eqN_iff.1 e, rfl⟩ (cntF_one.1 h3 j i hj hi)
theorem okF_nil {F : Nat → Fd} {n : Nat} : okF [] F n = true ↔ ∀ i, i < n → colB (F i).name = false := by
  rw [okF_iff]
  unfold hitB
  constructor
  · intro h i hi
    cases hc : colB (F i).name with
    | false => rfl
    | true => have := h i hi hc; simp at this
  · intro h i hi hc
    rw [h i hi] at hc
    cases hc

def nMethod : ByteArray := ⟨#[58, 109, 101, 116, 104, 111, 100]⟩
def nScheme : ByteArray := ⟨#[58, 115, 99, 104, 101, 109, 101]⟩
def nAuth : ByteArray := ⟨#[58, 97, 117, 116, 104, 111, 114, 105, 116, 121]⟩
def nPath : ByteArray := ⟨#[58, 112, 97, 116, 104]⟩
def nStatus : ByteArray := ⟨#[58, 115, 116, 97, 116, 117, 115]⟩
def sConnect : ByteArray := ⟨#[67, 79, 78, 78, 69, 67, 84]⟩
def sE : ByteArray := ⟨#[]⟩
def rqN : List ByteArray := [nMethod, nScheme, nAuth, nPath]
def rsN : List ByteArray := [nStatus]
def txt (o : Option ByteArray) : ByteArray := o.getD sE
/-- Is it a request? -/
def reqB (F : Nat → Fd) (n : Nat) : Bool :=
  okF rqN F n && (if eqN (txt (valF F nMethod n)) sConnect then (valF F nScheme n).isNone && (valF F nPath n).isNone && !eqN (txt (valF F nAuth n)) sE
    else !eqN (txt (valF F nMethod n)) sE && !eqN (txt (valF F nScheme n)) sE && !eqN (txt (valF F nPath n)) sE)
/-- What it says. -/
def reqS (F : Nat → Fd) (n : Nat) (x : ByteArray) : ByteArray := if reqB F n then txt (valF F x n) else sE
/-- Other fields behind. -/
theorem valF_more {F : Nat → Fd} {x : ByteArray} (hx : colB x = true) {n k : Nat} (h : ∀ i, n ≤ i → i < n + k → colB (F i).name = false) : valF F x (n + k) = valF F x n := by
  induction k with
  | zero => rfl
  | succ k ih =>
    have h1 := ih (fun i h1 h2 => h i h1 (by omega))
    rw [show n + (k + 1) = (n + k) + 1 by omega]
    have e0 : valF F x (n + k + 1) = (match valF F x (n + k) with
      | some v => some v
      | none => if eqN (F (n + k)).name x then some (F (n + k)).val else none) := rfl
    rw [e0, h1]
    have e : eqN (F (n + k)).name x = false := by
      cases e : eqN (F (n + k)).name x with
      | false => rfl
      | true =>
        have := h (n + k) (by omega) (by omega)
        rw [eqN_iff.1 e, hx] at this
        cases this
    rw [e]
    cases valF F x n <;> rfl
theorem okF_more {NM : List ByteArray} {F : Nat → Fd} {n k : Nat} (h : ∀ i, n ≤ i → i < n + k → colB (F i).name = false) : okF NM F (n + k) = okF NM F n := by
  rw [Bool.eq_iff_iff, okF_iff, okF_iff]
  constructor
  · exact fun g i hi => g i (by omega)
  · intro g i hi hc
    by_cases e : i < n
    · exact g i e hc
    · rw [h i (by omega) (by omega)] at hc
      cases hc
theorem valF_congr {F G : Nat → Fd} {x : ByteArray} {n : Nat} (h : ∀ i, i < n → F i = G i) : valF F x n = valF G x n := by
  induction n with
  | zero => rfl
  | succ k ih =>
    unfold valF
    rw [ih (fun i hi => h i (by omega)), h k (by omega)]
theorem behB_congr {F G : Nat → Fd} {n : Nat} (h : ∀ i, i < n → F i = G i) : behB F n = behB G n := by
  induction n with
  | zero => rfl
  | succ k ih =>
    unfold behB
    rw [ih (fun i hi => h i (by omega)), h k (by omega)]
theorem okF_congr {NM : List ByteArray} {F G : Nat → Fd} {n : Nat} (h : ∀ i, i < n → F i = G i) : okF NM F n = okF NM G n := by
  induction n with
  | zero => rfl
  | succ k ih =>
    unfold okF hitB
    rw [ih (fun i hi => h i (by omega)), h k (by omega), behB_congr (fun i hi => h i (by omega)), valF_congr (fun i hi => h i (by omega))]
end Go.Proofs.YtpohgehojmeodaaDoor
