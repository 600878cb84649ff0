/- Wd1, Wd2 in one text. -/
import Derived.RangeFuncNested
import Derived.Test.YtminoofghdpomaaDoorSq5
import Derived.Test.YtminoofghdpomaaDoorShlf
import Derived.Test.YtminoofghdpomaaDoorVal
import Derived.Deep.RegionHeld3
namespace Go.Proofs.YtminoofghdpomaaDoor
set_option linter.unusedVariables false
set_option linter.unusedSimpArgs false
section
open Go Go.RowKit

theorem u8_all {p : UInt8 → Prop} (h : ∀ n : Fin 256, p (UInt8.ofNat n.val)) (c : UInt8) : p c := by
  have e := h ⟨c.toNat, c.toNat_lt⟩
  simpa using e
/-- A digit of base sixteen. -/
def hxC (v : Nat) : UInt8 := if v < 10 then 48 + v.toUInt8 else 87 + v.toUInt8
/-- What a digit is worth. -/
def hvC (c : UInt8) : Option Nat := if 48 ≤ c.toNat ∧ c.toNat ≤ 57 then some (c.toNat - 48) else if 97 ≤ c.toNat ∧ c.toNat ≤ 102 then some (c.toNat - 87) else none
theorem hv_hx {v : Nat} (h : v < 16) : hvC (hxC v) = some v := by
  have : v = 0 ∨ v = 1 ∨ v = 2 ∨ v = 3 ∨ v = 4 ∨ v = 5 ∨ v = 6 ∨ v = 7 ∨ v = 8 ∨ v = 9 ∨ v = 10 ∨ v = 11 ∨ v = 12 ∨ v = 13 ∨ v = 14 ∨ v = 15 := by omega
  rcases this with rfl | rfl | rfl | rfl | rfl | rfl | rfl | rfl | rfl | rfl | rfl | rfl | rfl | rfl | rfl | rfl <;> rfl
theorem hx_hvB (c : UInt8) : (hvC c).all (fun v => decide (v < 16 ∧ hxC v = c)) = true := by
  refine u8_all (p := fun c => (hvC c).all (fun v => decide (v < 16 ∧ hxC v = c)) = true) ?_ c
  decide +kernel
theorem hx_hv {c : UInt8} {v : Nat} (h : hvC c = some v) : v < 16 ∧ hxC v = c := by
  have := hx_hvB c
  rw [h] at this
  simpa using this
def hexL (b : UInt8) : List UInt8 := [hxC (b.toNat / 16), hxC (b.toNat % 16)]
theorem hexL_inj {a b : UInt8} (h : hexL a = hexL b) : a = b := by
  unfold hexL at h
  obtain ⟨h1, h2⟩ : hxC (a.toNat / 16) = hxC (b.toNat / 16) ∧ hxC (a.toNat % 16) = hxC (b.toNat % 16) := by simpa using h
  have a1 := a.toNat_lt
  have b1 := b.toNat_lt
  have e1 : a.toNat / 16 = b.toNat / 16 := by
    have x := hv_hx (v := a.toNat / 16) (by omega)
    rw [h1, hv_hx (by omega)] at x
    exact (Option.some.inj x).symm
  have e2 : a.toNat % 16 = b.toNat % 16 := by
    have x := hv_hx (v := a.toNat % 16) (by omega)
    rw [h2, hv_hx (by omega)] at x
    exact (Option.some.inj x).symm
  apply UInt8.toNat_inj.1
  omega
theorem hexL_of {h d : UInt8} {x y : Nat} (h1 : hvC h = some x) (h2 : hvC d = some y) : hexL (UInt8.ofNat (16 * x + y)) = [h, d] := by
  obtain ⟨a, b⟩ := hx_hv h1
  obtain ⟨c, e⟩ := hx_hv h2
  have : (UInt8.ofNat (16 * x + y)).toNat = 16 * x + y := by simp; omega
  unfold hexL
  rw [this, show (16 * x + y) / 16 = x by omega, show (16 * x + y) % 16 = y by omega, b, e]
/-- May a byte stand as it is? -/
def plC (b : UInt8) : Bool := decide (33 ≤ b.toNat ∧ b.toNat ≤ 126 ∧ b.toNat ≠ 37)
def qB (b : UInt8) : List UInt8 := if plC b then [b] else 37 :: hexL b
theorem qB_yes {b : UInt8} (h : plC b = true) : qB b = [b] := by simp [qB, h]
theorem qB_no {b : UInt8} (h : plC b = false) : qB b = 37 :: hexL b := by simp [qB, h]
theorem pl37 : plC 37 = false := rfl
theorem qB_inj {a b : UInt8} {X Y : List UInt8} (h : qB a ++ X = qB b ++ Y) : a = b ∧ X = Y := by
  cases ha : plC a <;> cases hb : plC b
  · rw [qB_no ha, qB_no hb] at h
    unfold hexL at h
    simp only [List.cons_append, List.nil_append, List.cons.injEq, true_and] at h
    exact ⟨hexL_inj (by unfold hexL; rw [h.1, h.2.1]), h.2.2⟩
  · rw [qB_no ha, qB_yes hb] at h
    simp only [List.cons_append, List.nil_append, List.cons.injEq] at h
    rw [← h.1, pl37] at hb
    exact absurd hb (by decide)
  · rw [qB_yes ha, qB_no hb] at h
    simp only [List.cons_append, List.nil_append, List.cons.injEq] at h
    rw [h.1, pl37] at ha
    exact absurd ha (by decide)
  · rw [qB_yes ha, qB_yes hb] at h
    simpa using h
def qL (l : List UInt8) : List UInt8 := l.flatMap qB
theorem qL_nil : qL [] = [] := rfl
theorem qL_cons (b : UInt8) (l : List UInt8) : qL (b :: l) = qB b ++ qL l := by simp [qL]
theorem qL_app (a b : List UInt8) : qL (a ++ b) = qL a ++ qL b := by simp [qL]
theorem qL_snoc (a : List UInt8) (b : UInt8) : qL (a ++ [b]) = qL a ++ qB b := by simp [qL]
theorem qB_pos (b : UInt8) : ∃ c r, qB b = c :: r := by
  cases h : plC b
  · exact ⟨_, _, qB_no h⟩
  · exact ⟨_, _, qB_yes h⟩
theorem qB_len (b : UInt8) : (qB b).length ≤ 3 ∧ 1 ≤ (qB b).length := by
  cases h : plC b
  · rw [qB_no h]; simp [hexL]
  · rw [qB_yes h]; simp
theorem qL_len : ∀ l : List UInt8, (qL l).length ≤ 3 * l.length ∧ l.length ≤ (qL l).length
  | [] => by simp [qL]
  | b :: l => by
    have := qL_len l
    have := qB_len b
    rw [qL_cons, List.length_append, List.length_cons]
    omega
/-- What stands ahead was told by what was read. -/
theorem qL_front : ∀ {s t left : List UInt8}, qL s ++ left = qL t → ∃ r, t = s ++ r ∧ left = qL r
  | [], t, left, h => ⟨t, rfl, by simpa [qL] using h⟩
  | b :: s, t, left, h => by
    cases t with
    | nil =>
      obtain ⟨c, r, e⟩ := qB_pos b
      rw [qL_cons, qL_nil, e] at h
      simp at h
    | cons d t =>
      rw [qL_cons, qL_cons, List.append_assoc] at h
      obtain ⟨rfl, h2⟩ := qB_inj h
      obtain ⟨r, rfl, h3⟩ := qL_front h2
      exact ⟨r, rfl, h3⟩
theorem qL_inj {s t : List UInt8} (h : qL s = qL t) : s = t := by
  obtain ⟨r, rfl, h2⟩ := qL_front (s := s) (t := t) (left := []) (by simpa using h)
  cases r with
  | nil => simp
  | cons b r =>
    obtain ⟨c, x, e⟩ := qB_pos b
    rw [qL_cons, e] at h2
    simp at h2
/-- A text's word. -/
def qW (l : List UInt8) : List UInt8 := if l = [] then [37] else qL l
theorem qL_37 (l : List UInt8) : qL l ≠ [37] := fun h => by
  cases l with
  | nil => simp [qL] at h
  | cons b l =>
    rw [qL_cons] at h
    cases hb : plC b
    · rw [qB_no hb] at h
      simp [hexL] at h
    · rw [qB_yes hb] at h
      simp at h
      rw [h.1, pl37] at hb
      exact absurd hb (by decide)
theorem qW_inj {s t : List UInt8} (h : qW s = qW t) : s = t := by
  unfold qW at h
  by_cases h1 : s = [] <;> by_cases h2 : t = []
  · rw [h1, h2]
  · rw [if_pos h1, if_neg h2] at h
    exact absurd h.symm (qL_37 t)
  · rw [if_neg h1, if_pos h2] at h
    exact absurd h (qL_37 s)
  · rw [if_neg h1, if_neg h2] at h
    exact qL_inj h
def qS (s : ByteArray) : ByteArray := ⟨(qW s.data.toList).toArray⟩
/-- What a word is read as. -/
def UnqR (w t : ByteArray) (ok : Bool) : Prop :=
  (ok = true ∧ qS t = w) ∨ (ok = false ∧ t = ⟨#[]⟩ ∧ ∀ u, qS u ≠ w)
theorem qS_inj {s t : ByteArray} (h : qS s = qS t) : s = t := by
  have h2 : (qW s.data.toList).toArray = (qW t.data.toList).toArray := congrArg ByteArray.data h
  have h3 := qW_inj (by simpa using congrArg Array.toList h2)
  apply ByteArray.ext
  exact Array.toList_inj.1 h3
theorem UnqR.same {w t u : ByteArray} {a b : Bool} (h : UnqR w t a) (k : UnqR w u b) : t = u ∧ a = b := by
  rcases h with ⟨rfl, h1⟩ | ⟨rfl, rfl, h1⟩ <;> rcases k with ⟨rfl, k1⟩ | ⟨rfl, rfl, k1⟩
  · exact ⟨qS_inj (h1.trans k1.symm), rfl⟩
  · exact absurd h1 (k1 _)
  · exact absurd k1 (h1 _)
  · exact ⟨rfl, rfl⟩
theorem UnqR.own {s t : ByteArray} {a : Bool} (h : UnqR (qS s) t a) : t = s ∧ a = true := by
  rcases h with ⟨rfl, h1⟩ | ⟨rfl, rfl, h1⟩
  · exact ⟨qS_inj h1, rfl⟩
  · exact absurd rfl (h1 s)
/-- Bytes as digits. -/
def hxL (l : List UInt8) : List UInt8 := l.flatMap hexL
theorem hxL_snoc (a : List UInt8) (b : UInt8) : hxL (a ++ [b]) = hxL a ++ hexL b := by simp [hxL]
theorem hxL_len (l : List UInt8) : (hxL l).length = 2 * l.length := by
  induction l with
  | nil => rfl
  | cons b l ih =>
    have : hxL (b :: l) = hexL b ++ hxL l := by simp [hxL]
    rw [this, List.length_append, ih]
    simp [hexL]
    omega
end

section
open Go Go.RowKit Go.PlainAid

theorem six_at (k : Nat) (h : k < 16) : ((⟨#[48, 49, 50, 51, 52, 53, 54, 55, 56, 57, 97, 98, 99, 100, 101, 102]⟩ : ByteArray)[k]'h) = hxC k := by
  have : k = 0 ∨ k = 1 ∨ k = 2 ∨ k = 3 ∨ k = 4 ∨ k = 5 ∨ k = 6 ∨ k = 7 ∨ k = 8 ∨ k = 9 ∨ k = 10 ∨ k = 11 ∨ k = 12 ∨ k = 13 ∨ k = 14 ∨ k = 15 := by omega
  rcases this with rfl | rfl | rfl | rfl | rfl | rfl | rfl | rfl | rfl | rfl | rfl | rfl | rfl | rfl | rfl | rfl <;> rfl
theorem six_cut (k : Nat) (h : k < 16) : (⟨#[48, 49, 50, 51, 52, 53, 54, 55, 56, 57, 97, 98, 99, 100, 101, 102]⟩ : ByteArray).extract k (k + 1) = ⟨#[hxC k]⟩ := by
  have : k = 0 ∨ k = 1 ∨ k = 2 ∨ k = 3 ∨ k = 4 ∨ k = 5 ∨ k = 6 ∨ k = 7 ∨ k = 8 ∨ k = 9 ∨ k = 10 ∨ k = 11 ∨ k = 12 ∨ k = 13 ∨ k = 14 ∨ k = 15 := by omega
  rcases this with rfl | rfl | rfl | rfl | rfl | rfl | rfl | rfl | rfl | rfl | rfl | rfl | rfl | rfl | rfl | rfl <;> rfl
def all16 (p : Nat → Nat → Bool) : Bool := (List.range 16).all fun x => (List.range 16).all fun y => p x y
theorem all16_at {p : Nat → Nat → Bool} (h : all16 p = true) {x y : Nat} (hx : x < 16) (hy : y < 16) : p x y = true :=
  List.all_eq_true.1 (List.all_eq_true.1 h x (List.mem_range.2 hx)) y (List.mem_range.2 hy)
theorem or16 {x y : Nat} (hx : x < 16) (hy : y < 16) : bits BinOp.or IntKind.i64 ((x : Int) * 16) (y : Int) % 256 = 16 * (x : Int) + (y : Int) := by
  have := all16_at (p := fun x y => decide (bits BinOp.or IntKind.i64 ((x : Int) * 16) (y : Int) % 256 = 16 * (x : Int) + (y : Int))) (by decide +kernel) hx hy
  exact of_decide_eq_true this
def plI (c : Int) : Bool := decide (33 ≤ c ∧ c ≤ 126 ∧ c ≠ 37)
theorem plI_of (b : UInt8) : plI (b.toNat : Int) = plC b := by
  unfold plI plC
  congr 1
  apply propext
  constructor <;> intro h <;> omega
theorem catR4 {a b y : ByteArray} (hc : a ++ b = y) (hs : a.size + b.size ≤ 9223372036854775807) : ∀ W, (Op.stringOp .add a b).run Tryd.prog W = .ok (.string y) W := fun W => by
  rw [run_string_add_sum W a b hs, hc]
def hvI (b : UInt8) : Int := match hvC b with | some v => (v : Int) | none => -1
theorem six_ix (b : UInt8) : Lib.indexByte [48, 49, 50, 51, 52, 53, 54, 55, 56, 57, 97, 98, 99, 100, 101, 102] b = hvI b := by
  refine u8_all (p := fun b => Lib.indexByte [48, 49, 50, 51, 52, 53, 54, 55, 56, 57, 97, 98, 99, 100, 101, 102] b = hvI b) ?_ b
  decide +kernel
theorem ixbyte04 (b : UInt8) (w : World) : Calls Tryd.prog 75 #[.string ⟨#[48, 49, 50, 51, 52, 53, 54, 55, 56, 57, 97, 98, 99, 100, 101, 102]⟩, .int .u8 (b.toNat : Int)] w fun e w' => e = .returned (.int .i64 (hvI b)) ∧ w' = w := by
  have h := Tryd.strings_IndexByte (⟨#[48, 49, 50, 51, 52, 53, 54, 55, 56, 57, 97, 98, 99, 100, 101, 102]⟩ : ByteArray) (b.toNat : Int) w
  rw [show ((b.toNat : Int).toNat).toUInt8 = b by simp, show (⟨#[48, 49, 50, 51, 52, 53, 54, 55, 56, 57, 97, 98, 99, 100, 101, 102]⟩ : ByteArray).data.toList = [48, 49, 50, 51, 52, 53, 54, 55, 56, 57, 97, 98, 99, 100, 101, 102] from rfl, six_ix] at h
  exact h
end
end Go.Proofs.YtminoofghdpomaaDoor
