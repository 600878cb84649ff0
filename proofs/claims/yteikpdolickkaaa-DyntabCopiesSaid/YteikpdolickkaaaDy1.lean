/- Layer 21: a table behind a pointer; New, Weight, Len, Size, Max. -/
import Derived.Test.YteikpdolickkaaaOwO
import Derived.Test.YteikpdolickkaaaMG
import Derived.StillTailTactics
import Derived.Deep.RegionHeld3
import Derived.Deep.RegionLaw
import Derived.Deep.LoopGhost
namespace Go.Proofs.Yteikpdolickkaaa
open Go.RowKit Go.Deep

def wt (f : Fd) : Nat := f.name.size + f.val.size + 32
def sumW (F : Nat → Fd) : Nat → Nat
  | 0 => 0
  | n + 1 => sumW F n + wt (F n)
def shF (j : Nat) (F : Nat → Fd) : Nat → Fd := fun i => F (j + i)
theorem sumW_first (F : Nat → Fd) (n : Nat) : sumW F (n + 1) = wt (F 0) + sumW (shF 1 F) n := by
  induction n with
  | zero => show 0 + wt (F 0) = wt (F 0) + 0; omega
  | succ n ih =>
    show sumW F (n + 1) + wt (F (n + 1)) = wt (F 0) + (sumW (shF 1 F) n + wt (shF 1 F n))
    rw [ih]
    unfold shF
    rw [show 1 + n = n + 1 by omega]
    omega
theorem sumW_le {F : Nat → Fd} {n : Nat} (h : ∀ i, i < n → wt (F i) ≤ 500) : sumW F n ≤ 500 * n := by
  induction n with
  | zero => exact Nat.le_refl _
  | succ n ih =>
    have h1 := ih fun i hi => h i (by omega)
    have h2 := h n (by omega)
    show sumW F n + wt (F n) ≤ _
    omega
theorem sumW_congr {F G : Nat → Fd} {n : Nat} (h : ∀ i, i < n → F i = G i) : sumW F n = sumW G n := by
  induction n with
  | zero => rfl
  | succ n ih =>
    show sumW F n + wt (F n) = sumW G n + wt (G n)
    rw [ih fun i hi => h i (by omega), h n (by omega)]
theorem shF_shF (i j : Nat) (F : Nat → Fd) : shF i (shF j F) = shF (j + i) F := by
  funext k
  unfold shF
  rw [Nat.add_assoc]
theorem shF_zero (F : Nat → Fd) : shF 0 F = F := by
  funext k
  unfold shF
  rw [Nat.zero_add]
theorem field_info : (Try.prog.info? 52).map (fun i => (i.zero, i.size, i.bytes)) = some (some (.agg #[.string ⟨#[]⟩, .string ⟨#[]⟩, .bool false]), 3, 40) := by kernel_rfl
/-- A table: its n fields, the oldest first; g: the block of its slice. -/
structure TOk (B : Nat) (w : World) (p : Nat) (g : Option Nat) (n max : Nat) (F : Nat → Fd) : Prop where
  ex : ∃ v, w.heap[p]? = some (.cells #[v, .int .i64 (sumW F n : Int), .int .i64 (max : Int)] 68 (0, 0)) ∧ v.ownBlock = g ∧ OwnO 3 52 B w v n (fdV F)
  hp : B ≤ p
  ne : g ≠ some p
  mx : max ≤ 2147483647
  wl : ∀ i, i < n → wt (F i) ≤ 500
def tfp (p : Nat) (g : Option Nat) : Nat → Prop := fun i => i = p ∨ g = some i
section
variable {B : Nat} {w w' : World} {p : Nat} {g : Option Nat} {n max : Nat} {F : Nat → Fd}
theorem TOk.lt (h : TOk B w p g n max F) : ∀ i, tfp p g i → B ≤ i ∧ i < w.heap.size := by
  obtain ⟨⟨v, h1, h2, h3⟩, h4, _⟩ := h
  rintro i (rfl | hi)
  · exact ⟨h4, rowLt h1⟩
  · exact h3.lt i (h2.trans hi)
theorem TOk.at_ (h : TOk B w p g n max F) (hb : ∀ i, tfp p g i → w'.heap[i]? = w.heap[i]?) : TOk B w' p g n max F := by
  obtain ⟨⟨v, h1, h2, h3⟩, h4, h5, h6, h7⟩ := h
  exact ⟨⟨v, (hb p (.inl rfl)).trans h1, h2, h3.at_ fun b hv => hb b (.inr (h2 ▸ hv))⟩, h4, h5, h6, h7⟩
theorem TOk.below (h : TOk B w p g n max F) (hb : Below w.heap.size w w') : TOk B w' p g n max F := h.at_ fun i hi => hb.block i (h.lt i hi).2
theorem TOk.drew (h : TOk B w p g n max F) : TOk B w.drew p g n max F := h.at_ fun _ _ => rfl
theorem TOk.sum (h : TOk B w p g n max F) : sumW F n ≤ 500 * n := sumW_le h.wl
theorem TOk.row (h : TOk B w p g n max F) : ∃ A c, w.heap[p]? = some (.cells #[.slice A n c, .int .i64 (sumW F n : Int), .int .i64 (max : Int)] 68 (0, 0)) ∧ (Value.slice A n c).ownBlock = g ∧ OwnO 3 52 B w (.slice A n c) n (fdV F) := by
  obtain ⟨⟨v, h1, h2, h3⟩, _⟩ := h
  obtain ⟨A, c, rfl, _, _⟩ := h3.rd
  exact ⟨A, c, h1, h2, h3⟩
end
theorem rowT {w : World} {p : Nat} {T : TypeId} {a b c : Value} (h : w.heap[p]? = some (.cells #[a, b, c] T (0, 0))) : w.cell? ⟨p, 0, none⟩ = some a ∧ w.cell? ⟨p, 1, none⟩ = some b ∧ w.cell? ⟨p, 2, none⟩ = some c := by
  refine ⟨?_, ?_, ?_⟩ <;> simp [World.cell?, h]
theorem isMax21 (x : Int) (w : World) : Calls Try.prog 96 #[.int .i64 x] w fun e w' => e = .returned (.bool (decide (0 ≤ x ∧ x ≤ 2147483647))) ∧ w = w' := by
  by_cases h0 : 0 ≤ x
  · have d0 : decide (0 ≤ x) = true := decide_eq_true h0
    by_cases h1 : x ≤ 2147483647
    · have d1 : decide (x ≤ 2147483647) = true := decide_eq_true h1
      have e : decide (0 ≤ x ∧ x ≤ 2147483647) = true := decide_eq_true ⟨h0, h1⟩
      rw [e]
      clear h0 h1
      go_enter Try.func96, Try.ntmps96
      go_wp2
      go_ret
      exact ⟨rfl, rfl⟩
    · have d1 : decide (x ≤ 2147483647) = false := decide_eq_false h1
      have e : decide (0 ≤ x ∧ x ≤ 2147483647) = false := decide_eq_false (fun h => h1 h.2)
      rw [e]
      clear h0 h1
      go_enter Try.func96, Try.ntmps96
      go_wp2
      go_ret
      exact ⟨rfl, rfl⟩
  · have d0 : decide (0 ≤ x) = false := decide_eq_false h0
    have e : decide (0 ≤ x ∧ x ≤ 2147483647) = false := decide_eq_false (fun h => h0 h.1)
    rw [e]
    clear h0
    go_enter Try.func96, Try.ntmps96
    go_wp2
    go_ret
    exact ⟨rfl, rfl⟩
theorem newNo21 (x : Int) (h : ¬ (0 ≤ x ∧ x ≤ 2147483647)) (w : World) : Calls Try.prog 22 #[.int .i64 x] w fun e w' => e = .returned (.tuple #[.pointer none, .int .i64 1]) ∧ w = w' := by
  go_enter Try.func22, Try.ntmps22
  go_wp2_with fail
  refine (isMax21 x w).mono ?_
  rintro e w0 ⟨rfl, rfl⟩
  rw [decide_eq_false h]
  go_wp2_with fail
  go_ret2
  exact ⟨rfl, rfl⟩
theorem new21 (x : Int) (h : 0 ≤ x ∧ x ≤ 2147483647) (w : World) : Calls Try.prog 22 #[.int .i64 x] w fun e w' => e = .returned (.tuple #[.pointer (some ⟨w.heap.size, 0, none⟩), .int .i64 0]) ∧ w' = w.alloc (.cells #[.slice none 0 0, .int .i64 0, .int .i64 x] 68) := by
  go_enter Try.func22, Try.ntmps22
  go_wp2_with fail
  refine (isMax21 x w).mono ?_
  rintro e w0 ⟨rfl, rfl⟩
  rw [decide_eq_true h]
  go_wp2_with fail
  go_ret2
  exact ⟨rfl, rfl⟩
theorem TOk.new {B : Nat} (w : World) (x : Nat) (hB : B ≤ w.heap.size) (hx : x ≤ 2147483647) (F : Nat → Fd) : TOk B (w.alloc (.cells #[.slice none 0 0, .int .i64 0, .int .i64 (x : Int)] 68)) w.heap.size none 0 x F :=
  ⟨⟨.slice none 0 0, heap_alloc_new _ _, rfl, OwnO.nil _ _ _ _ _⟩, hB, by simp, hx, fun i hi => absurd hi (by omega)⟩
theorem weight21 (a b : ByteArray) (c : Bool) (ha : a.size ≤ 1000) (hb : b.size ≤ 1000) (w : World) : Calls Try.prog 30 #[.agg #[.string a, .string b, .bool c]] w fun e w' => e = .returned (.int .i64 ((a.size + b.size + 32 : Nat) : Int)) ∧ w' = w.alloc (.cells #[.string a, .string b, .bool c] 52) := by
  have hw1 : IntKind.i64.wrap ((a.size : Int) + (b.size : Int)) = (a.size : Int) + (b.size : Int) := IntWalk.i64_in _ (by omega)
  have hw2 : IntKind.i64.wrap ((a.size : Int) + (b.size : Int) + 32) = (a.size : Int) + (b.size : Int) + 32 := IntWalk.i64_in _ (by omega)
  have e : ((a.size + b.size + 32 : Nat) : Int) = (a.size : Int) + (b.size : Int) + 32 := by omega
  rw [e]
  go_enter Try.func30, Try.ntmps30
  go_wp2
  go_ret
  exact ⟨rfl, rfl⟩
theorem len21 {B : Nat} {w : World} {p : Nat} {g : Option Nat} {n max : Nat} {F : Nat → Fd} (h : TOk B w p g n max F) : Calls Try.prog 35 #[.pointer (some ⟨p, 0, none⟩)] w fun e w' => e = .returned (.int .i64 (n : Int)) ∧ w = w' := by
  obtain ⟨A, c, h1, _, _⟩ := h.row
  obtain ⟨c0, c1, c2⟩ := rowT h1
  clear h1
  go_enter Try.func35, Try.ntmps35
  go_wp2
  go_ret
  exact ⟨rfl, rfl⟩
theorem size21 {B : Nat} {w : World} {p : Nat} {g : Option Nat} {n max : Nat} {F : Nat → Fd} (h : TOk B w p g n max F) : Calls Try.prog 33 #[.pointer (some ⟨p, 0, none⟩)] w fun e w' => e = .returned (.int .i64 (sumW F n : Int)) ∧ w = w' := by
  obtain ⟨A, c, h1, _, _⟩ := h.row
  obtain ⟨c0, c1, c2⟩ := rowT h1
  clear h1
  go_enter Try.func33, Try.ntmps33
  go_wp2
  go_ret
  exact ⟨rfl, rfl⟩
theorem max21 {B : Nat} {w : World} {p : Nat} {g : Option Nat} {n max : Nat} {F : Nat → Fd} (h : TOk B w p g n max F) : Calls Try.prog 31 #[.pointer (some ⟨p, 0, none⟩)] w fun e w' => e = .returned (.int .i64 (max : Int)) ∧ w = w' := by
  obtain ⟨A, c, h1, _, _⟩ := h.row
  obtain ⟨c0, c1, c2⟩ := rowT h1
  clear h1
  go_enter Try.func31, Try.ntmps31
  go_wp2
  go_ret
  exact ⟨rfl, rfl⟩
end Go.Proofs.Yteikpdolickkaaa
