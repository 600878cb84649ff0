/- The state of layer 5's row, and the contract of its step: a bit more. -/
import Derived.Test.YteijpklepgenbaaBit3
import Derived.StillTailTactics
import Derived.Deep.RegionHeld3
namespace Go.Proofs.Yteijpklepgenbaa
open Go.RowKit

/-- The bytes of t bits, ones behind. -/
def byF (g : Nat → Int) (t : Nat) : Nat → Int := fun i => bnum (fun k => if 8 * i + k < t then g (8 * i + k) else 1) 8

/-- A row at block p, its bytes a row from block B on: t bits were written, g. -/
def Row (B : Nat) (w : World) (p t : Nat) (g : Nat → Int) : Prop :=
  ∃ v, w.heap[p]? = some (.cells #[v, .int .i64 (t : Int)] 45 (0, 0)) ∧ Own .u8 5 B w v ((t + 7) / 8) (byF g t) ∧ t ≤ 100000

/-- What has a certain element type stays. -/
def KeepT (T : TypeId) (w w' : World) : Prop := ∀ (i : Nat) (cs : Array Value), w.heap[i]? = some (.cells cs T (0, 0)) → w'.heap[i]? = some (.cells cs T (0, 0))
theorem KeepT.refl (T : TypeId) (w : World) : KeepT T w w := fun _ _ h => h
theorem KeepT.trans {T : TypeId} {a b c : World} (h : KeepT T a b) (k : KeepT T b c) : KeepT T a c := fun i cs e => k i cs (h i cs e)
theorem KeepT.alloc {T : TypeId} (w : World) (o : Obj) : KeepT T w (w.alloc o) := fun i cs h => (Below.heap_alloc w o i (Array.getElem?_eq_some_iff.1 h).1).trans h
theorem KeepT.drawn {T : TypeId} {w w' : World} (h : Drawn w w') : KeepT T w w' := by
  obtain ⟨q, rfl⟩ := h
  exact fun _ _ h => h
theorem KeepT.of_below {T : TypeId} {w w' : World} (h : Below w.heap.size w w') : KeepT T w w' := fun i cs e => (h.block i (Array.getElem?_eq_some_iff.1 e).1).trans e
theorem KeepT.grown {T T' : TypeId} {w w' : World} {g : Nat} {cs' : Array Value} (hg : w.grownBy w' (some g)) (hh : w.heap[g]? = some (.cells cs' T' (0, 0))) (hne : T ≠ T') : KeepT T w w' := fun i cs e => by
  refine (hg.block i (Array.getElem?_eq_some_iff.1 e).1 fun h => ?_).trans e
  obtain rfl := Option.some.inj h
  rw [e] at hh
  injection hh with hh
  injection hh with _ ht
  exact hne ht
theorem KeepT.set {T T' : TypeId} {w : World} {g j : Nat} {u : Value} {cs' : Array Value} (hh : w.heap[g]? = some (.cells cs' T' (0, 0))) (hne : T ≠ T') : KeepT T w (w.setCell ⟨g, j, none⟩ u) :=
  KeepT.grown (g := g) ⟨rfl, rfl, rfl, by simp [World.setCell], fun i _ h => Below.heap_setCell w ⟨g, j, none⟩ u i (fun e => h (by simp [e]))⟩ hh hne
theorem Own.keepT {k : IntKind} {e : TypeId} {B : Nat} {w w' : World} {v : Value} {n : Nat} {f : Nat → Int} (h : Own k e B w v n f) (hk : KeepT e w w') : Own k e B w' v n f := by
  refine ⟨h.1, ?_⟩
  rcases h.2 with h2 | ⟨g, cap, cur, hv, hB, hh, r⟩
  · exact .inl h2
  · exact .inr ⟨g, cap, cur, hv, hB, hk g cur hh, r⟩
/-- The block of a value that is owned. -/
theorem Own.form {k : IntKind} {e : TypeId} {B : Nat} {w : World} {v : Value} {n : Nat} {f : Nat → Int} (h : Own k e B w v n f) (hn : 0 < n) :
    ∃ g c cur, v = .slice (some ⟨g, 0, none⟩) n c ∧ B ≤ g ∧ w.heap[g]? = some (.cells cur e (0, 0)) ∧ n ≤ c := by
  rcases h.2 with ⟨_, h0⟩ | ⟨g, cap, cur, hv, hB, hh, hnc, _⟩
  · omega
  · exact ⟨g, cap, cur, hv, hB, hh, hnc⟩

/-! ### bits of a byte -/
theorem andNot_bit : ∀ x : Fin 256, ∀ j : Fin 8, ((x.val : Int) / 2 ^ (7 - j.val)) % 2 = 1 → bits .andNot .u8 (x.val : Int) (2 ^ (7 - j.val)) = (x.val : Int) - 2 ^ (7 - j.val) := by decide +kernel
theorem bnum8 (h : Nat → Int) : bnum h 8 = 128 * h 0 + 64 * h 1 + 32 * h 2 + 16 * h 3 + 8 * h 4 + 4 * h 5 + 2 * h 6 + h 7 := by
  simp only [bnum]
  omega
theorem bnum8_bd {h : Nat → Int} (hb : ∀ k, k < 8 → 0 ≤ h k ∧ h k ≤ 1) : 0 ≤ bnum h 8 ∧ bnum h 8 ≤ 255 := by
  rw [bnum8]
  have := hb 0; have := hb 1; have := hb 2; have := hb 3; have := hb 4; have := hb 5; have := hb 6; have := hb 7
  omega
/-- A bit that is one is taken away. -/
theorem bnum8_clear {h h' : Nat → Int} {j : Nat} (hb : ∀ k, k < 8 → 0 ≤ h k ∧ h k ≤ 1) (hj : j < 8) (h1 : h j = 1) (e0 : h' j = 0) (e : ∀ k, k < 8 → k ≠ j → h' k = h k) :
    bits .andNot .u8 (bnum h 8) (2 ^ (7 - j)) = bnum h' 8 := by
  obtain ⟨a, b⟩ := bnum8_bd hb
  obtain ⟨x, hx⟩ := Int.eq_ofNat_of_zero_le a
  have hs : ((x : Int) / 2 ^ (7 - j)) % 2 = 1 ∧ (x : Int) - 2 ^ (7 - j) = bnum h' 8 := by
    rw [← hx, bnum8, bnum8]
    have b0 := hb 0; have b1 := hb 1; have b2 := hb 2; have b3 := hb 3; have b4 := hb 4; have b5 := hb 5; have b6 := hb 6; have b7 := hb 7
    have c0 := e 0; have c1 := e 1; have c2 := e 2; have c3 := e 3; have c4 := e 4; have c5 := e 5; have c6 := e 6; have c7 := e 7
    clear hb e hx a b
    have hj' : j = 0 ∨ j = 1 ∨ j = 2 ∨ j = 3 ∨ j = 4 ∨ j = 5 ∨ j = 6 ∨ j = 7 := by omega
    rcases hj' with rfl | rfl | rfl | rfl | rfl | rfl | rfl | rfl <;> simp at * <;> omega
  have := andNot_bit ⟨x, by omega⟩ ⟨j, hj⟩ hs.1
  rw [hx]
  rw [this]
  exact hs.2

/-- A bit of a row's bytes. -/
def rbit (g : Nat → Int) (t i k : Nat) : Int := if 8 * i + k < t then g (8 * i + k) else 1
theorem byF_eq (g : Nat → Int) (t i : Nat) : byF g t i = bnum (rbit g t i) 8 := rfl
theorem bnum_congr {g h : Nat → Int} : ∀ {n : Nat}, (∀ k, k < n → g k = h k) → bnum g n = bnum h n
  | 0, _ => rfl
  | n + 1, e => by simp only [bnum]; rw [bnum_congr (fun k hk => e k (by omega)), e n (by omega)]
theorem rbit_bd {g : Nat → Int} {t : Nat} (hg : ∀ i, i < t → 0 ≤ g i ∧ g i ≤ 1) (i k : Nat) : 0 ≤ rbit g t i k ∧ rbit g t i k ≤ 1 := by
  unfold rbit
  split
  · exact hg _ ‹_›
  · omega
/-- A new byte is all ones. -/
theorem byF_new (g : Nat → Int) (t : Nat) (h : t % 8 = 0) : byF g t (t / 8) = 255 := by
  rw [byF_eq, bnum8]
  have e : ∀ k, k < 8 → rbit g t (t / 8) k = 1 := fun k hk => by unfold rbit; rw [if_neg (by omega)]
  rw [e 0, e 1, e 2, e 3, e 4, e 5, e 6, e 7] <;> omega
/-- A one written changes no byte. -/
theorem byF_one (g : Nat → Int) (t : Nat) : byF (setF g t 1) (t + 1) = byF g t := by
  funext i
  rw [byF_eq, byF_eq]
  refine bnum_congr fun k hk => ?_
  unfold rbit setF
  by_cases h : 8 * i + k < t
  · rw [if_pos (by omega), if_neg (by omega), if_pos h]
  · rw [if_neg h]
    by_cases h2 : 8 * i + k = t
    · rw [if_pos (by omega), if_pos h2]
    · rw [if_neg (by omega)]
/-- Other bytes stay when a nought is written. -/
theorem byF_zero_other (g : Nat → Int) (t i : Nat) (h : i ≠ t / 8) : byF (setF g t 0) (t + 1) i = byF g t i := by
  rw [byF_eq, byF_eq]
  refine bnum_congr fun k hk => ?_
  unfold rbit setF
  by_cases h1 : 8 * i + k < t
  · rw [if_pos (by omega), if_neg (by omega), if_pos h1]
  · rw [if_neg h1, if_neg (by omega)]
theorem byF_zero (g : Nat → Int) (t : Nat) (hg : ∀ i, i < t → 0 ≤ g i ∧ g i ≤ 1) : bits .andNot .u8 (byF g t (t / 8)) (2 ^ (7 - t % 8)) = byF (setF g t 0) (t + 1) (t / 8) := by
  rw [byF_eq, byF_eq]
  refine bnum8_clear (fun k _ => rbit_bd hg _ k) (by omega) ?_ ?_ ?_
  · unfold rbit; rw [if_neg (by omega)]
  · unfold rbit setF; rw [if_pos (by omega), if_pos (by omega)]
  · intro k hk hne
    unfold rbit setF
    by_cases h : 8 * (t / 8) + k < t
    · rw [if_pos (by omega), if_neg (by omega), if_pos h]
    · rw [if_neg h, if_neg (by omega)]
end Go.Proofs.Yteijpklepgenbaa
