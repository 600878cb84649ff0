/- Layer 17: the chapter's examples; the walks of HuffEncodes and HuffDecodes. -/
import Derived.Test.YteijpklepgenbaaHuG
import Derived.Lib.SlBytesConst
namespace Go.Proofs.Yteijpklepgenbaa
open Go.RowKit

theorem ones_no : ∀ S, S < 257 → len S < 30 → cd (rnk S) ≠ 2 ^ (len S) - 1 := fun S hS => by
  have h := all_lt (n := 257) (p := fun S => decide (len S < 30 → cd (rnk S) ≠ 2 ^ (len S) - 1)) (by decide +kernel) S hS
  exact of_decide_eq_true h
theorem mt_ones {g : Nat → Int} {N t : Nat} (h : ∀ i, t ≤ i → i < N → g i = 1) (h30 : N - t < 30) (S : Nat) : ¬ Mt g N t S := fun hM => by
  have h1 := ones_num (h := fun i => g (t + i)) (len S) (fun i hi => h (t + i) (by omega) (by have := hM.2.1; omega))
  have h2 := hM.2.2
  rw [h1] at h2
  have h3 := ones_no S hM.1 (by have := hM.2.1; omega)
  have h4 : ((2 ^ len S - 1 : Nat) : Int) = 2 ^ len S - 1 := by
    have h5 : 1 ≤ 2 ^ len S := Nat.one_le_two_pow
    have e : ((2 : Int) ^ len S) = ((2 ^ len S : Nat) : Int) := by simp
    rw [e]
    generalize 2 ^ len S = z at *
    omega
  rw [← h4] at h2
  exact h3 (by exact_mod_cast h2.symm)
theorem ex31 : Dcd (bitF (oneF 31)) 8 1 (oneF 97) 0 :=
  ⟨1, fun i => 5 * i, fun _ => 97, ⟨rfl, fun i hi => by
    obtain rfl : i = 0 := by omega
    exact ⟨⟨by decide, by decide +kernel, by decide +kernel⟩, by decide, by decide +kernel⟩⟩, .inl ⟨rfl, rfl, fun _ _ => rfl, mt_ones (fun i (h1 : 5 ≤ i) h2 => by
    have : i = 5 ∨ i = 6 ∨ i = 7 := by omega
    rcases this with rfl | rfl | rfl <;> decide +kernel) (by decide), by decide, fun i (h1 : 5 ≤ i) h2 => by
    have : i = 5 ∨ i = 6 ∨ i = 7 := by omega
    rcases this with rfl | rfl | rfl <;> decide +kernel⟩⟩
theorem ex255 : Dcd (bitF (oneF 255)) 8 0 (oneF 0) 10 :=
  ⟨0, fun _ => 0, fun _ => 0, ⟨rfl, fun i hi => by omega⟩, .inr (.inl ⟨rfl, rfl, mt_ones (fun i h1 h2 => by
    have h := all_lt (n := 8) (p := fun i => decide (bitF (oneF 255) i = 1)) (by decide +kernel) i h2
    exact of_decide_eq_true h) (by decide), fun h => absurd h.1 (by decide)⟩)⟩
def f31 : Nat → Int := fun i => if i = 0 then 31 else 255
theorem ex31255 : Dcd (bitF f31) 16 0 (oneF 0) 10 :=
  ⟨1, fun i => 5 * i, fun _ => 97, ⟨rfl, fun i hi => by
    obtain rfl : i = 0 := by omega
    exact ⟨⟨by decide, by decide +kernel, by decide +kernel⟩, by decide, by decide +kernel⟩⟩, .inr (.inl ⟨rfl, rfl, mt_ones (fun i h1 h2 => by
    have h := all_lt (n := 16) (p := fun i => decide (5 ≤ i → bitF f31 i = 1)) (by decide +kernel) i h2
    exact of_decide_eq_true h h1) (by decide), fun h => absurd h.1 (by decide)⟩)⟩
theorem exEnc : enT (oneF 97) 1 = 5 ∧ byF (enG (oneF 97) 1) 5 0 = 31 := by decide +kernel
theorem Rd.oneM (w : World) (x : Int) (T : TypeId) (fr : Nat × Nat) : Rd .u8 (w.alloc (.cells #[.int .u8 x] T fr)) (some ⟨w.heap.size, 0, none⟩) 1 1 (oneF x) :=
  ⟨Nat.le_refl _, by simp [maxLen], fun e => (by cases e), fun _ => ⟨_, _, rfl, fun i hi => by
    obtain rfl : i = 0 := by omega
    rw [World.cell?_alloc_mark]
    rfl⟩⟩
theorem byt_one {x : Int} (h0 : 0 ≤ x) (h1 : x ≤ 255) : Byt 1 (oneF x) := fun _ _ => ⟨h0, h1⟩
end Go.Proofs.Yteijpklepgenbaa
