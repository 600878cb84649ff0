/- The chapter's example of layer 1, and the walks of its four laws: whatever the input they return true, and nothing that was there is written. -/
import Derived.Test.YtfkjgjdbjmcioaaDoorOct4
namespace Go.Proofs.YtfkjgjdbjmcioaaDoor
open Go.RowKit

/-- It returns true, and nothing that was there is written. -/
def Yes (w : World) (e : Ending) (w' : World) : Prop := e = .returned (.bool true) ∧ Below w.heap.size w w'

def lit4 : Nat → Int := fun i => if i = 1 then 1 else if i = 3 then 9 else 0
def lit2 : Nat → Int := fun i => if i = 0 then 1 else 2
theorem lit4_byt : Byt 4 lit4 := by intro i _; unfold lit4; repeat' split <;> omega
theorem num_lit4 : num lit4 3 = 256 := by decide
theorem put_lit : ∀ i, i < 0 + (2 : Int).toNat → putF 0 (oneF 0) (2 : Int).toNat 258 i = lit2 i := by
  intro i hi
  have : i = 0 ∨ i = 1 := by have : (2 : Int).toNat = 2 := rfl; omega
  rcases this with rfl | rfl <;> decide
theorem Rd.four (w : World) : Rd .u8 (w.alloc (.cells #[.int .u8 0, .int .u8 1, .int .u8 0, .int .u8 9] 5)) (some ⟨w.heap.size, 0, none⟩) 4 4 lit4 := by
  obtain ⟨A, c, e1, h, _⟩ := (Own.lit .u8 5 0 w lit4 #[.int .u8 0, .int .u8 1, .int .u8 0, .int .u8 9] 4 (Nat.zero_le _) (by simp [maxLen]) rfl).rd
  injection e1 with e1 _ e2
  subst e1
  subst e2
  exact h
theorem Rd.two (w : World) : Rd .u8 (w.alloc (.cells #[.int .u8 1, .int .u8 2] 5)) (some ⟨w.heap.size, 0, none⟩) 2 2 lit2 := by
  obtain ⟨A, c, e1, h, _⟩ := (Own.lit .u8 5 0 w lit2 #[.int .u8 1, .int .u8 2] 2 (Nat.zero_le _) (by simp [maxLen]) rfl).rd
  injection e1 with e1 _ e2
  subst e1
  subst e2
  exact h

theorem rsame_yes (A C : Option Addr) (n c d : Nat) (f g : Nat → Int) (w : World) (ha : Rd .u8 w A n c f) (hb : Rd .u8 w C n d g) (h : ∀ i, i < n → f i = g i) :
    Calls Tryd.prog 57 #[.slice A n c, .slice C n d] w fun e w' => e = .returned (.bool true) ∧ Drawn w w' := by
  have h1 := rsame_any A C n n c d f g w ha hb
  rw [sameB_yes rfl h] at h1
  exact h1

theorem Rd.two' (w : World) {b : Nat} (hb : b = w.heap.size) : Rd .u8 (w.alloc (.cells #[.int .u8 1, .int .u8 2] 5)) (some ⟨b, 0, none⟩) 2 2 lit2 := by
  subst hb
  exact Rd.two w

end Go.Proofs.YtfkjgjdbjmcioaaDoor
