/- The contracts of 'octet.Put' and of its reference: a number's bytes behind those that are there, or why not. -/
import Derived.Test.YtfkjgjdbjmcioaaDoorOct2
namespace Go.Proofs.YtfkjgjdbjmcioaaDoor
open Go.RowKit

theorem u8_info : (Tryd.prog.info? 5).map (fun i => (i.zero, i.size, i.bytes)) = some (some (.int .u8 0), 1, 1) := by kernel_rfl
theorem u8_size : (Tryd.prog.info? 5).map (·.size) = some 1 := by kernel_rfl

def putE (v size : Int) : Int := if size < 1 ∨ 4 < size then 1 else if v < 0 ∨ pw size ≤ v then 5 else 0
/-- The i-th byte of a number's s bytes. -/
def byteAt (v : Int) (s i : Nat) : Int := v / 2 ^ (8 * (s - 1 - i)) % 256
def putF (n : Nat) (f : Nat → Int) (s : Nat) (v : Int) : Nat → Int := catF n f (byteAt v s)

/-- What the loop has written behind k rounds. -/
def putK (n : Nat) (f : Nat → Int) (s : Nat) (v : Int) (k : Nat) : Nat → Int := fun i => if i < n then f i else if i < n + k then byteAt v s (i - n) else 0
theorem putK_zero (n : Nat) (f : Nat → Int) (s : Nat) (v : Int) : ∀ i, catF n f (fun j => oneF 0 (n + j)) i = putK n f s v 0 i := by
  intro i
  unfold catF putK oneF
  by_cases h : i < n <;> simp [h]
theorem putK_succ (n : Nat) (f : Nat → Int) (s : Nat) (v : Int) (k : Nat) : setF (putK n f s v k) (n + k) (byteAt v s k) = putK n f s v (k + 1) := by
  funext i
  unfold setF putK
  by_cases h : i = n + k
  · subst h
    have : ¬ n + k < n := by omega
    simp [this]
  · by_cases h1 : i < n
    · simp [h, h1]
    · by_cases h2 : i < n + k
      · have : i < n + (k + 1) := by omega
        simp [h, h1, h2, this]
      · have : ¬ i < n + (k + 1) := by omega
        simp [h, h1, h2, this]
theorem putK_end (n : Nat) (f : Nat → Int) (s : Nat) (v : Int) : ∀ i, i < n + s → putK n f s v s i = putF n f s v i := by
  intro i hi
  unfold putK putF catF
  by_cases h1 : i < n <;> simp [h1, hi]

/-- What a function that hands back bytes and no error leaves. -/
def Gave (w : World) (n : Nat) (f : Nat → Int) (e : Ending) (w' : World) : Prop :=
  ∃ A c, e = .returned (.tuple #[.slice A n c, .int .i64 0]) ∧ Rd .u8 w' A n c f ∧ Below w.heap.size w w'
/-- The same, and the bytes are a row of the call's own. -/
def GaveO (w : World) (n : Nat) (f : Nat → Int) (e : Ending) (w' : World) : Prop :=
  ∃ A c, e = .returned (.tuple #[.slice A n c, .int .i64 0]) ∧ Own .u8 5 w.heap.size w' (.slice A n c) n f ∧ Below w.heap.size w w'
theorem GaveO.gave {w : World} {n : Nat} {f : Nat → Int} {e : Ending} {w' : World} (h : GaveO w n f e w') : Gave w n f e w' := by
  obtain ⟨A, c, h1, h2, h3⟩ := h
  obtain ⟨A', c', e', h4, _⟩ := h2.rd
  injection e' with e1 _ e2
  subst e1
  subst e2
  exact ⟨A, c, h1, h4, h3⟩

/-! ### its reference -/
theorem p2_pow (t : Nat) (h : t ≤ 4) : p2 t = 2 ^ (8 * t) := by
  have : t = 0 ∨ t = 1 ∨ t = 2 ∨ t = 3 ∨ t = 4 := by omega
  rcases this with rfl | rfl | rfl | rfl | rfl <;> simp [p2]
theorem p2_pos (t : Nat) : 0 < p2 t := by unfold p2; repeat' split <;> omega
theorem byteAt_p2 (v : Int) (s i : Nat) (h : s ≤ 4) : byteAt v s i = v / p2 (s - 1 - i) % 256 := by
  unfold byteAt
  rw [p2_pow _ (by omega)]

/-- What the reference's loop has written behind k rounds. -/
def rputK (n : Nat) (f : Nat → Int) (s : Nat) (v : Int) : Nat → Int := catF n f (byteAt v s)
theorem rput_succ (n : Nat) (f : Nat → Int) (s k : Nat) (v : Int) : ∀ i, i < n + k + 1 → catF (n + k) (putF n f s v) (oneF (byteAt v s k)) i = putF n f s v i := by
  intro i hi
  by_cases h : i < n + k
  · simp [catF, h]
  · have e : i = n + k := by omega
    subst e
    have : ¬ n + k < n := by omega
    simp [catF, putF, oneF, this]
theorem Gave.congr {w w' : World} {n : Nat} {f g : Nat → Int} {e : Ending} (h : Gave w n f e w') (hf : ∀ i, i < n → f i = g i) : Gave w n g e w' := by
  obtain ⟨A, c, h1, h2, h3⟩ := h
  exact ⟨A, c, h1, h2.congr hf, h3⟩

end Go.Proofs.YtfkjgjdbjmcioaaDoor
