/- The contracts of layer 2's cursor: a cursor that is there, and one that is not. -/
import Derived.Test.YtfkjgjdbjmcioaaDoorOctV
import Derived.Test.YtfkjgjdbjmcioaaDoorClone
import Derived.Test.YtfkjgjdbjmcioaaDoorCut
namespace Go.Proofs.YtfkjgjdbjmcioaaDoor
open Go.RowKit

theorem bytes_elem : Tryd.prog.elem 47 = 5 := by kernel_rfl
theorem bytes_cut (A : Option Addr) (n c k : Nat) (hk : k ≤ n) (W : World) :
    (Instr.slice 47 (.slice A n c) (some (.int .i64 (k : Int))) none none).run Tryd.prog W = .ok (.slice (cutA A c k) (n - k) (c - k)) W :=
  cut_l 47 5 Tryd.underlying47 bytes_elem c8_size A n c k hk .i64 W
theorem bytes_cut_h (A : Option Addr) (n c k : Nat) (hk : k ≤ c) (W : World) :
    (Instr.slice 47 (.slice A n c) none (some (.int .i64 (k : Int))) none).run Tryd.prog W = .ok (.slice (cutA A c 0) k c) W :=
  cut_h 47 5 Tryd.underlying47 bytes_elem c8_size A n c k hk .i64 W
theorem Rd.front {k : IntKind} {w : World} {A : Option Addr} {n c : Nat} {f : Nat → Int} (h : Rd k w A n c f) {m : Nat} (hm : m ≤ n) : Rd k w (cutA A c 0) m c f := by
  have h1 := h.cutR (lo := 0) (hi := m) (Nat.zero_le _) hm
  simp only [Nat.sub_zero, Nat.zero_add] at h1
  exact h1
theorem grown_cell (w w1 : World) (h : Below w.heap.size w w1) (p j : Nat) (u : Value) : w.grownBy (w1.setCell ⟨p, j, none⟩ u) (some p) :=
  ⟨h.os, h.tape, h.output, by have := h.size; simpa [World.setCell] using this, fun i hi hne => (Below.heap_setCell w1 ⟨p, j, none⟩ u i (fun e => hne (by simp [e]))).trans (h.block i hi)⟩
theorem drawn_grown {w w' : World} (h : Drawn w w') (row : Option Nat) : w.grownBy w' row := by
  obtain ⟨q, rfl⟩ := h
  exact ⟨rfl, rfl, rfl, Nat.le_refl _, fun _ _ _ => rfl⟩
theorem below_grown {w w' : World} (h : Below w.heap.size w w') (row : Option Nat) : w.grownBy w' row := ⟨h.os, h.tape, h.output, h.size, fun i hi _ => h.block i hi⟩

/-- What 'ahead' gives: the bytes that are left. -/
def Ahead (w : World) (m : Nat) (h : Nat → Int) (e : Ending) (w' : World) : Prop := ∃ A c, e = .returned (.slice A m c) ∧ Rd .u8 w A m c h ∧ Drawn w w'
theorem Own.baseT {k : IntKind} {e : TypeId} {B B' : Nat} {w : World} {v : Value} {n : Nat} {f : Nat → Int} (h : w.ownsRow B e 1 v n (row k n f)) (hB : B' ≤ B) : Own k e B' w v n f := by
  refine ⟨h.1, ?_⟩
  rcases h.2 with h2 | ⟨g, cap, cur, hv, hg, r⟩
  · exact .inl h2
  · exact .inr ⟨g, cap, cur, hv, by omega, r⟩
theorem drawn_size {w w' : World} (h : Drawn w w') : w'.heap.size = w.heap.size := by
  obtain ⟨q, rfl⟩ := h
  rfl
theorem Rd.other0 {k : IntKind} {w w' : World} {A : Option Addr} {n c : Nat} {f : Nat → Int} (h : Rd k w A n c f) {B : Nat} (hg : w.grownBy w' (some B)) (hne : ∀ b off, 0 < n → A = some ⟨b, off, none⟩ → b ≠ B) : Rd k w' A n c f :=
  ⟨h.1, h.2.1, h.2.2.1, fun hn => by
    obtain ⟨b, off, hA, hc⟩ := h.2.2.2 hn
    exact ⟨b, off, hA, fun i hi => hg.cell (hc i hi) (by intro e; exact hne b off hn hA (Option.some.inj e))⟩⟩
/-! ### Number, Bytes, Rest -/
end Go.Proofs.YtfkjgjdbjmcioaaDoor
