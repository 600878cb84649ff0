/- A slice of slices of bytes that came in. Plain theorems; no program is named. -/
import Derived.Test.YtnkcbljhgcgpaaaDoorMA
import Derived.Test.YtnkcbljhgcgpaaaDoorVal
import Derived.Deep.Slices
namespace Go.Proofs.YtnkcbljhgcgpaaaDoor
set_option linter.unusedVariables false
set_option linter.unusedSimpArgs false
open Go.RowKit Go.ChangeShapes Go.WideShapes Go.Deep

structure Bb where
  A : Option Addr
  n : Nat
  c : Nat
  b : Nat → Int
instance : Inhabited Bb := ⟨⟨none, 0, 0, fun _ => 0⟩⟩
def RdBb (w : World) (A : Option Addr) (n c : Nat) (F : Nat → Bb) : Prop :=
  n ≤ c ∧ c ≤ maxLen ∧ (A = none → c = 0) ∧ (0 < n → ∃ b off, A = some ⟨b, off, none⟩ ∧ ∀ i, i < n → w.cell? ⟨b, off + i, none⟩ = some (.slice (F i).A (F i).n (F i).c)) ∧ ∀ i, i < n → Rd .u8 w (F i).A (F i).n (F i).c (F i).b ∧ Byt (F i).n (F i).b
theorem RdBb.below {w w' : World} {A : Option Addr} {n c : Nat} {F : Nat → Bb} (h : RdBb w A n c F) (hb : Below w.heap.size w w') : RdBb w' A n c F :=
  ⟨h.1, h.2.1, h.2.2.1, fun hn => by
    obtain ⟨b, off, hA, hc⟩ := h.2.2.2.1 hn
    refine ⟨b, off, hA, fun i hi => ?_⟩
    have h1 := hc i hi
    rw [hb.cell (World.block_lt_of_cell? w _ h1)]
    exact h1, fun i hi => ⟨(h.2.2.2.2 i hi).1.below hb, (h.2.2.2.2 i hi).2⟩⟩
theorem RdBb.at_ {w : World} {A : Option Addr} {n c : Nat} {F : Nat → Bb} (h : RdBb w A n c F) {i : Nat} (hi : i < n) : ∃ b off, A = some ⟨b, off, none⟩ ∧ w.cell? ⟨b, off + i, none⟩ = some (.slice (F i).A (F i).n (F i).c) := by
  obtain ⟨b, off, hA, hc⟩ := h.2.2.2.1 (by omega)
  exact ⟨b, off, hA, hc i hi⟩
section
variable {H : Type} {enc : TypeId × Value → H} {P : Program} {w : World} {base : Nat} {held : Bool}
theorem rdbb_of {t e u : TypeId} {fuel : Nat} {a : Option Addr} {len cap : Nat} {x : DataW H × List MemPlace} (ht : P.underlying t = some (.slice e)) (he : P.underlying e = some (.slice u)) (hC : P.cellsOf e = 1) (uu : P.underlying u = some (.int .u8)) (uc : P.cellsOf u = 1)
    (h : DataW.trod enc P w base (fun _ => true) held fuel t [.slice a len cap] = some x) : ∃ F, RdBb w a len cap F := by
  rcases open_slice ht h with ⟨hcs, _⟩ | ⟨ad, l, c, m, n, D, Pl, hcs, _, hl, hm, hmm, _, hi⟩
  · simp at hcs
    obtain ⟨rfl, rfl, rfl⟩ := hcs
    exact ⟨fun _ => ⟨none, 0, 0, fun _ => 0⟩, ⟨Nat.le_refl _, by simp [maxLen], fun _ => rfl, fun h => absurd h (by omega), fun i hi => by omega⟩⟩
  · simp at hcs
    obtain ⟨rfl, rfl, rfl⟩ := hcs
    have hlm : len ≤ m := by rw [hmm]; split <;> omega
    have key : ∀ i, i < len → ∃ p : Bb, w.cell? (ad.add i) = some (.slice p.A p.n p.c) ∧ Rd .u8 w p.A p.n p.c p.b ∧ Byt p.n p.b := by
      intro i him
      obtain ⟨cs', hc, ht'⟩ := hi i (by omega)
      rw [hC] at hc
      obtain ⟨_, hcl, hat⟩ := World.cells?_some hc
      match cs', hcl, hat, ht' with
      | [q0], _, hat, ht' =>
        obtain ⟨y, hy⟩ : ∃ y, DataW.trod enc P w base (fun _ => true) held n e [q0] = some y := ⟨_, ht'⟩
        obtain ⟨A, L, C, zs, e1, w1⟩ := bytes_of he uu uc hy
        subst e1
        have h0 := hat 0 (by omega)
        refine ⟨⟨A, L, C, _⟩, ?_, rd_of_row w1, byt_of_row w1⟩
        have e : (ad.add (i * 1)).add 0 = ad.add i := by simp [Addr.add]
        rw [e] at h0
        simpa using h0
    obtain ⟨F, hF⟩ := choose_lt key
    refine ⟨F, ⟨hl, hm, fun e => (by cases e), fun hn => ?_, fun i hi => (hF i hi).2⟩⟩
    obtain ⟨b, off, spot⟩ := ad
    have h0 := (hF 0 hn).1
    have hs : spot = none := by simpa [Addr.add] using World.cell?_spot h0
    subst hs
    refine ⟨b, off, rfl, fun i hi => ?_⟩
    have := (hF i hi).1
    rw [Addr.add_lit] at this
    exact this
end
end Go.Proofs.YtnkcbljhgcgpaaaDoor
