/- A slice of structs of two integers (and of two integers and a bool) that came in, told by functions of the index. Plain theorems; no program is named. -/
import Derived.Test.YtfkjgjdbjmcioaaDoorMem
import Derived.Deep.Slices
namespace Go.Proofs.YtfkjgjdbjmcioaaDoor
open Go.RowKit Go.ChangeShapes Go.WideShapes Go.Deep

/-- The slice reads as the structs (f i, g i), i < n. -/
def Rd2 (w : World) (A : Option Addr) (n c : Nat) (f g : Nat → Int) : Prop :=
  n ≤ c ∧ c ≤ maxLen ∧ (A = none → c = 0) ∧ (0 < n → ∃ b off, A = some ⟨b, off, none⟩ ∧ ∀ i, i < n → w.cell? ⟨b, off + i * 2, none⟩ = some (.int .i64 (f i)) ∧ w.cell? ⟨b, off + i * 2 + 1, none⟩ = some (.int .i64 (g i)))
def Wf64 (n : Nat) (f : Nat → Int) : Prop := ∀ i, i < n → -9223372036854775808 ≤ f i ∧ f i ≤ 9223372036854775807
theorem Rd2.below {w w' : World} {A : Option Addr} {n c : Nat} {f g : Nat → Int} (h : Rd2 w A n c f g) (hb : Below w.heap.size w w') : Rd2 w' A n c f g :=
  ⟨h.1, h.2.1, h.2.2.1, fun hn => by
    obtain ⟨b, off, hA, hc⟩ := h.2.2.2 hn
    exact ⟨b, off, hA, fun i hi => by
      have h1 := (hc i hi).1
      have h2 := (hc i hi).2
      rw [hb.cell (World.block_lt_of_cell? w _ h1), hb.cell (World.block_lt_of_cell? w _ h2)]
      exact ⟨h1, h2⟩⟩⟩
theorem Rd2.at_ {w : World} {A : Option Addr} {n c : Nat} {f g : Nat → Int} (h : Rd2 w A n c f g) {i : Nat} (hi : i < n) :
    ∃ b off, A = some ⟨b, off, none⟩ ∧ w.cell? ⟨b, off + i * 2, none⟩ = some (.int .i64 (f i)) ∧ w.cell? ⟨b, off + i * 2 + 1, none⟩ = some (.int .i64 (g i)) := by
  obtain ⟨b, off, hA, hc⟩ := h.2.2.2 (by omega)
  exact ⟨b, off, hA, hc i hi⟩

section
variable {H : Type} {enc : TypeId × Value → H} {P : Program} {w : World} {base : Nat} {spare : Nat → Bool} {held : Bool}
theorem rd2_of {t e : TypeId} {f0 f1 : Field} {fuel : Nat} {a : Option Addr} {len cap : Nat} {x : DataW H × List MemPlace} (ht : P.underlying t = some (.slice e)) (he : P.underlying e = some (.struct #[f0, f1]))
    (hC : P.cellsOf e = 2) (o0 : f0.offset = 0) (o1 : f1.offset = 1) (k0 : P.cellsOf f0.type = 1) (k1 : P.cellsOf f1.type = 1) (u0 : P.underlying f0.type = some (.int .i64)) (u1 : P.underlying f1.type = some (.int .i64))
    (h : DataW.trod enc P w base spare held fuel t [.slice a len cap] = some x) : ∃ f g, Rd2 w a len cap f g ∧ Wf64 len f ∧ Wf64 len g := by
  rcases open_slice ht h with ⟨hcs, _⟩ | ⟨ad, l, c, m, n, D, Pl, hcs, _, hl, hm, hmm, _, hi⟩
  · simp at hcs
    obtain ⟨rfl, rfl, rfl⟩ := hcs
    exact ⟨fun _ => 0, fun _ => 0, ⟨Nat.le_refl _, by simp [maxLen], fun _ => rfl, fun h => absurd h (by omega)⟩, fun i hi => by omega, fun i hi => by omega⟩
  · simp at hcs
    obtain ⟨rfl, rfl, rfl⟩ := hcs
    have hlm : len ≤ m := by rw [hmm]; split <;> omega
    have key : ∀ i, i < len → ∃ p : Int × Int, (w.cell? (ad.add (i * 2)) = some (.int .i64 p.1) ∧ w.cell? ((ad.add (i * 2)).add 1) = some (.int .i64 p.2)) ∧ (Lit.int .i64 p.1).wf = true ∧ (Lit.int .i64 p.2).wf = true := by
      intro i him
      obtain ⟨cs', hc, ht'⟩ := hi i (by omega)
      rw [hC] at hc
      obtain ⟨_, hcl, hat⟩ := World.cells?_some hc
      obtain ⟨ys, n', _, _, _, hyl, hf⟩ := DataW.trod_struct he ht'
      match cs', hcl, hat, ys, hyl, hf with
      | [q0, q1], _, hat, [ya, yb], _, hf =>
        have a0 := hf 0 f0 rfl
        have a1 := hf 1 f1 rfl
        rw [o0, k0] at a0
        rw [o1, k1] at a1
        obtain ⟨v0, e0, _, w0⟩ := DataW.trod_int u0 (show DataW.trod enc P w base spare held n' f0.type [q0] = some ya from a0)
        obtain ⟨v1, e1, _, w1⟩ := DataW.trod_int u1 (show DataW.trod enc P w base spare held n' f1.type [q1] = some yb from a1)
        simp at e0 e1
        subst e0
        subst e1
        have h0 := hat 0 (by omega)
        have h1 := hat 1 (by omega)
        refine ⟨(v0, v1), ⟨?_, by simpa using h1⟩, w0, w1⟩
        have e : (ad.add (i * 2)).add 0 = ad.add (i * 2) := by simp [Addr.add]
        rw [e] at h0
        simpa using h0
    obtain ⟨F, hF⟩ := choose_lt key
    refine ⟨fun i => (F i).1, fun i => (F i).2, ⟨hl, hm, fun e => (by cases e), fun hn => ?_⟩, fun i hi => ?_, fun i hi => ?_⟩
    · obtain ⟨b, off, spot⟩ := ad
      have h0 := (hF 0 hn).1.1
      have hs : spot = none := by simpa [Addr.add] using World.cell?_spot h0
      subst hs
      refine ⟨b, off, rfl, fun i hi => ?_⟩
      have := (hF i hi).1
      rw [Addr.add_lit, Addr.add_lit] at this
      exact this
    · have := bounds_i64 (hF i hi).2.1
      show -9223372036854775808 ≤ (F i).1 ∧ (F i).1 ≤ 9223372036854775807
      omega
    · have := bounds_i64 (hF i hi).2.2
      show -9223372036854775808 ≤ (F i).2 ∧ (F i).2 ≤ 9223372036854775807
      omega
end
end Go.Proofs.YtfkjgjdbjmcioaaDoor
