/- A slice of fields (name, value, never) that came in, told by a function of the index; a law's parameter of that kind. -/
import Derived.Test.YtkdldcmeiihbcaaVal
import Derived.Deep.Slices
import Derived.ShutString
import Derived.PlainAid
namespace Go.Proofs.Ytkdldcmeiihbcaa
open Go.RowKit Go.ChangeShapes Go.WideShapes Go.Deep

/-- A field: its name, its value, and whether it may never be kept. -/
structure Fd where
  name : ByteArray
  val : ByteArray
  nev : Bool
instance : Inhabited Fd := ⟨⟨⟨#[]⟩, ⟨#[]⟩, false⟩⟩
/-- The slice reads as the fields F i, i < n. -/
def RdFd (w : World) (A : Option Addr) (n c : Nat) (F : Nat → Fd) : Prop :=
  n ≤ c ∧ c ≤ maxLen ∧ (A = none → c = 0) ∧ (0 < n → ∃ b off, A = some ⟨b, off, none⟩ ∧ ∀ i, i < n → w.cell? ⟨b, off + i * 3, none⟩ = some (.string (F i).name) ∧ w.cell? ⟨b, off + i * 3 + 1, none⟩ = some (.string (F i).val) ∧ w.cell? ⟨b, off + i * 3 + 2, none⟩ = some (.bool (F i).nev)) ∧
  ∀ i, i < n → (F i).name.size ≤ maxLen ∧ (F i).val.size ≤ maxLen
theorem RdFd.below {w w' : World} {A : Option Addr} {n c : Nat} {F : Nat → Fd} (h : RdFd w A n c F) (hb : Below w.heap.size w w') : RdFd w' A n c F :=
  ⟨h.1, h.2.1, h.2.2.1, fun hn => by
    obtain ⟨b, off, hA, hc⟩ := h.2.2.2.1 hn
    exact ⟨b, off, hA, fun i hi => by
      have h1 := (hc i hi).1
      have h2 := (hc i hi).2.1
      have h3 := (hc i hi).2.2
      rw [hb.cell (World.block_lt_of_cell? w _ h1), hb.cell (World.block_lt_of_cell? w _ h2), hb.cell (World.block_lt_of_cell? w _ h3)]
      exact ⟨h1, h2, h3⟩⟩, h.2.2.2.2⟩
theorem RdFd.at_ {w : World} {A : Option Addr} {n c : Nat} {F : Nat → Fd} (h : RdFd w A n c F) {i : Nat} (hi : i < n) :
    ∃ b off, A = some ⟨b, off, none⟩ ∧ w.cell? ⟨b, off + i * 3, none⟩ = some (.string (F i).name) ∧ w.cell? ⟨b, off + i * 3 + 1, none⟩ = some (.string (F i).val) ∧ w.cell? ⟨b, off + i * 3 + 2, none⟩ = some (.bool (F i).nev) := by
  obtain ⟨b, off, hA, hc⟩ := h.2.2.2.1 (by omega)
  exact ⟨b, off, hA, hc i hi⟩
theorem RdFd.drew {w : World} {A : Option Addr} {n c : Nat} {F : Nat → Fd} (h : RdFd w A n c F) : RdFd w.drew A n c F := h
theorem RdFd.drewN {w : World} {A : Option Addr} {n c : Nat} {F : Nat → Fd} (h : RdFd w A n c F) (m : Nat) : RdFd (w.drewN m) A n c F := h
theorem RdFd.len {w : World} {A : Option Addr} {n c : Nat} {F : Nat → Fd} (h : RdFd w A n c F) {i : Nat} (hi : i < n) : (F i).name.size ≤ 9223372036854775807 ∧ (F i).val.size ≤ 9223372036854775807 := by
  have := h.2.2.2.2 i hi
  simp only [maxLen] at this
  exact ⟨by omega, by omega⟩
theorem RdFd.le {w : World} {A : Option Addr} {n c : Nat} {F : Nat → Fd} (h : RdFd w A n c F) : n ≤ 9223372036854775807 := by
  have h1 := h.1
  have h2 := h.2.1
  simp only [maxLen] at h2
  omega
theorem RdFd.nil (w : World) (F : Nat → Fd) : RdFd w none 0 0 F := ⟨Nat.le_refl _, by simp [maxLen], fun _ => rfl, fun h => absurd h (by omega), fun i hi => by omega⟩

section
variable {H : Type} {enc : TypeId × Value → H} {P : Program} {w : World} {base : Nat} {spare : Nat → Bool} {held : Bool}
theorem rdfd_of {t e : TypeId} {f0 f1 f2 : Field} {fuel : Nat} {a : Option Addr} {len cap : Nat} {x : DataW H × List MemPlace} (ht : P.underlying t = some (.slice e)) (he : P.underlying e = some (.struct #[f0, f1, f2]))
    (hC : P.cellsOf e = 3) (o0 : f0.offset = 0) (o1 : f1.offset = 1) (o2 : f2.offset = 2) (k0 : P.cellsOf f0.type = 1) (k1 : P.cellsOf f1.type = 1) (k2 : P.cellsOf f2.type = 1) (u0 : P.underlying f0.type = some .string) (u1 : P.underlying f1.type = some .string) (u2 : P.underlying f2.type = some .bool)
    (h : DataW.trod enc P w base spare held fuel t [.slice a len cap] = some x) : ∃ F, RdFd w a len cap F := by
  rcases open_slice ht h with ⟨hcs, _⟩ | ⟨ad, l, c, m, n, D, Pl, hcs, _, hl, hm, hmm, _, hi⟩
  · simp at hcs
    obtain ⟨rfl, rfl, rfl⟩ := hcs
    exact ⟨fun _ => default, RdFd.nil _ _⟩
  · simp at hcs
    obtain ⟨rfl, rfl, rfl⟩ := hcs
    have hlm : len ≤ m := by rw [hmm]; split <;> omega
    have key : ∀ i, i < len → ∃ p : Fd, (w.cell? (ad.add (i * 3)) = some (.string p.name) ∧ w.cell? ((ad.add (i * 3)).add 1) = some (.string p.val) ∧ w.cell? ((ad.add (i * 3)).add 2) = some (.bool p.nev)) ∧ p.name.size ≤ maxLen ∧ p.val.size ≤ maxLen := by
      intro i him
      obtain ⟨cs', hc, ht'⟩ := hi i (by omega)
      rw [hC] at hc
      obtain ⟨_, hcl, hat⟩ := World.cells?_some hc
      obtain ⟨ys, n', _, _, _, hyl, hf⟩ := DataW.trod_struct he ht'
      match cs', hcl, hat, ys, hyl, hf with
      | [q0, q1, q2], _, hat, [ya, yb, yc], _, hf =>
        have a0 := hf 0 f0 rfl
        have a1 := hf 1 f1 rfl
        have a2 := hf 2 f2 rfl
        rw [o0, k0] at a0
        rw [o1, k1] at a1
        rw [o2, k2] at a2
        obtain ⟨v0, e0, _, w0⟩ := DataW.trod_string u0 (show DataW.trod enc P w base spare held n' f0.type [q0] = some ya from a0)
        obtain ⟨v1, e1, _, w1⟩ := DataW.trod_string u1 (show DataW.trod enc P w base spare held n' f1.type [q1] = some yb from a1)
        obtain ⟨v2, e2, _⟩ := DataW.trod_bool u2 (show DataW.trod enc P w base spare held n' f2.type [q2] = some yc from a2)
        simp at e0 e1 e2
        subst e0
        subst e1
        subst e2
        have h0 := hat 0 (by omega)
        have h1 := hat 1 (by omega)
        have h2 := hat 2 (by omega)
        refine ⟨⟨v0, v1, v2⟩, ⟨?_, by simpa using h1, by simpa using h2⟩, w0, w1⟩
        have e : (ad.add (i * 3)).add 0 = ad.add (i * 3) := by simp [Addr.add]
        rw [e] at h0
        simpa using h0
    obtain ⟨F, hF⟩ := choose_lt key
    refine ⟨F, ⟨hl, hm, fun e => (by cases e), fun hn => ?_, fun i hi => (hF i hi).2⟩⟩
    obtain ⟨b, off, spot⟩ := ad
    have h0 := (hF 0 hn).1.1
    have hs : spot = none := by simpa [Addr.add] using World.cell?_spot h0
    subst hs
    refine ⟨b, off, rfl, fun i hi => ?_⟩
    have := (hF i hi).1
    rw [Addr.add_lit, Addr.add_lit, Addr.add_lit] at this
    exact this
end
end Go.Proofs.Ytkdldcmeiihbcaa
