/- A slice of structs of a bool and three integers that came in. Plain theorems; no program is named. -/
import Derived.Test.YtopgcimjdlhclaaMA
namespace Go.Proofs.Ytopgcimjdlhclaa
open Go.RowKit Go.ChangeShapes Go.WideShapes Go.Deep

def Rd4 (w : World) (A : Option Addr) (n c : Nat) (h : Nat → Bool) (f g k : Nat → Int) : Prop :=
  n ≤ c ∧ c ≤ maxLen ∧ (A = none → c = 0) ∧ (0 < n → ∃ b off, A = some ⟨b, off, none⟩ ∧ ∀ i, i < n → w.cell? ⟨b, off + i * 4, none⟩ = some (.bool (h i)) ∧ w.cell? ⟨b, off + i * 4 + 1, none⟩ = some (.int .i64 (f i)) ∧ w.cell? ⟨b, off + i * 4 + 2, none⟩ = some (.int .i64 (g i)) ∧ w.cell? ⟨b, off + i * 4 + 3, none⟩ = some (.int .i64 (k i)))
theorem Rd4.below {w w' : World} {A : Option Addr} {n c : Nat} {f g k : Nat → Int} {h : Nat → Bool} (r : Rd4 w A n c h f g k) (hb : Below w.heap.size w w') : Rd4 w' A n c h f g k :=
  ⟨r.1, r.2.1, r.2.2.1, fun hn => by
    obtain ⟨b, off, hA, hc⟩ := r.2.2.2 hn
    exact ⟨b, off, hA, fun i hi => by
      obtain ⟨h1, h2, h3, h4⟩ := hc i hi
      rw [hb.cell (World.block_lt_of_cell? w _ h1), hb.cell (World.block_lt_of_cell? w _ h2), hb.cell (World.block_lt_of_cell? w _ h3), hb.cell (World.block_lt_of_cell? w _ h4)]
      exact ⟨h1, h2, h3, h4⟩⟩⟩
theorem Rd4.at_ {w : World} {A : Option Addr} {n c : Nat} {f g k : Nat → Int} {h : Nat → Bool} (r : Rd4 w A n c h f g k) {i : Nat} (hi : i < n) :
    ∃ b off, A = some ⟨b, off, none⟩ ∧ w.cell? ⟨b, off + i * 4, none⟩ = some (.bool (h i)) ∧ w.cell? ⟨b, off + i * 4 + 1, none⟩ = some (.int .i64 (f i)) ∧ w.cell? ⟨b, off + i * 4 + 2, none⟩ = some (.int .i64 (g i)) ∧ w.cell? ⟨b, off + i * 4 + 3, none⟩ = some (.int .i64 (k i)) := by
  obtain ⟨b, off, hA, hc⟩ := r.2.2.2 (by omega)
  exact ⟨b, off, hA, hc i hi⟩
section
variable {H : Type} {enc : TypeId × Value → H} {P : Program} {w : World} {base : Nat} {spare : Nat → Bool} {held : Bool}
theorem rd4_of {t e : TypeId} {f0 f1 f2 f3 : Field} {fuel : Nat} {a : Option Addr} {len cap : Nat} {x : DataW H × List MemPlace} (ht : P.underlying t = some (.slice e)) (he : P.underlying e = some (.struct #[f0, f1, f2, f3]))
    (hC : P.cellsOf e = 4) (o0 : f0.offset = 0) (o1 : f1.offset = 1) (o2 : f2.offset = 2) (o3 : f3.offset = 3) (k0 : P.cellsOf f0.type = 1) (k1 : P.cellsOf f1.type = 1) (k2 : P.cellsOf f2.type = 1) (k3 : P.cellsOf f3.type = 1) (u0 : P.underlying f0.type = some .bool) (u1 : P.underlying f1.type = some (.int .i64)) (u2 : P.underlying f2.type = some (.int .i64)) (u3 : P.underlying f3.type = some (.int .i64))
    (h : DataW.trod enc P w base spare held fuel t [.slice a len cap] = some x) : ∃ b f g k, Rd4 w a len cap b f g k ∧ Wf64 len g := by
  rcases open_slice ht h with ⟨hcs, _⟩ | ⟨ad, l, c, m, n, D, Pl, hcs, _, hl, hm, hmm, _, hi⟩
  · simp at hcs
    obtain ⟨rfl, rfl, rfl⟩ := hcs
    exact ⟨fun _ => false, fun _ => 0, fun _ => 0, fun _ => 0, ⟨Nat.le_refl _, by simp [maxLen], fun _ => rfl, fun h => absurd h (by omega)⟩, fun i hi => by omega⟩
  · simp at hcs
    obtain ⟨rfl, rfl, rfl⟩ := hcs
    have hlm : len ≤ m := by rw [hmm]; split <;> omega
    have key : ∀ i, i < len → ∃ p : Bool × Int × Int × Int, (w.cell? (ad.add (i * 4)) = some (.bool p.1) ∧ w.cell? ((ad.add (i * 4)).add 1) = some (.int .i64 p.2.1) ∧ w.cell? ((ad.add (i * 4)).add 2) = some (.int .i64 p.2.2.1) ∧ w.cell? ((ad.add (i * 4)).add 3) = some (.int .i64 p.2.2.2)) ∧ (Lit.int .i64 p.2.2.1).wf = true := by
      intro i him
      obtain ⟨cs', hc, ht'⟩ := hi i (by omega)
      rw [hC] at hc
      obtain ⟨_, hcl, hat⟩ := World.cells?_some hc
      obtain ⟨ys, n', _, _, _, hyl, hf⟩ := DataW.trod_struct he ht'
      match cs', hcl, hat, ys, hyl, hf with
      | [q0, q1, q2, q3], _, hat, [ya, yb, yc, yd], _, hf =>
        have a0 := hf 0 f0 rfl
        have a1 := hf 1 f1 rfl
        have a2 := hf 2 f2 rfl
        have a3 := hf 3 f3 rfl
        rw [o0, k0] at a0
        rw [o1, k1] at a1
        rw [o2, k2] at a2
        rw [o3, k3] at a3
        obtain ⟨v0, e0, _⟩ := DataW.trod_bool u0 (show DataW.trod enc P w base spare held n' f0.type [q0] = some ya from a0)
        obtain ⟨v1, e1, _, _⟩ := DataW.trod_int u1 (show DataW.trod enc P w base spare held n' f1.type [q1] = some yb from a1)
        obtain ⟨v2, e2, _, w2⟩ := DataW.trod_int u2 (show DataW.trod enc P w base spare held n' f2.type [q2] = some yc from a2)
        obtain ⟨v3, e3, _, _⟩ := DataW.trod_int u3 (show DataW.trod enc P w base spare held n' f3.type [q3] = some yd from a3)
        simp at e0 e1 e2 e3
        subst e0
        subst e1
        subst e2
        subst e3
        have h0 := hat 0 (by omega)
        have h1 := hat 1 (by omega)
        have h2 := hat 2 (by omega)
        have h3 := hat 3 (by omega)
        refine ⟨(v0, v1, v2, v3), ⟨?_, by simpa using h1, by simpa using h2, by simpa using h3⟩, w2⟩
        have e : (ad.add (i * 4)).add 0 = ad.add (i * 4) := by simp [Addr.add]
        rw [e] at h0
        simpa using h0
    obtain ⟨F, hF⟩ := choose_lt key
    refine ⟨fun i => (F i).1, fun i => (F i).2.1, fun i => (F i).2.2.1, fun i => (F i).2.2.2, ⟨hl, hm, fun e => (by cases e), fun hn => ?_⟩, fun i hi => ?_⟩
    · obtain ⟨b, off, spot⟩ := ad
      have h0 := (hF 0 hn).1.1
      have hs : spot = none := by simpa [Addr.add] using World.cell?_spot h0
      subst hs
      refine ⟨b, off, rfl, fun i hi => ?_⟩
      have := (hF i hi).1
      rw [Addr.add_lit, Addr.add_lit, Addr.add_lit, Addr.add_lit] at this
      exact this
    · have := bounds_i64 (hF i hi).2
      show -9223372036854775808 ≤ (F i).2.2.1 ∧ (F i).2.2.1 ≤ 9223372036854775807
      omega
end
end Go.Proofs.Ytopgcimjdlhclaa
