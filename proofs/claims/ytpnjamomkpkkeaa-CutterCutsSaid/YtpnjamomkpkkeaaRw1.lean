/- Rows of raw frames: as a law's parameter. -/
import Derived.Test.YtpnjamomkpkkeaaMA
import Derived.Test.YtpnjamomkpkkeaaVal
import Derived.Deep.Slices
namespace Go.Proofs.Ytpnjamomkpkkeaa
set_option linter.unusedVariables false
set_option linter.unusedSimpArgs false
open Go.RowKit Go.ChangeShapes Go.WideShapes Go.Deep

/-- A raw frame: its cells, and the numbers of its body. -/
structure Rw where
  fm : Int
  T : Int
  fl : Int
  st : Int
  rs : Bool
  A : Option Addr
  n : Nat
  c : Nat
  b : Nat → Int
instance : Inhabited Rw := ⟨⟨0, 0, 0, 0, false, none, 0, 0, fun _ => 0⟩⟩
def I64 (x : Int) : Prop := -9223372036854775808 ≤ x ∧ x ≤ 9223372036854775807
/-- What the cells of one hold. -/
def RwC (w : World) (b off : Nat) (X : Rw) : Prop :=
  w.cell? ⟨b, off, none⟩ = some (.int .i64 X.fm) ∧ w.cell? ⟨b, off + 1, none⟩ = some (.int .i64 X.T) ∧ w.cell? ⟨b, off + 2, none⟩ = some (.int .i64 X.fl) ∧ w.cell? ⟨b, off + 3, none⟩ = some (.int .i64 X.st) ∧ w.cell? ⟨b, off + 4, none⟩ = some (.bool X.rs) ∧ w.cell? ⟨b, off + 5, none⟩ = some (.slice X.A X.n X.c)
def RwO (w : World) (X : Rw) : Prop := Rd .u8 w X.A X.n X.c X.b ∧ Byt X.n X.b ∧ I64 X.fm ∧ I64 X.T ∧ I64 X.fl ∧ I64 X.st
/-- The slice reads as the frames F i, i < n. -/
def RdRw (w : World) (A : Option Addr) (n c : Nat) (F : Nat → Rw) : Prop :=
  n ≤ c ∧ c ≤ maxLen ∧ (A = none → c = 0) ∧ (0 < n → ∃ b off, A = some ⟨b, off, none⟩ ∧ ∀ i, i < n → RwC w b (off + i * 6) (F i)) ∧ ∀ i, i < n → RwO w (F i)
theorem RwO.below {w w' : World} {X : Rw} (h : RwO w X) (hb : Below w.heap.size w w') : RwO w' X := ⟨h.1.below hb, h.2⟩
theorem RwC.below {w w' : World} {b off : Nat} {X : Rw} (h : RwC w b off X) (hb : Below w.heap.size w w') : RwC w' b off X := by
  obtain ⟨h0, h1, h2, h3, h4, h5⟩ := h
  refine ⟨?_, ?_, ?_, ?_, ?_, ?_⟩
  · rw [hb.cell (World.block_lt_of_cell? w _ h0)]; exact h0
  · rw [hb.cell (World.block_lt_of_cell? w _ h1)]; exact h1
  · rw [hb.cell (World.block_lt_of_cell? w _ h2)]; exact h2
  · rw [hb.cell (World.block_lt_of_cell? w _ h3)]; exact h3
  · rw [hb.cell (World.block_lt_of_cell? w _ h4)]; exact h4
  · rw [hb.cell (World.block_lt_of_cell? w _ h5)]; exact h5
theorem RdRw.below {w w' : World} {A : Option Addr} {n c : Nat} {F : Nat → Rw} (h : RdRw w A n c F) (hb : Below w.heap.size w w') : RdRw w' A n c F :=
  ⟨h.1, h.2.1, h.2.2.1, fun hn => by
    obtain ⟨b, off, hA, hc⟩ := h.2.2.2.1 hn
    exact ⟨b, off, hA, fun i hi => (hc i hi).below hb⟩, fun i hi => (h.2.2.2.2 i hi).below hb⟩
theorem RdRw.drew {w : World} {A : Option Addr} {n c : Nat} {F : Nat → Rw} (h : RdRw w A n c F) : RdRw w.drew A n c F := h
theorem RdRw.drawn {w w' : World} {A : Option Addr} {n c : Nat} {F : Nat → Rw} (h : RdRw w A n c F) (hd : Drawn w w') : RdRw w' A n c F := h.below (drawn_below hd _)
theorem RdRw.at_ {w : World} {A : Option Addr} {n c : Nat} {F : Nat → Rw} (h : RdRw w A n c F) {i : Nat} (hi : i < n) : ∃ b off, A = some ⟨b, off, none⟩ ∧ RwC w b (off + i * 6) (F i) := by
  obtain ⟨b, off, hA, hc⟩ := h.2.2.2.1 (by omega)
  exact ⟨b, off, hA, hc i hi⟩
section
variable {H : Type} {enc : TypeId × Value → H} {P : Program} {w : World} {base : Nat} {held : Bool}
theorem rdrw_of {t e u : TypeId} {f0 f1 f2 f3 f4 f5 : Field} {fuel : Nat} {a : Option Addr} {len cap : Nat} {x : DataW H × List MemPlace} (ht : P.underlying t = some (.slice e)) (he : P.underlying e = some (.struct #[f0, f1, f2, f3, f4, f5]))
    (hC : P.cellsOf e = 6) (o0 : f0.offset = 0) (o1 : f1.offset = 1) (o2 : f2.offset = 2) (o3 : f3.offset = 3) (o4 : f4.offset = 4) (o5 : f5.offset = 5)
    (k0 : P.cellsOf f0.type = 1) (k1 : P.cellsOf f1.type = 1) (k2 : P.cellsOf f2.type = 1) (k3 : P.cellsOf f3.type = 1) (k4 : P.cellsOf f4.type = 1) (k5 : P.cellsOf f5.type = 1)
    (u0 : P.underlying f0.type = some (.int .i64)) (u1 : P.underlying f1.type = some (.int .i64)) (u2 : P.underlying f2.type = some (.int .i64)) (u3 : P.underlying f3.type = some (.int .i64)) (u4 : P.underlying f4.type = some .bool) (u5 : P.underlying f5.type = some (.slice u)) (uu : P.underlying u = some (.int .u8)) (uc : P.cellsOf u = 1)
    (h : DataW.trod enc P w base (fun _ => true) held fuel t [.slice a len cap] = some x) : ∃ F, RdRw w a len cap F := by
  rcases open_slice ht h with ⟨hcs, _⟩ | ⟨ad, l, c, m, n, D, Pl, hcs, _, hl, hm, hmm, _, hi⟩
  · simp at hcs
    obtain ⟨rfl, rfl, rfl⟩ := hcs
    exact ⟨fun _ => default, Nat.le_refl _, by simp [maxLen], fun _ => rfl, fun h => absurd h (by omega), fun i hi => by omega⟩
  · simp at hcs
    obtain ⟨rfl, rfl, rfl⟩ := hcs
    have hlm : len ≤ m := by rw [hmm]; split <;> omega
    have key : ∀ i, i < len → ∃ p : Rw, (w.cell? (ad.add (i * 6)) = some (.int .i64 p.fm) ∧ w.cell? ((ad.add (i * 6)).add 1) = some (.int .i64 p.T) ∧ w.cell? ((ad.add (i * 6)).add 2) = some (.int .i64 p.fl) ∧ w.cell? ((ad.add (i * 6)).add 3) = some (.int .i64 p.st) ∧ w.cell? ((ad.add (i * 6)).add 4) = some (.bool p.rs) ∧ w.cell? ((ad.add (i * 6)).add 5) = some (.slice p.A p.n p.c)) ∧ RwO w p := by
      intro i him
      obtain ⟨cs', hc, ht'⟩ := hi i (by omega)
      rw [hC] at hc
      obtain ⟨_, hcl, hat⟩ := World.cells?_some hc
      obtain ⟨ys, n', _, _, _, hyl, hf⟩ := DataW.trod_struct he ht'
      match cs', hcl, hat, ys, hyl, hf with
      | [q0, q1, q2, q3, q4, q5], _, hat, [ya, yb, yc, yd, ye, yf], _, hf =>
        have a0 := hf 0 f0 rfl
        have a1 := hf 1 f1 rfl
        have a2 := hf 2 f2 rfl
        have a3 := hf 3 f3 rfl
        have a4 := hf 4 f4 rfl
        have a5 := hf 5 f5 rfl
        rw [o0, k0] at a0
        rw [o1, k1] at a1
        rw [o2, k2] at a2
        rw [o3, k3] at a3
        rw [o4, k4] at a4
        rw [o5, k5] at a5
        obtain ⟨v0, e0, _, w0⟩ := DataW.trod_int u0 (show DataW.trod enc P w base (fun _ => true) held n' f0.type [q0] = some ya from a0)
        obtain ⟨v1, e1, _, w1⟩ := DataW.trod_int u1 (show DataW.trod enc P w base (fun _ => true) held n' f1.type [q1] = some yb from a1)
        obtain ⟨v2, e2, _, w2⟩ := DataW.trod_int u2 (show DataW.trod enc P w base (fun _ => true) held n' f2.type [q2] = some yc from a2)
        obtain ⟨v3, e3, _, w3⟩ := DataW.trod_int u3 (show DataW.trod enc P w base (fun _ => true) held n' f3.type [q3] = some yd from a3)
        obtain ⟨v4, e4, _⟩ := DataW.trod_bool u4 (show DataW.trod enc P w base (fun _ => true) held n' f4.type [q4] = some ye from a4)
        obtain ⟨A, L, C, zs, e5, w5⟩ := bytes_of u5 uu uc (show DataW.trod enc P w base (fun _ => true) held n' f5.type [q5] = some yf from a5)
        simp at e0 e1 e2 e3 e4
        subst e0 e1 e2 e3 e4 e5
        have h0 := hat 0 (by omega)
        have h1 := hat 1 (by omega)
        have h2 := hat 2 (by omega)
        have h3 := hat 3 (by omega)
        have h4 := hat 4 (by omega)
        have h5 := hat 5 (by omega)
        refine ⟨⟨v0, v1, v2, v3, v4, A, L, C, _⟩, ⟨?_, by simpa using h1, by simpa using h2, by simpa using h3, by simpa using h4, by simpa using h5⟩, rd_of_row w5, byt_of_row w5, ?_, ?_, ?_, ?_⟩
        · have e : (ad.add (i * 6)).add 0 = ad.add (i * 6) := by simp [Addr.add]
          rw [e] at h0
          simpa using h0
        · have := bounds_i64 w0; unfold I64; dsimp only; omega
        · have := bounds_i64 w1; unfold I64; dsimp only; omega
        · have := bounds_i64 w2; unfold I64; dsimp only; omega
        · have := bounds_i64 w3; unfold I64; dsimp only; omega
    obtain ⟨F, hF⟩ := choose_lt key
    refine ⟨F, hl, hm, fun e => (by cases e), fun hn => ?_, fun i hi => (hF i hi).2⟩
    obtain ⟨b, off, spot⟩ := ad
    have h0 := (hF 0 hn).1.1
    have hs : spot = none := by simpa [Addr.add] using World.cell?_spot h0
    subst hs
    refine ⟨b, off, rfl, fun i hi => ?_⟩
    have := (hF i hi).1
    rw [Addr.add_lit, Addr.add_lit, Addr.add_lit, Addr.add_lit, Addr.add_lit, Addr.add_lit] at this
    exact this
end
end Go.Proofs.Ytpnjamomkpkkeaa
