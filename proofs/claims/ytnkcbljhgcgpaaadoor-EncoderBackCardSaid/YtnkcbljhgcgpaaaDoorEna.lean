/- Layer 24: a law's parameters: blocks that are to be written. -/
import Derived.Test.YtnkcbljhgcgpaaaDoorEn6
import Derived.Test.YtnkcbljhgcgpaaaDoorMG
import Derived.Deep.Slices
import Derived.ChangeSame
namespace Go.Proofs.YtnkcbljhgcgpaaaDoor
set_option linter.unusedVariables false
set_option linter.unusedSimpArgs false
open Go.RowKit Go.ChangeShapes Go.WideShapes Go.ChangeAt Go.Deep

/-- A block: sizes, fields, ways. -/
structure Bk4 where
  A1 : Option Addr
  n1 : Nat
  c1 : Nat
  z : Nat → Int
  A2 : Option Addr
  n2 : Nat
  c2 : Nat
  G : Nat → Fd
  A3 : Option Addr
  n3 : Nat
  c3 : Nat
  O : Nat → Op4
instance : Inhabited Bk4 := ⟨⟨none, 0, 0, fun _ => 0, none, 0, 0, fun _ => default, none, 0, 0, fun _ => op0⟩⟩
def Bk4.agg (X : Bk4) : Value := .agg #[.slice X.A1 X.n1 X.c1, .slice X.A2 X.n2 X.c2, .slice X.A3 X.n3 X.c3]
structure BkO (w : World) (X : Bk4) : Prop where
  r1 : RdV 1 w X.A1 X.n1 X.c1 (izV X.z)
  r2 : RdFd w X.A2 X.n2 X.c2 X.G
  r3 : RdV 4 w X.A3 X.n3 X.c3 (opV X.O)
theorem BkO.below {w w' : World} {X : Bk4} (h : BkO w X) (hb : Below w.heap.size w w') : BkO w' X := ⟨h.r1.below36O hb, h.r2.below hb, h.r3.below36O hb⟩
def BkC (w : World) (b off : Nat) (X : Bk4) : Prop :=
  w.cell? ⟨b, off, none⟩ = some (.slice X.A1 X.n1 X.c1) ∧ w.cell? ⟨b, off + 1, none⟩ = some (.slice X.A2 X.n2 X.c2) ∧ w.cell? ⟨b, off + 2, none⟩ = some (.slice X.A3 X.n3 X.c3)
theorem BkC.below {w w' : World} {b off : Nat} {X : Bk4} (h : BkC w b off X) (hb : Below w.heap.size w w') : BkC w' b off X := by
  obtain ⟨h0, h1, h2⟩ := h
  exact ⟨(by rw [hb.cell (World.block_lt_of_cell? w _ h0)]; exact h0), (by rw [hb.cell (World.block_lt_of_cell? w _ h1)]; exact h1), (by rw [hb.cell (World.block_lt_of_cell? w _ h2)]; exact h2)⟩
def RdBk (w : World) (A : Option Addr) (n c : Nat) (F : Nat → Bk4) : Prop :=
  n ≤ c ∧ c ≤ maxLen ∧ (A = none → c = 0) ∧ (0 < n → ∃ b off, A = some ⟨b, off, none⟩ ∧ ∀ i, i < n → BkC w b (off + i * 3) (F i)) ∧ ∀ i, i < n → BkO w (F i)
theorem RdBk.below {w w' : World} {A : Option Addr} {n c : Nat} {F : Nat → Bk4} (h : RdBk w A n c F) (hb : Below w.heap.size w w') : RdBk w' A n c F :=
  ⟨h.1, h.2.1, h.2.2.1, fun hn => by
    obtain ⟨b, off, hA, hc⟩ := h.2.2.2.1 hn
    exact ⟨b, off, hA, fun i hi => (hc i hi).below hb⟩, fun i hi => (h.2.2.2.2 i hi).below hb⟩
theorem RdBk.at_ {w : World} {A : Option Addr} {n c : Nat} {F : Nat → Bk4} (h : RdBk w A n c F) {i : Nat} (hi : i < n) : ∃ b off, A = some ⟨b, off, none⟩ ∧ BkC w b (off + i * 3) (F i) := by
  obtain ⟨b, off, hA, hc⟩ := h.2.2.2.1 (by omega)
  exact ⟨b, off, hA, hc i hi⟩
section
variable {H : Type} {enc : TypeId × Value → H} {P : Program} {w : World} {base : Nat} {held : Bool}
theorem rdiz_of {t e : TypeId} {fuel : Nat} {v : Value} {x : DataW H × List MemPlace} (ht : P.underlying t = some (.slice e)) (he : P.underlying e = some (.int .i64)) (hc : P.cellsOf e = 1)
    (h : DataW.trod enc P w base (fun _ => true) held fuel t [v] = some x) : ∃ A n c z, v = .slice A n c ∧ RdV 1 w A n c (izV z) := by
  obtain ⟨A, n, c, zs, e0, h1⟩ := bytes_of ht he hc h
  have hr := rd_of_row h1
  refine ⟨A, n, c, fun i => zs.getD i 0, e0, ⟨hr.1, hr.2.1, hr.2.2.1, fun hn => ?_⟩⟩
  obtain ⟨b, off, hA, hcl⟩ := hr.2.2.2 hn
  exact ⟨b, off, hA, fun i hi => hcl i (by omega)⟩
theorem rdop_of {t e : TypeId} {f0 f1 f2 f3 : Field} {fuel : Nat} {a : Option Addr} {len cap : Nat} {x : DataW H × List MemPlace} (ht : P.underlying t = some (.slice e)) (he : P.underlying e = some (.struct #[f0, f1, f2, f3]))
    (hC : P.cellsOf e = 4) (o0 : f0.offset = 0) (o1 : f1.offset = 1) (o2 : f2.offset = 2) (o3 : f3.offset = 3) (k0 : P.cellsOf f0.type = 1) (k1 : P.cellsOf f1.type = 1) (k2 : P.cellsOf f2.type = 1) (k3 : P.cellsOf f3.type = 1) (u0 : P.underlying f0.type = some (.int .i64)) (u1 : P.underlying f1.type = some .bool) (u2 : P.underlying f2.type = some .bool) (u3 : P.underlying f3.type = some .bool)
    (h : DataW.trod enc P w base (fun _ => true) held fuel t [.slice a len cap] = some x) : ∃ O, RdV 4 w a len cap (opV O) := by
  rcases open_slice ht h with ⟨hcs, _⟩ | ⟨ad, l, c, m, n, D, Pl, hcs, _, hl, hm, hmm, _, hi⟩
  · simp at hcs
    obtain ⟨rfl, rfl, rfl⟩ := hcs
    exact ⟨fun _ => op0, Nat.le_refl _, by simp [maxLen], fun _ => rfl, fun h => absurd h (by omega)⟩
  · simp at hcs
    obtain ⟨rfl, rfl, rfl⟩ := hcs
    have hlm : len ≤ m := by rw [hmm]; split <;> omega
    have key : ∀ i, i < len → ∃ p : Op4, w.cell? (ad.add (i * 4)) = some (.int .i64 p.way) ∧ w.cell? ((ad.add (i * 4)).add 1) = some (.bool p.nn) ∧ w.cell? ((ad.add (i * 4)).add 2) = some (.bool p.sn) ∧ w.cell? ((ad.add (i * 4)).add 3) = some (.bool p.sv) := by
      intro i him
      obtain ⟨cs', hc, ht'⟩ := hi i (by omega)
      rw [hC] at hc
      obtain ⟨_, hcl, hat⟩ := World.cells?_some hc
      obtain ⟨ys, n', _, _, _, hyl, hf⟩ := DataW.trod_struct he ht'
      match cs', hcl, hat, ys, hyl, hf with
      | [q0, q1, q2, q3], _, hat, [ya, yb, yc, yd], _, hf =>
        have a0 := hf 0 f0 rfl
        have a1 := hf 1 f1 rfl
        have a2 := hf 2 f2 rfl
        have a3 := hf 3 f3 rfl
        rw [o0, k0] at a0
        rw [o1, k1] at a1
        rw [o2, k2] at a2
        rw [o3, k3] at a3
        obtain ⟨v0, e0, _, _⟩ := DataW.trod_int u0 (show DataW.trod enc P w base (fun _ => true) held n' f0.type [q0] = some ya from a0)
        obtain ⟨v1, e1, _⟩ := DataW.trod_bool u1 (show DataW.trod enc P w base (fun _ => true) held n' f1.type [q1] = some yb from a1)
        obtain ⟨v2, e2, _⟩ := DataW.trod_bool u2 (show DataW.trod enc P w base (fun _ => true) held n' f2.type [q2] = some yc from a2)
        obtain ⟨v3, e3, _⟩ := DataW.trod_bool u3 (show DataW.trod enc P w base (fun _ => true) held n' f3.type [q3] = some yd from a3)
        simp at e0 e1 e2 e3
        subst e0
        subst e1
        subst e2
        subst e3
        have h0 := hat 0 (by omega)
        have h1 := hat 1 (by omega)
        have h2 := hat 2 (by omega)
        have h3 := hat 3 (by omega)
        refine ⟨⟨v0, v1, v2, v3⟩, ?_, by simpa using h1, by simpa using h2, by simpa using h3⟩
        have e : (ad.add (i * 4)).add 0 = ad.add (i * 4) := by simp [Addr.add]
        rw [e] at h0
        simpa using h0
    obtain ⟨O, hO⟩ := choose_lt key
    refine ⟨O, hl, hm, fun e => (by cases e), fun hn => ?_⟩
    obtain ⟨b, off, spot⟩ := ad
    have h0 := (hO 0 hn).1
    have hs : spot = none := by simpa [Addr.add] using World.cell?_spot h0
    subst hs
    refine ⟨b, off, rfl, fun i hi => ?_⟩
    obtain ⟨c0, c1, c2, c3⟩ := hO (i / 4) (by omega)
    simp only [Addr.add_lit] at c0 c1 c2 c3
    have h4 : i % 4 = 0 ∨ i % 4 = 1 ∨ i % 4 = 2 ∨ i % 4 = 3 := by omega
    rcases h4 with h4 | h4 | h4 | h4
    · have e : i = i / 4 * 4 := by omega
      rw [← opV_0 O (i / 4), ← e] at c0
      exact c0
    · have e : i = i / 4 * 4 + 1 := by omega
      rw [← opV_1 O (i / 4), Nat.add_assoc, ← e] at c1
      exact c1
    · have e : i = i / 4 * 4 + 2 := by omega
      rw [← opV_2 O (i / 4), Nat.add_assoc, ← e] at c2
      exact c2
    · have e : i = i / 4 * 4 + 3 := by omega
      rw [← opV_3 O (i / 4), Nat.add_assoc, ← e] at c3
      exact c3
theorem bkv_of {e0 e1 e2 t0 t1 t2 : TypeId} {g0 g1 g2 h0 h1 h2 h3 : Field} {n : Nat} {q0 q1 q2 : Value} {y0 y1 y2 : DataW H × List MemPlace}
    (u0 : P.underlying t0 = some (.slice e0)) (ue0 : P.underlying e0 = some (.int .i64)) (c0 : P.cellsOf e0 = 1)
    (u1 : P.underlying t1 = some (.slice e1)) (he1 : P.underlying e1 = some (.struct #[g0, g1, g2])) (hC1 : P.cellsOf e1 = 3) (p0 : g0.offset = 0) (p1 : g1.offset = 1) (p2 : g2.offset = 2) (m0 : P.cellsOf g0.type = 1) (m1 : P.cellsOf g1.type = 1) (m2 : P.cellsOf g2.type = 1) (v0 : P.underlying g0.type = some .string) (v1 : P.underlying g1.type = some .string) (v2 : P.underlying g2.type = some .bool)
    (u2 : P.underlying t2 = some (.slice e2)) (he2 : P.underlying e2 = some (.struct #[h0, h1, h2, h3])) (hC2 : P.cellsOf e2 = 4) (s0 : h0.offset = 0) (s1 : h1.offset = 1) (s2 : h2.offset = 2) (s3 : h3.offset = 3) (l0 : P.cellsOf h0.type = 1) (l1 : P.cellsOf h1.type = 1) (l2 : P.cellsOf h2.type = 1) (l3 : P.cellsOf h3.type = 1) (w0 : P.underlying h0.type = some (.int .i64)) (w1 : P.underlying h1.type = some .bool) (w2 : P.underlying h2.type = some .bool) (w3 : P.underlying h3.type = some .bool)
    (a0 : DataW.trod enc P w base (fun _ => true) held n t0 [q0] = some y0) (a1 : DataW.trod enc P w base (fun _ => true) held n t1 [q1] = some y1) (a2 : DataW.trod enc P w base (fun _ => true) held n t2 [q2] = some y2) :
    ∃ X : Bk4, q0 = .slice X.A1 X.n1 X.c1 ∧ q1 = .slice X.A2 X.n2 X.c2 ∧ q2 = .slice X.A3 X.n3 X.c3 ∧ BkO w X := by
  obtain ⟨A1, n1, c1, z, e1_, r1⟩ := rdiz_of u0 ue0 c0 a0
  obtain ⟨A2, n2, c2, e2_⟩ := slice_of u1 a1
  obtain ⟨A3, n3, c3, e3_⟩ := slice_of u2 a2
  subst e2_ e3_
  obtain ⟨G, r2⟩ := rdfd_of u1 he1 hC1 p0 p1 p2 m0 m1 m2 v0 v1 v2 a1
  obtain ⟨O, r3⟩ := rdop_of u2 he2 hC2 s0 s1 s2 s3 l0 l1 l2 l3 w0 w1 w2 w3 a2
  exact ⟨⟨A1, n1, c1, z, A2, n2, c2, G, A3, n3, c3, O⟩, e1_, rfl, rfl, r1, r2, r3⟩
theorem rdbk_of {t e e0 e1 e2 : TypeId} {f0 f1 f2 g0 g1 g2 h0 h1 h2 h3 : Field} {fuel : Nat} {a : Option Addr} {len cap : Nat} {x : DataW H × List MemPlace} (ht : P.underlying t = some (.slice e)) (he : P.underlying e = some (.struct #[f0, f1, f2]))
    (hC : P.cellsOf e = 3) (o0 : f0.offset = 0) (o1 : f1.offset = 1) (o2 : f2.offset = 2) (k0 : P.cellsOf f0.type = 1) (k1 : P.cellsOf f1.type = 1) (k2 : P.cellsOf f2.type = 1)
    (u0 : P.underlying f0.type = some (.slice e0)) (ue0 : P.underlying e0 = some (.int .i64)) (c0 : P.cellsOf e0 = 1)
    (u1 : P.underlying f1.type = some (.slice e1)) (he1 : P.underlying e1 = some (.struct #[g0, g1, g2])) (hC1 : P.cellsOf e1 = 3) (p0 : g0.offset = 0) (p1 : g1.offset = 1) (p2 : g2.offset = 2) (m0 : P.cellsOf g0.type = 1) (m1 : P.cellsOf g1.type = 1) (m2 : P.cellsOf g2.type = 1) (v0 : P.underlying g0.type = some .string) (v1 : P.underlying g1.type = some .string) (v2 : P.underlying g2.type = some .bool)
    (u2 : P.underlying f2.type = some (.slice e2)) (he2 : P.underlying e2 = some (.struct #[h0, h1, h2, h3])) (hC2 : P.cellsOf e2 = 4) (s0 : h0.offset = 0) (s1 : h1.offset = 1) (s2 : h2.offset = 2) (s3 : h3.offset = 3) (l0 : P.cellsOf h0.type = 1) (l1 : P.cellsOf h1.type = 1) (l2 : P.cellsOf h2.type = 1) (l3 : P.cellsOf h3.type = 1) (w0 : P.underlying h0.type = some (.int .i64)) (w1 : P.underlying h1.type = some .bool) (w2 : P.underlying h2.type = some .bool) (w3 : P.underlying h3.type = some .bool)
    (h : DataW.trod enc P w base (fun _ => true) held fuel t [.slice a len cap] = some x) : ∃ F, RdBk w a len cap F := by
  rcases open_slice ht h with ⟨hcs, _⟩ | ⟨ad, l, c, m, n, D, Pl, hcs, _, hl, hm, hmm, _, hi⟩
  · simp at hcs
    obtain ⟨rfl, rfl, rfl⟩ := hcs
    exact ⟨fun _ => default, Nat.le_refl _, by simp [maxLen], fun _ => rfl, fun h => absurd h (by omega), fun i hi => by omega⟩
  · simp at hcs
    obtain ⟨rfl, rfl, rfl⟩ := hcs
    have hlm : len ≤ m := by rw [hmm]; split <;> omega
    have key : ∀ i, i < len → ∃ p : Bk4, (w.cell? (ad.add (i * 3)) = some (.slice p.A1 p.n1 p.c1) ∧ w.cell? ((ad.add (i * 3)).add 1) = some (.slice p.A2 p.n2 p.c2) ∧ w.cell? ((ad.add (i * 3)).add 2) = some (.slice p.A3 p.n3 p.c3)) ∧ BkO w p := by
      intro i him
      obtain ⟨cs', hc, ht'⟩ := hi i (by omega)
      rw [hC] at hc
      obtain ⟨_, hcl, hat⟩ := World.cells?_some hc
      obtain ⟨ys, n', _, _, _, hyl, hf⟩ := DataW.trod_struct he ht'
      match cs', hcl, hat, ys, hyl, hf with
      | [q0, q1, q2], _, hat, [ya, yb, yc], _, hf =>
        have a0 := hf 0 f0 rfl
        have a1 := hf 1 f1 rfl
        have a2 := hf 2 f2 rfl
        rw [o0, k0] at a0
        rw [o1, k1] at a1
        rw [o2, k2] at a2
        obtain ⟨X, rfl, rfl, rfl, hX⟩ := bkv_of u0 ue0 c0 u1 he1 hC1 p0 p1 p2 m0 m1 m2 v0 v1 v2 u2 he2 hC2 s0 s1 s2 s3 l0 l1 l2 l3 w0 w1 w2 w3 (show DataW.trod enc P w base (fun _ => true) held n' f0.type [q0] = some ya from a0) (show DataW.trod enc P w base (fun _ => true) held n' f1.type [q1] = some yb from a1) (show DataW.trod enc P w base (fun _ => true) held n' f2.type [q2] = some yc from a2)
        have h0 := hat 0 (by omega)
        have h1 := hat 1 (by omega)
        have h2 := hat 2 (by omega)
        refine ⟨X, ⟨?_, by simpa using h1, by simpa using h2⟩, hX⟩
        have e : (ad.add (i * 3)).add 0 = ad.add (i * 3) := by simp [Addr.add]
        rw [e] at h0
        simpa using h0
    obtain ⟨F, hF⟩ := choose_lt key
    refine ⟨F, hl, hm, fun e => (by cases e), fun hn => ?_, fun i hi => (hF i hi).2⟩
    obtain ⟨b, off, spot⟩ := ad
    have h0 := (hF 0 hn).1.1
    have hs : spot = none := by simpa [Addr.add] using World.cell?_spot h0
    subst hs
    refine ⟨b, off, rfl, fun i hi => ?_⟩
    have := (hF i hi).1
    simp only [Addr.add_lit] at this
    exact this
end
theorem bk_cell : Tryd.prog.cellsOf 57 = 3 := by kernel_rfl
theorem some_of4 {α : Type} {xs : List α} {n i : Nat} (h : xs.length = n) (hi : i < n) : ∃ y, xs[i]? = some y := ⟨_, List.getElem?_eq_getElem (by omega)⟩
theorem list3_4 {α : Type} {l : List α} (h : l.length = 3) : ∃ c0 c1 c2, l = [c0, c1, c2] := by
  match l, h with
  | [a, b, c], _ => exact ⟨a, b, c, rfl⟩
set_option maxRecDepth 100000 in
/-- One block among a law's parameters. -/
theorem bk1_of {H : Type} {enc : TypeId × Value → H} {w : World} {base : Nat} {r : Reach} {b0 : Nat} {v : Value} {d : DataW H} {p : List MemPlace}
    (hv : Value.okWide Tryd.prog w r b0 57 v) (h : DataW.Trod enc Tryd.prog w base (fun _ => true) true 57 v d p) :
    ∃ (X : Bk4) (_ : BkO w X), v = X.agg := by
  obtain ⟨cs, rfl, hsz⟩ := okWide_struct Tryd.underlying57 hv
  obtain ⟨l⟩ := cs
  have hl : l.length = 3 := hsz.trans bk_cell
  obtain ⟨c0, c1, c2, rfl⟩ := list3_4 hl
  obtain ⟨fuel, hf⟩ := h
  obtain ⟨xs, n, _, hx, _, hlen, hg⟩ := DataW.trod_struct Tryd.underlying57 hf
  have hlen3 : xs.length = 3 := hlen
  obtain ⟨y0, hy0⟩ := some_of4 hlen3 (show 0 < 3 by omega)
  obtain ⟨y1, hy1⟩ := some_of4 hlen3 (show 1 < 3 by omega)
  obtain ⟨y2, hy2⟩ := some_of4 hlen3 (show 2 < 3 by omega)
  have e : (Value.agg ⟨[c0, c1, c2]⟩).cells.toList = [c0, c1, c2] := by simp [Value.cells]
  have g0 := (hg 0 _ rfl).trans hy0
  have g1 := (hg 1 _ rfl).trans hy1
  have g2 := (hg 2 _ rfl).trans hy2
  rw [e] at g0 g1 g2
  have i0 : Tryd.prog.cellsOf 30 = 1 := by kernel_rfl
  have i1 : Tryd.prog.cellsOf 25 = 1 := by kernel_rfl
  have i2 : Tryd.prog.cellsOf 55 = 1 := by kernel_rfl
  replace g0 : DataW.trod enc Tryd.prog w base (fun _ => true) true n 30 (([c0, c1, c2].drop 0).take (Tryd.prog.cellsOf 30)) = some y0 := g0
  rw [i0] at g0
  replace g1 : DataW.trod enc Tryd.prog w base (fun _ => true) true n 25 (([c0, c1, c2].drop 1).take (Tryd.prog.cellsOf 25)) = some y1 := g1
  rw [i1] at g1
  replace g2 : DataW.trod enc Tryd.prog w base (fun _ => true) true n 55 (([c0, c1, c2].drop 2).take (Tryd.prog.cellsOf 55)) = some y2 := g2
  rw [i2] at g2
  simp only [List.drop_zero, List.drop_succ_cons, List.take_succ_cons, List.take_zero] at g0 g1 g2
  obtain ⟨X, rfl, rfl, rfl, hX⟩ := bkv_of Tryd.underlying30 Tryd.underlying3 (by kernel_rfl) Tryd.underlying25 Tryd.underlying51 (by kernel_rfl) rfl rfl rfl (by kernel_rfl) (by kernel_rfl) (by kernel_rfl) Tryd.underlying9 Tryd.underlying9 Tryd.underlying4 Tryd.underlying55 Tryd.underlying101 (by kernel_rfl) rfl rfl rfl rfl (by kernel_rfl) (by kernel_rfl) (by kernel_rfl) (by kernel_rfl) Tryd.underlying3 Tryd.underlying4 Tryd.underlying4 Tryd.underlying4 g0 g1 g2
  exact ⟨X, hX, rfl⟩
end Go.Proofs.YtnkcbljhgcgpaaaDoor
