/- Layer 32: a law's parameter of deeds; large; the example. -/
import Derived.Test.YteikpdolickkaaaPe4
import Derived.Deep.Slices
namespace Go.Proofs.Yteikpdolickkaaa
open Go.RowKit Go.Deep Go.ChangeShapes Go.WideShapes

/-- A deed: a number, settings, bools. -/
structure Pd where
  k : Int
  A : Option Addr
  n : Nat
  c : Nat
  f : Nat → Int
  g : Nat → Int
  A2 : Option Addr
  n2 : Nat
  c2 : Nat
  b : Nat → Bool
instance : Inhabited Pd := ⟨⟨0, none, 0, 0, fun _ => 0, fun _ => 0, none, 0, 0, fun _ => false⟩⟩
def Pd.ok (w : World) (p : Pd) : Prop := Rd2 w p.A p.n p.c p.f p.g ∧ RdB w p.A2 p.n2 p.c2 p.b
theorem Pd.ok.below {w w' : World} {p : Pd} (h : p.ok w) (hb : Below w.heap.size w w') : p.ok w' := ⟨h.1.below hb, h.2.below hb⟩
def RdP (w : World) (A : Option Addr) (n c : Nat) (F : Nat → Pd) : Prop :=
  n ≤ c ∧ c ≤ maxLen ∧ (A = none → c = 0) ∧ (0 < n → ∃ b off, A = some ⟨b, off, none⟩ ∧ ∀ i, i < n → w.cell? ⟨b, off + i * 3, none⟩ = some (.int .i64 (F i).k) ∧ w.cell? ⟨b, off + i * 3 + 1, none⟩ = some (.slice (F i).A (F i).n (F i).c) ∧ w.cell? ⟨b, off + i * 3 + 2, none⟩ = some (.slice (F i).A2 (F i).n2 (F i).c2)) ∧
    ∀ i, i < n → (F i).ok w
theorem RdP.at_ {w : World} {A : Option Addr} {n c : Nat} {F : Nat → Pd} (r : RdP w A n c F) {i : Nat} (hi : i < n) :
    ∃ b off, A = some ⟨b, off, none⟩ ∧ (w.cell? ⟨b, off + i * 3, none⟩ = some (.int .i64 (F i).k) ∧ w.cell? ⟨b, off + i * 3 + 1, none⟩ = some (.slice (F i).A (F i).n (F i).c) ∧ w.cell? ⟨b, off + i * 3 + 2, none⟩ = some (.slice (F i).A2 (F i).n2 (F i).c2)) ∧ (F i).ok w := by
  obtain ⟨b, off, hA, hc⟩ := r.2.2.2.1 (by omega)
  exact ⟨b, off, hA, hc i hi, r.2.2.2.2 i hi⟩
theorem RdP.below {w w' : World} {A : Option Addr} {n c : Nat} {F : Nat → Pd} (r : RdP w A n c F) (hb : Below w.heap.size w w') : RdP w' A n c F :=
  ⟨r.1, r.2.1, r.2.2.1, fun hn => by
    obtain ⟨b, off, hA, hc⟩ := r.2.2.2.1 hn
    exact ⟨b, off, hA, fun i hi => by
      obtain ⟨h1, h2, h3⟩ := hc i hi
      rw [hb.cell (World.block_lt_of_cell? w _ h1), hb.cell (World.block_lt_of_cell? w _ h2), hb.cell (World.block_lt_of_cell? w _ h3)]
      exact ⟨h1, h2, h3⟩⟩, fun i hi => (r.2.2.2.2 i hi).below hb⟩
section
variable {H : Type} {enc : TypeId × Value → H} {P : Program} {w : World} {base : Nat} {held : Bool}
theorem rdb_of {t e : TypeId} {fuel : Nat} {a : Option Addr} {len cap : Nat} {x : DataW H × List MemPlace} (ht : P.underlying t = some (.slice e)) (hC : P.cellsOf e = 1) (u0 : P.underlying e = some .bool)
    (h : DataW.trod enc P w base (fun _ => true) held fuel t [.slice a len cap] = some x) : ∃ f, RdB w a len cap f := by
  rcases open_slice ht h with ⟨hcs, _⟩ | ⟨ad, l, c, m, n, D, Pl, hcs, _, hl, hm, hmm, _, hi⟩
  · simp at hcs
    obtain ⟨rfl, rfl, rfl⟩ := hcs
    exact ⟨fun _ => false, Nat.le_refl _, by simp [maxLen], fun _ => rfl, fun h => absurd h (by omega)⟩
  · simp at hcs
    obtain ⟨rfl, rfl, rfl⟩ := hcs
    have hlm : len ≤ m := by rw [hmm]; split <;> omega
    have key : ∀ i, i < len → ∃ v : Bool, w.cell? (ad.add i) = some (.bool v) := by
      intro i him
      obtain ⟨cs', hc, ht'⟩ := hi i (by omega)
      rw [hC] at hc
      obtain ⟨_, hcl, hat⟩ := World.cells?_some hc
      match cs', hcl, hat, ht' with
      | [q0], _, hat, ht' =>
        obtain ⟨v0, e0, _⟩ := DataW.trod_bool u0 ht'
        simp at e0
        subst e0
        have h0 := hat 0 (by omega)
        have e : (ad.add (i * 1)).add 0 = ad.add i := by simp [Addr.add]
        rw [e] at h0
        exact ⟨v0, by simpa using h0⟩
    obtain ⟨F, hF⟩ := choose_lt key
    refine ⟨F, hl, hm, fun e => (by cases e), fun hn => ?_⟩
    obtain ⟨b, off, spot⟩ := ad
    have h0 := hF 0 hn
    have hs : spot = none := by simpa [Addr.add] using World.cell?_spot h0
    subst hs
    refine ⟨b, off, rfl, fun i hi => ?_⟩
    have := hF i hi
    rw [Addr.add_lit] at this
    exact this
theorem rdp_of {t e e1 e2 : TypeId} {f0 f1 f2 g0 g1 : Field} {fuel : Nat} {a : Option Addr} {len cap : Nat} {x : DataW H × List MemPlace} (ht : P.underlying t = some (.slice e)) (he : P.underlying e = some (.struct #[f0, f1, f2]))
    (hC : P.cellsOf e = 3) (o0 : f0.offset = 0) (o1 : f1.offset = 1) (o2 : f2.offset = 2) (k0 : P.cellsOf f0.type = 1) (k1 : P.cellsOf f1.type = 1) (k2 : P.cellsOf f2.type = 1) (u0 : P.underlying f0.type = some (.int .i64)) (u1 : P.underlying f1.type = some (.slice e1)) (u2 : P.underlying f2.type = some (.slice e2))
    (he1 : P.underlying e1 = some (.struct #[g0, g1])) (hC1 : P.cellsOf e1 = 2) (p0 : g0.offset = 0) (p1 : g1.offset = 1) (m0 : P.cellsOf g0.type = 1) (m1 : P.cellsOf g1.type = 1) (v0 : P.underlying g0.type = some (.int .i64)) (v1 : P.underlying g1.type = some (.int .i64)) (hC2 : P.cellsOf e2 = 1) (ub : P.underlying e2 = some .bool)
    (h : DataW.trod enc P w base (fun _ => true) held fuel t [.slice a len cap] = some x) : ∃ F, RdP w a len cap F := by
  rcases open_slice ht h with ⟨hcs, _⟩ | ⟨ad, l, c, m, n, D, Pl, hcs, _, hl, hm, hmm, _, hi⟩
  · simp at hcs
    obtain ⟨rfl, rfl, rfl⟩ := hcs
    exact ⟨fun _ => default, Nat.le_refl _, by simp [maxLen], fun _ => rfl, fun h => absurd h (by omega), fun i hi => by omega⟩
  · simp at hcs
    obtain ⟨rfl, rfl, rfl⟩ := hcs
    have hlm : len ≤ m := by rw [hmm]; split <;> omega
    have key : ∀ i, i < len → ∃ p : Pd, (w.cell? (ad.add (i * 3)) = some (.int .i64 p.k) ∧ w.cell? ((ad.add (i * 3)).add 1) = some (.slice p.A p.n p.c) ∧ w.cell? ((ad.add (i * 3)).add 2) = some (.slice p.A2 p.n2 p.c2)) ∧ p.ok w := by
      intro i him
      obtain ⟨cs', hc, ht'⟩ := hi i (by omega)
      rw [hC] at hc
      obtain ⟨_, hcl, hat⟩ := World.cells?_some hc
      obtain ⟨ys, n', _, _, _, hyl, hf⟩ := DataW.trod_struct he ht'
      match cs', hcl, hat, ys, hyl, hf with
      | [q0, q1, q2], _, hat, [ya, yb, yc], _, hf =>
        have a0 := hf 0 f0 rfl
        have a1 := hf 1 f1 rfl
        have a2 := hf 2 f2 rfl
        rw [o0, k0] at a0
        rw [o1, k1] at a1
        rw [o2, k2] at a2
        obtain ⟨x0, e0, _, w0⟩ := DataW.trod_int u0 (show DataW.trod enc P w base (fun _ => true) held n' f0.type [q0] = some ya from a0)
        have b1 : DataW.trod enc P w base (fun _ => true) held n' f1.type [q1] = some yb := a1
        have b2 : DataW.trod enc P w base (fun _ => true) held n' f2.type [q2] = some yc := a2
        obtain ⟨A, L, C, e1⟩ := slice_of u1 b1
        subst e1
        obtain ⟨A2, L2, C2, e2⟩ := slice_of u2 b2
        subst e2
        obtain ⟨ff, gg, hr, _, _⟩ := rd2_of u1 he1 hC1 p0 p1 m0 m1 v0 v1 b1
        obtain ⟨bb, hb⟩ := rdb_of u2 hC2 ub b2
        simp at e0
        subst e0
        have h0 := hat 0 (by omega)
        have h1 := hat 1 (by omega)
        have h2 := hat 2 (by omega)
        refine ⟨⟨x0, A, L, C, ff, gg, A2, L2, C2, bb⟩, ⟨?_, by simpa using h1, by simpa using h2⟩, hr, hb⟩
        have e : (ad.add (i * 3)).add 0 = ad.add (i * 3) := by simp [Addr.add]
        rw [e] at h0
        simpa using h0
    obtain ⟨F, hF⟩ := choose_lt key
    refine ⟨F, hl, hm, fun e => (by cases e), fun hn => ?_, fun i hi => (hF i hi).2⟩
    obtain ⟨b, off, spot⟩ := ad
    have h0 := (hF 0 hn).1.1
    have hs : spot = none := by simpa [Addr.add] using World.cell?_spot h0
    subst hs
    refine ⟨b, off, rfl, fun i hi => ?_⟩
    have := (hF i hi).1
    rw [Addr.add_lit, Addr.add_lit, Addr.add_lit] at this
    exact this
end
theorem large32 {w : World} {A : Option Addr} {n c : Nat} {F : Nat → Pd} (ha : RdP w A n c F) :
    Calls Try.prog 45 #[.slice A n c] w fun e w' => (e = .returned (.bool true) ∨ (e = .returned (.bool false) ∧ n ≤ 30 ∧ ∀ i, i < n → (F i).n ≤ 20 ∧ (F i).n2 ≤ 60)) ∧ w = w' := by
  have hn63 : (n : Int) ≤ 9223372036854775807 := by have h1 := ha.1; have h2 := ha.2.1; simp only [maxLen] at h2; omega
  have Ha := hide ha
  clear ha
  by_cases h30 : 30 < n
  · have hd : decide ((30 : Int) < (n : Int)) = true := decide_eq_true (by omega)
    go_enter Try.func45, Try.ntmps45
    go_wp2
    go_ret
    exact ⟨.inl rfl, rfl⟩
  have hd : decide ((30 : Int) < (n : Int)) = false := decide_eq_false (by omega)
  go_enter Try.func45, Try.ntmps45
  go_wp2
  go_loopw [3] (fun i wr => ∃ k : Nat, k ≤ n ∧ i = .int .i64 k ∧ (∀ j, j < k → (F j).n ≤ 20 ∧ (F j).n2 ≤ 60) ∧ wr = w) (fun i _ => n - (intOf i).toNat)
  case atStart => exact ⟨0, Nat.zero_le _, rfl, fun j hj => absurd hj (by omega), rfl⟩
  case round =>
    obtain ⟨k, hk, rfl, hsm, rfl⟩ := hrel
    have Hsm := hide hsm
    clear hsm
    by_cases hlt : k < n
    · have hlt' : (k : Int) < (n : Int) := by omega
      obtain ⟨b, off, rfl, ⟨hc0, hc1, hc2⟩, _⟩ := Ha.out.at_ hlt
      by_cases hl : 20 < (F k).n
      · have hd2 : decide ((20 : Int) < ((F k).n : Int)) = true := decide_eq_true (by omega)
        clear hl
        go_wp2
        go_ret
        exact ⟨.inl rfl, rfl⟩
      · have hd2 : decide ((20 : Int) < ((F k).n : Int)) = false := decide_eq_false (by omega)
        by_cases hl2 : 60 < (F k).n2
        · have hd3 : decide ((60 : Int) < ((F k).n2 : Int)) = true := decide_eq_true (by omega)
          clear hl hl2
          go_wp2
          go_ret
          exact ⟨.inl rfl, rfl⟩
        · have hd3 : decide ((60 : Int) < ((F k).n2 : Int)) = false := decide_eq_false (by omega)
          have Hk : Hid ((F k).n ≤ 20 ∧ (F k).n2 ≤ 60) := by show _ ∧ _; omega
          clear hl hl2
          go_wp2
          go_roundw
          case rel => exact ⟨k + 1, by omega, by go_num, (fun j hj => (by
            by_cases hjk : j = k
            · subst hjk; exact Hk.out
            · exact Hsm.out j (by omega))), trivial⟩
          case measure => simp [intOf]; omega
    · obtain rfl : n = k := by omega
      go_wp2
      go_ret
      exact ⟨.inr ⟨rfl, by omega, Hsm.out⟩, rfl⟩
end Go.Proofs.Yteikpdolickkaaa
