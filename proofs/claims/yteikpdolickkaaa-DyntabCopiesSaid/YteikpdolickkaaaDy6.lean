/- Layer 21: All; a law's parameter of deeds; large; the example. -/
import Derived.Test.YteikpdolickkaaaDy5
import Derived.Deep.Slices
namespace Go.Proofs.Yteikpdolickkaaa
open Go.RowKit Go.Deep Go.ChangeShapes Go.WideShapes

theorem sumW_rev (F : Nat → Fd) (n : Nat) : sumW (fun i => F (n - 1 - i)) n = sumW F n := by
  induction n generalizing F with
  | zero => rfl
  | succ n ih =>
    rw [sumW_first]
    show wt (F (n + 1 - 1 - 0)) + sumW (shF 1 fun i => F (n + 1 - 1 - i)) n = sumW F n + wt (F n)
    rw [sumW_congr (F := shF 1 fun i => F (n + 1 - 1 - i)) (G := fun i => F (n - 1 - i)) fun i hi => by show F (n + 1 - 1 - (1 + i)) = F (n - 1 - i); congr 1; omega, ih]
    rw [show n + 1 - 1 - 0 = n by omega]
    omega
set_option maxRecDepth 20000 in
theorem all21 {B : Nat} {w : World} {p : Nat} {g : Option Nat} {n max : Nat} {F : Nat → Fd} (h : TOk B w p g n max F) (hn : n ≤ 1000) :
    Calls Try.prog 32 #[.pointer (some ⟨p, 0, none⟩)] w fun e w' => ∃ v, e = .returned v ∧ OwnV 3 52 w.heap.size w' v n (fdV fun i => F (n - 1 - i)) ∧ Below w.heap.size w w' := by
  obtain ⟨A, c, h1, h2, h3⟩ := h.row
  obtain ⟨c0, c1, c2⟩ := rowT h1
  have Hr := hide h3.rdS
  clear h1 h2 h3 h
  go_enter Try.func32, Try.ntmps32
  go_wp2_with fail
  refine (cloneF21 A n c F w Hr.out hn).mono ?_
  rintro e w1 ⟨v, rfl, ho, hb1⟩
  obtain ⟨A1, c1', rfl, _, _⟩ := ho.rd
  have HO := hide ho
  have Hb := hide hb1
  clear ho hb1
  go_wp2_with fail
  refine (reverse21 HO.out hn).mono ?_
  rintro e w2 ⟨rfl, ho2, hb2⟩
  go_wp2_with fail
  go_ret
  exact ⟨_, rfl, ho2, Hb.out.trans hb2⟩
/-- A deed: a field and a number. -/
structure Td where
  f : Fd
  s : Int
instance : Inhabited Td := ⟨⟨default, 0⟩⟩
def RdTd (w : World) (A : Option Addr) (n c : Nat) (F : Nat → Td) : Prop :=
  n ≤ c ∧ c ≤ maxLen ∧ (A = none → c = 0) ∧ (0 < n → ∃ b off, A = some ⟨b, off, none⟩ ∧ ∀ i, i < n → w.cell? ⟨b, off + i * 4, none⟩ = some (.string (F i).f.name) ∧ w.cell? ⟨b, off + i * 4 + 1, none⟩ = some (.string (F i).f.val) ∧ w.cell? ⟨b, off + i * 4 + 2, none⟩ = some (.bool (F i).f.nev) ∧ w.cell? ⟨b, off + i * 4 + 3, none⟩ = some (.int .i64 (F i).s)) ∧
    ∀ i, i < n → (F i).f.name.size ≤ maxLen ∧ (F i).f.val.size ≤ maxLen ∧ (Lit.int .i64 (F i).s).wf = true
theorem RdTd.at_ {w : World} {A : Option Addr} {n c : Nat} {F : Nat → Td} (r : RdTd w A n c F) {i : Nat} (hi : i < n) :
    ∃ b off, A = some ⟨b, off, none⟩ ∧ w.cell? ⟨b, off + i * 4, none⟩ = some (.string (F i).f.name) ∧ w.cell? ⟨b, off + i * 4 + 1, none⟩ = some (.string (F i).f.val) ∧ w.cell? ⟨b, off + i * 4 + 2, none⟩ = some (.bool (F i).f.nev) ∧ w.cell? ⟨b, off + i * 4 + 3, none⟩ = some (.int .i64 (F i).s) := by
  obtain ⟨b, off, hA, hc⟩ := r.2.2.2.1 (by omega)
  exact ⟨b, off, hA, hc i hi⟩
theorem RdTd.below {w w' : World} {A : Option Addr} {n c : Nat} {F : Nat → Td} (r : RdTd w A n c F) (hb : Below w.heap.size w w') : RdTd w' A n c F :=
  ⟨r.1, r.2.1, r.2.2.1, fun hn => by
    obtain ⟨b, off, hA, hc⟩ := r.2.2.2.1 hn
    exact ⟨b, off, hA, fun i hi => by
      obtain ⟨h1, h2, h3, h4⟩ := hc i hi
      rw [hb.cell (World.block_lt_of_cell? w _ h1), hb.cell (World.block_lt_of_cell? w _ h2), hb.cell (World.block_lt_of_cell? w _ h3), hb.cell (World.block_lt_of_cell? w _ h4)]
      exact ⟨h1, h2, h3, h4⟩⟩, r.2.2.2.2⟩
section
variable {H : Type} {enc : TypeId × Value → H} {P : Program} {w : World} {base : Nat} {spare : Nat → Bool} {held : Bool}
theorem rdtd_of {t e : TypeId} {f0 f1 : Field} {g0 g1 g2 : Field} {fuel : Nat} {a : Option Addr} {len cap : Nat} {x : DataW H × List MemPlace} (ht : P.underlying t = some (.slice e)) (he : P.underlying e = some (.struct #[f0, f1]))
    (hC : P.cellsOf e = 4) (o0 : f0.offset = 0) (o1 : f1.offset = 3) (k0 : P.cellsOf f0.type = 3) (k1 : P.cellsOf f1.type = 1) (u0 : P.underlying f0.type = some (.struct #[g0, g1, g2])) (u1 : P.underlying f1.type = some (.int .i64))
    (p0 : g0.offset = 0) (p1 : g1.offset = 1) (p2 : g2.offset = 2) (m0 : P.cellsOf g0.type = 1) (m1 : P.cellsOf g1.type = 1) (m2 : P.cellsOf g2.type = 1) (v0 : P.underlying g0.type = some .string) (v1 : P.underlying g1.type = some .string) (v2 : P.underlying g2.type = some .bool)
    (h : DataW.trod enc P w base spare held fuel t [.slice a len cap] = some x) : ∃ F, RdTd w a len cap F := by
  rcases open_slice ht h with ⟨hcs, _⟩ | ⟨ad, l, c, m, n, D, Pl, hcs, _, hl, hm, hmm, _, hi⟩
  · simp at hcs
    obtain ⟨rfl, rfl, rfl⟩ := hcs
    exact ⟨fun _ => default, Nat.le_refl _, by simp [maxLen], fun _ => rfl, fun h => absurd h (by omega), fun i hi => absurd hi (by omega)⟩
  · simp at hcs
    obtain ⟨rfl, rfl, rfl⟩ := hcs
    have hlm : len ≤ m := by rw [hmm]; split <;> omega
    have key : ∀ i, i < len → ∃ p : Td, (w.cell? (ad.add (i * 4)) = some (.string p.f.name) ∧ w.cell? ((ad.add (i * 4)).add 1) = some (.string p.f.val) ∧ w.cell? ((ad.add (i * 4)).add 2) = some (.bool p.f.nev) ∧ w.cell? ((ad.add (i * 4)).add 3) = some (.int .i64 p.s)) ∧ p.f.name.size ≤ maxLen ∧ p.f.val.size ≤ maxLen ∧ (Lit.int .i64 p.s).wf = true := by
      intro i him
      obtain ⟨cs', hc, ht'⟩ := hi i (by omega)
      rw [hC] at hc
      obtain ⟨_, hcl, hat⟩ := World.cells?_some hc
      obtain ⟨ys, n', _, _, _, hyl, hf⟩ := DataW.trod_struct he ht'
      match cs', hcl, hat, ys, hyl, hf with
      | [q0, q1, q2, q3], _, hat, [ya, yb], _, hf =>
        have a0 := hf 0 f0 rfl
        have a1 := hf 1 f1 rfl
        rw [o0, k0] at a0
        rw [o1, k1] at a1
        have b0 : DataW.trod enc P w base spare held n' f0.type [q0, q1, q2] = some ya := a0
        obtain ⟨x3, e3, _, w3⟩ := DataW.trod_int u1 (show DataW.trod enc P w base spare held n' f1.type [q3] = some yb from a1)
        obtain ⟨zs, n2, _, _, _, hzl, hg⟩ := DataW.trod_struct u0 b0
        match zs, hzl, hg with
        | [za, zb, zc], _, hg =>
          have c0 := hg 0 g0 rfl
          have c1 := hg 1 g1 rfl
          have c2 := hg 2 g2 rfl
          rw [p0, m0] at c0
          rw [p1, m1] at c1
          rw [p2, m2] at c2
          obtain ⟨x0, e0, _, w0⟩ := DataW.trod_string v0 (show DataW.trod enc P w base spare held n2 g0.type [q0] = some za from c0)
          obtain ⟨x1, e1, _, w1⟩ := DataW.trod_string v1 (show DataW.trod enc P w base spare held n2 g1.type [q1] = some zb from c1)
          obtain ⟨x2, e2, _⟩ := DataW.trod_bool v2 (show DataW.trod enc P w base spare held n2 g2.type [q2] = some zc from c2)
          simp at e0 e1 e2 e3
          subst e0
          subst e1
          subst e2
          subst e3
          have h0 := hat 0 (by omega)
          have h1 := hat 1 (by omega)
          have h2 := hat 2 (by omega)
          have h3 := hat 3 (by omega)
          refine ⟨⟨⟨x0, x1, x2⟩, x3⟩, ⟨?_, by simpa using h1, by simpa using h2, by simpa using h3⟩, w0, w1, w3⟩
          have e : (ad.add (i * 4)).add 0 = ad.add (i * 4) := by simp [Addr.add]
          rw [e] at h0
          simpa using h0
    obtain ⟨F, hF⟩ := choose_lt key
    refine ⟨F, hl, hm, fun e => (by cases e), fun hn => ?_, fun i hi => (hF i hi).2⟩
    obtain ⟨b, off, spot⟩ := ad
    have h0 := (hF 0 hn).1.1
    have hs : spot = none := by simpa [Addr.add] using World.cell?_spot h0
    subst hs
    refine ⟨b, off, rfl, fun i hi => ?_⟩
    have := (hF i hi).1
    rw [Addr.add_lit, Addr.add_lit, Addr.add_lit, Addr.add_lit] at this
    exact this
end
theorem large21 {w : World} {A : Option Addr} {n c : Nat} {F : Nat → Td} (ha : RdTd w A n c F) :
    Calls Try.prog 20 #[.slice A n c] w fun e w' => (e = .returned (.bool true) ∨ (e = .returned (.bool false) ∧ n ≤ 60 ∧ ∀ i, i < n → (F i).f.name.size ≤ 200 ∧ (F i).f.val.size ≤ 200)) ∧ w = w' := by
  have hn63 : (n : Int) ≤ 9223372036854775807 := by have h1 := ha.1; have h2 := ha.2.1; simp only [maxLen] at h2; omega
  have Ha := hide ha
  clear ha
  by_cases h60 : 60 < n
  · have hd : decide ((60 : Int) < (n : Int)) = true := decide_eq_true (by omega)
    go_enter Try.func20, Try.ntmps20
    go_wp2
    go_ret
    exact ⟨.inl rfl, rfl⟩
  have hd : decide ((60 : Int) < (n : Int)) = false := decide_eq_false (by omega)
  go_enter Try.func20, Try.ntmps20
  go_wp2
  go_loopw [3] (fun i wr => ∃ k : Nat, k ≤ n ∧ i = .int .i64 k ∧ (∀ j, j < k → (F j).f.name.size ≤ 200 ∧ (F j).f.val.size ≤ 200) ∧ wr = w) (fun i _ => n - (intOf i).toNat)
  case atStart => exact ⟨0, Nat.zero_le _, rfl, fun j hj => absurd hj (by omega), rfl⟩
  case round =>
    obtain ⟨k, hk, rfl, hsm, rfl⟩ := hrel
    have Hsm := hide hsm
    clear hsm
    by_cases hlt : k < n
    · have hlt' : (k : Int) < (n : Int) := by omega
      obtain ⟨b, off, rfl, hc0, hc1, hc2, hc3⟩ := Ha.out.at_ hlt
      by_cases hl : 200 < (F k).f.name.size
      · have hd2 : decide ((200 : Int) < ((F k).f.name.size : Int)) = true := decide_eq_true (by omega)
        clear hl
        go_wp2
        go_ret
        exact ⟨.inl rfl, rfl⟩
      · have hd2 : decide ((200 : Int) < ((F k).f.name.size : Int)) = false := decide_eq_false (by omega)
        by_cases hl2 : 200 < (F k).f.val.size
        · have hd3 : decide ((200 : Int) < ((F k).f.val.size : Int)) = true := decide_eq_true (by omega)
          clear hl hl2
          go_wp2
          go_ret
          exact ⟨.inl rfl, rfl⟩
        · have hd3 : decide ((200 : Int) < ((F k).f.val.size : Int)) = false := decide_eq_false (by omega)
          have Hk : Hid ((F k).f.name.size ≤ 200 ∧ (F k).f.val.size ≤ 200) := by show _ ∧ _; omega
          clear hl hl2
          go_wp2
          go_roundw
          case rel => exact ⟨k + 1, by omega, by go_num, (fun j hj => (by
            by_cases hjk : j = k
            · subst hjk; exact Hk.out
            · exact Hsm.out j (by omega))), trivial⟩
          case measure => simp [intOf]; omega
    · obtain rfl : n = k := by omega
      go_wp2
      go_ret
      exact ⟨.inr ⟨rfl, by omega, Hsm.out⟩, rfl⟩
end Go.Proofs.Yteikpdolickkaaa
