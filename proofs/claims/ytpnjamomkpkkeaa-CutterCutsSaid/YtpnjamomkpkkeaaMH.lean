/- Ch1, Ch2, Ch3, Ch4, Ch5, Ch6, Ch7, Ch8, Ch9, ChA, ChB in one text. -/
import Derived.Test.YtpnjamomkpkkeaaMA
import Derived.Test.YtpnjamomkpkkeaaVal
import Derived.Deep.RegionHeld3
import Derived.Deep.Slices
namespace Go.Proofs.Ytpnjamomkpkkeaa
set_option linter.unusedVariables false
set_option linter.unusedSimpArgs false
section
open Go.RowKit

/-- A chunk: who sent it; its bytes: their place, how many, the room, the numbers. -/
structure Ck where
  from_ : Int
  A : Option Addr
  n : Nat
  c : Nat
  b : Nat → Int
/-- The slice reads as the chunks F i, i < n. -/
def RdC (w : World) (A : Option Addr) (n c : Nat) (F : Nat → Ck) : Prop :=
  n ≤ c ∧ c ≤ maxLen ∧ (A = none → c = 0) ∧ (0 < n → ∃ b off, A = some ⟨b, off, none⟩ ∧ ∀ i, i < n → w.cell? ⟨b, off + i * 2, none⟩ = some (.int .i64 (F i).from_) ∧ w.cell? ⟨b, off + i * 2 + 1, none⟩ = some (.slice (F i).A (F i).n (F i).c)) ∧
  ∀ i, i < n → Rd .u8 w (F i).A (F i).n (F i).c (F i).b ∧ Byt (F i).n (F i).b
theorem RdC.below {w w' : World} {A : Option Addr} {n c : Nat} {F : Nat → Ck} (h : RdC w A n c F) (hb : Below w.heap.size w w') : RdC w' A n c F :=
  ⟨h.1, h.2.1, h.2.2.1, fun hn => by
    obtain ⟨b, off, hA, hc⟩ := h.2.2.2.1 hn
    exact ⟨b, off, hA, fun i hi => by
      have h1 := (hc i hi).1
      have h2 := (hc i hi).2
      rw [hb.cell (World.block_lt_of_cell? w _ h1), hb.cell (World.block_lt_of_cell? w _ h2)]
      exact ⟨h1, h2⟩⟩, fun i hi => ⟨(h.2.2.2.2 i hi).1.below hb, (h.2.2.2.2 i hi).2⟩⟩
theorem RdC.at_ {w : World} {A : Option Addr} {n c : Nat} {F : Nat → Ck} (h : RdC w A n c F) {i : Nat} (hi : i < n) :
    ∃ b off, A = some ⟨b, off, none⟩ ∧ w.cell? ⟨b, off + i * 2, none⟩ = some (.int .i64 (F i).from_) ∧ w.cell? ⟨b, off + i * 2 + 1, none⟩ = some (.slice (F i).A (F i).n (F i).c) := by
  obtain ⟨b, off, hA, hc⟩ := h.2.2.2.1 (by omega)
  exact ⟨b, off, hA, hc i hi⟩
theorem RdC.drew {w : World} {A : Option Addr} {n c : Nat} {F : Nat → Ck} (h : RdC w A n c F) : RdC w.drew A n c F := h
theorem RdC.drewN {w : World} {A : Option Addr} {n c : Nat} {F : Nat → Ck} (h : RdC w A n c F) (m : Nat) : RdC (w.drewN m) A n c F := h
theorem RdC.len {w : World} {A : Option Addr} {n c : Nat} {F : Nat → Ck} (h : RdC w A n c F) {i : Nat} (hi : i < n) : (F i).n ≤ 9223372036854775807 := by
  have h1 := (h.2.2.2.2 i hi).1.1
  have h2 := (h.2.2.2.2 i hi).1.2.1
  simp only [maxLen] at h2
  omega

/-- How many bytes the first k have. -/
def sumC (F : Nat → Ck) : Nat → Nat
  | 0 => 0
  | k + 1 => sumC F k + (F k).n
theorem sumC_mono (F : Nat → Ck) {k n : Nat} (h : k ≤ n) : sumC F k ≤ sumC F n := by
  induction n with
  | zero => obtain rfl : k = 0 := by omega
            exact Nat.le_refl _
  | succ n ih =>
    by_cases e : k = n + 1
    · subst e; exact Nat.le_refl _
    · exact Nat.le_trans (ih (by omega)) (by simp [sumC])
set_option maxHeartbeats 1600000 in
/-- Not large: at most 200, and no more bytes than 'most'. -/
theorem rlarge_any (A : Option Addr) (n c : Nat) (F : Nat → Ck) (most : Nat) (w : World) (ha : RdC w A n c F) (hm : most ≤ 1000000) :
    Calls Try.prog 33 #[.slice A n c, .int .i64 most] w fun e w' => ∃ b, e = .returned (.bool b) ∧ Drawn w w' ∧ (b = false → n ≤ 200 ∧ sumC F n ≤ most) := by
  by_cases h200 : 200 < n
  · have hd : decide ((200 : Int) < n) = true := by simp; omega
    go_enter Try.func33, Try.ntmps33
    go_wp2_with fail
    go_ret
    exact ⟨_, rfl, Drawn.refl _, fun h => by cases h⟩
  have hd : decide ((200 : Int) < n) = false := by simp; omega
  have Ha := hide ha
  clear ha
  go_enter Try.func33, Try.ntmps33
  go_wp2_with fail
  go_loopw [5, 6] (fun l i wr => ∃ (k : Nat) (L : Int), k ≤ n ∧ i = .int .i64 k ∧ l = .int .i64 L ∧ (0 ≤ L ∧ L + (sumC F k : Int) = most) ∧ Drawn w wr) (fun _ i _ => n - (intOf i).toNat)
  case atStart => exact ⟨0, most, Nat.zero_le _, rfl, rfl, ⟨by omega, by simp [sumC]⟩, Drawn.refl _⟩
  case round =>
    obtain ⟨k, L, hk, rfl, rfl, ⟨hL0, hL⟩, q, rfl⟩ := hrel
    have HL := hide hL
    have hL1 : L ≤ 1000000 := by omega
    clear hL
    by_cases hlt : k < n
    · obtain ⟨b, off, rfl, hc0, hc1⟩ := Ha.out.at_ hlt
      have hln := Ha.out.len hlt
      have hkn : (k : Int) < (n : Int) := by omega
      obtain ⟨X, hX⟩ : ∃ X, F k = X := ⟨_, rfl⟩
      have HX := hide hX
      rw [hX] at hc0 hc1 hln
      clear hX
      obtain ⟨x0, x1, x2, x3, x4⟩ := X
      simp only at hc0 hc1 hln
      by_cases hbig : L < x2
      · have h1 : decide (L < (x2 : Int)) = true := decide_eq_true hbig
        go_wp2_with fail
        go_ret
        exact ⟨_, rfl, ⟨_, rfl⟩, fun h => by cases h⟩
      · have h1 : decide (L < (x2 : Int)) = false := decide_eq_false hbig
        have HL' : Hid (0 ≤ L - x2 ∧ L - x2 + (sumC F (k + 1) : Int) = most) := by
          have e := HL.out
          have e2 : sumC F (k + 1) = sumC F k + x2 := by show sumC F k + (F k).n = _; rw [HX.out]
          rw [e2]
          exact ⟨by omega, by omega⟩
        go_wp2_with fail
        exact ⟨⟨k + 1, L - x2, by omega, by go_num, by go_num, HL'.out, _, rfl⟩, by simp [intOf]; omega⟩
    · obtain rfl : k = n := by omega
      go_wp2_with fail
      go_ret
      exact ⟨_, rfl, ⟨_, rfl⟩, fun _ => ⟨by omega, by have := HL.out; omega⟩⟩
end

section
open Go.RowKit

def rightB (n : Nat) (F : Nat → Ck) : Bool := decide (∀ i, i < n → (F i).from_ = 0 ∨ (F i).from_ = 1)
set_option maxHeartbeats 1600000 in
theorem rright_any (A : Option Addr) (n c : Nat) (F : Nat → Ck) (w : World) (ha : RdC w A n c F) :
    Calls Try.prog 35 #[.slice A n c] w fun e w' => e = .returned (.bool (rightB n F)) ∧ Drawn w w' := by
  have Ha := hide ha
  have Hm : Hid (n ≤ 9223372036854775807) := by have h1 := ha.1; have h2 := ha.2.1; simp only [maxLen] at h2; show _ ≤ _; omega
  clear ha
  go_enter Try.func35, Try.ntmps35
  go_wp2_with fail
  go_loopw [3] (fun i wr => ∃ k : Nat, k ≤ n ∧ i = .int .i64 k ∧ (∀ j, j < k → (F j).from_ = 0 ∨ (F j).from_ = 1) ∧ Drawn w wr) (fun i _ => n - (intOf i).toNat)
  case atStart => exact ⟨0, Nat.zero_le _, rfl, fun j h => absurd h (by omega), Drawn.refl _⟩
  case round =>
    obtain ⟨k, hk, rfl, hall, q, rfl⟩ := hrel
    have Hall := hide hall
    clear hall
    by_cases hlt : k < n
    · obtain ⟨b, off, rfl, hc0, hc1⟩ := Ha.out.at_ hlt
      have hkn : (k : Int) < (n : Int) := by omega
      have hn := Hm.out
      obtain ⟨x0, hX⟩ : ∃ x0, (F k).from_ = x0 := ⟨_, rfl⟩
      have HX := hide hX
      rw [hX] at hc0
      clear hX hc1
      by_cases h0 : x0 = 0 ∨ x0 = 1
      · have Hall' : Hid (∀ j, j < k + 1 → (F j).from_ = 0 ∨ (F j).from_ = 1) := fun j hj => by
          by_cases e : j = k
          · subst e
            rw [HX.out]
            exact h0
          · exact Hall.out j (by omega)
        rcases h0 with rfl | rfl
        · go_wp2_with fail
          exact ⟨⟨k + 1, by omega, by go_num, Hall'.out, _, rfl⟩, by simp [intOf]; omega⟩
        · go_wp2_with fail
          exact ⟨⟨k + 1, by omega, by go_num, Hall'.out, _, rfl⟩, by simp [intOf]; omega⟩
      · have t0 : (x0 != 0) = true := by simp; omega
        have t1 : (x0 != 1) = true := by simp; omega
        have Hf : Hid (rightB n F = false) := decide_eq_false fun h => h0 (by rw [← HX.out]; exact h k hlt)
        clear h0
        go_wp2_with fail
        go_ret
        exact ⟨by rw [Hf.out]; rfl, _, rfl⟩
    · obtain rfl : k = n := by omega
      have Hf : Hid (rightB k F = true) := decide_eq_true Hall.out
      go_wp2_with fail
      go_ret
      exact ⟨by rw [Hf.out]; rfl, _, rfl⟩
end

section
open Go.RowKit

/-- How many bytes of a side the first k have; the bytes. -/
def bsz (F : Nat → Ck) (s : Int) : Nat → Nat
  | 0 => 0
  | k + 1 => if (F k).from_ = s then bsz F s k + (F k).n else bsz F s k
def bsF (F : Nat → Ck) (s : Int) : Nat → Nat → Int
  | 0 => fun _ => 0
  | k + 1 => if (F k).from_ = s then catF (bsz F s k) (bsF F s k) (F k).b else bsF F s k
theorem bsz_le (F : Nat → Ck) (s : Int) (k : Nat) : bsz F s k ≤ sumC F k := by
  induction k with
  | zero => exact Nat.le_refl _
  | succ k ih =>
    simp only [bsz, sumC]
    split <;> omega
theorem bs_yes {F : Nat → Ck} {s : Int} {k : Nat} (h : (F k).from_ = s) : bsz F s (k + 1) = bsz F s k + (F k).n ∧ bsF F s (k + 1) = catF (bsz F s k) (bsF F s k) (F k).b := by
  constructor
  · rw [bsz, if_pos h]
  · rw [bsF, if_pos h]
theorem bs_no {F : Nat → Ck} {s : Int} {k : Nat} (h : (F k).from_ ≠ s) : bsz F s (k + 1) = bsz F s k ∧ bsF F s (k + 1) = bsF F s k := by
  constructor
  · rw [bsz, if_neg h]
  · rw [bsF, if_neg h]
def GotB (w : World) (n : Nat) (f : Nat → Int) (e : Ending) (w' : World) : Prop := ∃ A c, e = .returned (.slice A n c) ∧ Own .u8 5 w.heap.size w' (.slice A n c) n f ∧ Below w.heap.size w w'
end

section
open Go.RowKit

end

section
open Go.RowKit

end

section
open Go.RowKit

theorem results_cellK {fn : Func} {p : Tmp} {ty : TypeId} (h : fn.results = #[.cell p ty]) (tmps : Array Value) (P : Program) (w : World) :
    (results fn tmps).run P w = ((asAddr (tmps.getD p undef)).run P w).andThen fun a w' => (loadVar ty a).run P w' := by
  simp [results, h]

end

section
open Go.RowKit

end

section
open Go.RowKit Go.ChangeShapes Go.WideShapes Go.Deep

instance : Inhabited Ck := ⟨⟨0, none, 0, 0, fun _ => 0⟩⟩
section
variable {H : Type} {enc : TypeId × Value → H} {P : Program} {w : World} {base : Nat} {held : Bool}
theorem rdc_of {t e u : TypeId} {f0 f1 : Field} {fuel : Nat} {a : Option Addr} {len cap : Nat} {x : DataW H × List MemPlace} (ht : P.underlying t = some (.slice e)) (he : P.underlying e = some (.struct #[f0, f1]))
    (hC : P.cellsOf e = 2) (o0 : f0.offset = 0) (o1 : f1.offset = 1) (k0 : P.cellsOf f0.type = 1) (k1 : P.cellsOf f1.type = 1) (u0 : P.underlying f0.type = some (.int .i64)) (u1 : P.underlying f1.type = some (.slice u)) (uu : P.underlying u = some (.int .u8)) (uc : P.cellsOf u = 1)
    (h : DataW.trod enc P w base (fun _ => true) held fuel t [.slice a len cap] = some x) : ∃ F, RdC w a len cap F ∧ Wf64 len (fun i => (F i).from_) := by
  rcases open_slice ht h with ⟨hcs, _⟩ | ⟨ad, l, c, m, n, D, Pl, hcs, _, hl, hm, hmm, _, hi⟩
  · simp at hcs
    obtain ⟨rfl, rfl, rfl⟩ := hcs
    exact ⟨fun _ => ⟨0, none, 0, 0, fun _ => 0⟩, ⟨Nat.le_refl _, by simp [maxLen], fun _ => rfl, fun h => absurd h (by omega), fun i hi => by omega⟩, fun i hi => by omega⟩
  · simp at hcs
    obtain ⟨rfl, rfl, rfl⟩ := hcs
    have hlm : len ≤ m := by rw [hmm]; split <;> omega
    have key : ∀ i, i < len → ∃ p : Ck, (w.cell? (ad.add (i * 2)) = some (.int .i64 p.from_) ∧ w.cell? ((ad.add (i * 2)).add 1) = some (.slice p.A p.n p.c)) ∧ (Lit.int .i64 p.from_).wf = true ∧ Rd .u8 w p.A p.n p.c p.b ∧ Byt p.n p.b := by
      intro i him
      obtain ⟨cs', hc, ht'⟩ := hi i (by omega)
      rw [hC] at hc
      obtain ⟨_, hcl, hat⟩ := World.cells?_some hc
      obtain ⟨ys, n', _, _, _, hyl, hf⟩ := DataW.trod_struct he ht'
      match cs', hcl, hat, ys, hyl, hf with
      | [q0, q1], _, hat, [ya, yb], _, hf =>
        have a0 := hf 0 f0 rfl
        have a1 := hf 1 f1 rfl
        rw [o0, k0] at a0
        rw [o1, k1] at a1
        obtain ⟨v0, e0, _, w0⟩ := DataW.trod_int u0 (show DataW.trod enc P w base (fun _ => true) held n' f0.type [q0] = some ya from a0)
        obtain ⟨A, L, C, zs, e1, w1⟩ := bytes_of u1 uu uc (show DataW.trod enc P w base (fun _ => true) held n' f1.type [q1] = some yb from a1)
        simp at e0
        subst e0
        subst e1
        have h0 := hat 0 (by omega)
        have h1 := hat 1 (by omega)
        refine ⟨⟨v0, A, L, C, _⟩, ⟨?_, by simpa using h1⟩, w0, rd_of_row w1, byt_of_row w1⟩
        have e : (ad.add (i * 2)).add 0 = ad.add (i * 2) := by simp [Addr.add]
        rw [e] at h0
        simpa using h0
    obtain ⟨F, hF⟩ := choose_lt key
    refine ⟨F, ⟨hl, hm, fun e => (by cases e), fun hn => ?_, fun i hi => (hF i hi).2.2⟩, fun i hi => ?_⟩
    · obtain ⟨b, off, spot⟩ := ad
      have h0 := (hF 0 hn).1.1
      have hs : spot = none := by simpa [Addr.add] using World.cell?_spot h0
      subst hs
      refine ⟨b, off, rfl, fun i hi => ?_⟩
      have := (hF i hi).1
      rw [Addr.add_lit, Addr.add_lit] at this
      exact this
    · have := bounds_i64 (hF i hi).2.1
      show -9223372036854775808 ≤ (F i).from_ ∧ (F i).from_ ≤ 9223372036854775807
      omega
end
end

section
open Go.RowKit

end

section
open Go.RowKit

theorem row1 {w : World} {b : Nat} {T : TypeId} {v0 : Value} (h : w.heap[b]? = some (.cells #[v0] T (0, 0))) : w.cell? ⟨b, 0, none⟩ = some v0 := by
  rw [cell_of_row w b 0 _ _ _ h]; rfl
end

section
open Go.RowKit

end
end Go.Proofs.Ytpnjamomkpkkeaa
