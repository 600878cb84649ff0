/- Ch1, Ch2, Ch3, Ch4, Ch5, Ch6, Ch7, Ch8, Ch9, ChA, ChB in one text. -/
import Derived.Test.YtnjmkbaddeeniaaMA
import Derived.Test.YtnjmkbaddeeniaaVal
import Derived.Deep.RegionHeld3
import Derived.Deep.Slices
namespace Go.Proofs.Ytnjmkbaddeeniaa
section
open Go.RowKit

/-- A chunk: who sent it; its bytes: their place, how many, the room, the numbers. -/
structure Ck where
  from_ : Int
  A : Option Addr
  n : Nat
  c : Nat
  b : Nat → Int
/-- The slice reads as the chunks F i, i < n. -/
def RdC (w : World) (A : Option Addr) (n c : Nat) (F : Nat → Ck) : Prop :=
  n ≤ c ∧ c ≤ maxLen ∧ (A = none → c = 0) ∧ (0 < n → ∃ b off, A = some ⟨b, off, none⟩ ∧ ∀ i, i < n → w.cell? ⟨b, off + i * 2, none⟩ = some (.int .i64 (F i).from_) ∧ w.cell? ⟨b, off + i * 2 + 1, none⟩ = some (.slice (F i).A (F i).n (F i).c)) ∧
  ∀ i, i < n → Rd .u8 w (F i).A (F i).n (F i).c (F i).b ∧ Byt (F i).n (F i).b
theorem RdC.below {w w' : World} {A : Option Addr} {n c : Nat} {F : Nat → Ck} (h : RdC w A n c F) (hb : Below w.heap.size w w') : RdC w' A n c F :=
  ⟨h.1, h.2.1, h.2.2.1, fun hn => by
    obtain ⟨b, off, hA, hc⟩ := h.2.2.2.1 hn
    exact ⟨b, off, hA, fun i hi => by
      have h1 := (hc i hi).1
      have h2 := (hc i hi).2
      rw [hb.cell (World.block_lt_of_cell? w _ h1), hb.cell (World.block_lt_of_cell? w _ h2)]
      exact ⟨h1, h2⟩⟩, fun i hi => ⟨(h.2.2.2.2 i hi).1.below hb, (h.2.2.2.2 i hi).2⟩⟩
theorem RdC.at_ {w : World} {A : Option Addr} {n c : Nat} {F : Nat → Ck} (h : RdC w A n c F) {i : Nat} (hi : i < n) :
    ∃ b off, A = some ⟨b, off, none⟩ ∧ w.cell? ⟨b, off + i * 2, none⟩ = some (.int .i64 (F i).from_) ∧ w.cell? ⟨b, off + i * 2 + 1, none⟩ = some (.slice (F i).A (F i).n (F i).c) := by
  obtain ⟨b, off, hA, hc⟩ := h.2.2.2.1 (by omega)
  exact ⟨b, off, hA, hc i hi⟩
theorem RdC.drew {w : World} {A : Option Addr} {n c : Nat} {F : Nat → Ck} (h : RdC w A n c F) : RdC w.drew A n c F := h
theorem RdC.drewN {w : World} {A : Option Addr} {n c : Nat} {F : Nat → Ck} (h : RdC w A n c F) (m : Nat) : RdC (w.drewN m) A n c F := h
theorem RdC.len {w : World} {A : Option Addr} {n c : Nat} {F : Nat → Ck} (h : RdC w A n c F) {i : Nat} (hi : i < n) : (F i).n ≤ 9223372036854775807 := by
  have h1 := (h.2.2.2.2 i hi).1.1
  have h2 := (h.2.2.2.2 i hi).1.2.1
  simp only [maxLen] at h2
  omega

/-- How many bytes the first k have. -/
def sumC (F : Nat → Ck) : Nat → Nat
  | 0 => 0
  | k + 1 => sumC F k + (F k).n
theorem sumC_mono (F : Nat → Ck) {k n : Nat} (h : k ≤ n) : sumC F k ≤ sumC F n := by
  induction n with
  | zero => obtain rfl : k = 0 := by omega
            exact Nat.le_refl _
  | succ n ih =>
    by_cases e : k = n + 1
    · subst e; exact Nat.le_refl _
    · exact Nat.le_trans (ih (by omega)) (by simp [sumC])
set_option maxHeartbeats 1600000 in
/-- Not large: at most 200, and no more bytes than 'most'. -/
theorem rlarge_any (A : Option Addr) (n c : Nat) (F : Nat → Ck) (most : Nat) (w : World) (ha : RdC w A n c F) (hm : most ≤ 1000000) :
    Calls Try.prog 15 #[.slice A n c, .int .i64 most] w fun e w' => ∃ b, e = .returned (.bool b) ∧ Drawn w w' ∧ (b = false → n ≤ 200 ∧ sumC F n ≤ most) := by
  by_cases h200 : 200 < n
  · have hd : decide ((200 : Int) < n) = true := by simp; omega
    go_enter Try.func15, Try.ntmps15
    go_wp2_with fail
    go_ret
    exact ⟨_, rfl, Drawn.refl _, fun h => by cases h⟩
  have hd : decide ((200 : Int) < n) = false := by simp; omega
  have Ha := hide ha
  clear ha
  go_enter Try.func15, Try.ntmps15
  go_wp2_with fail
  go_loopw [5, 6] (fun l i wr => ∃ (k : Nat) (L : Int), k ≤ n ∧ i = .int .i64 k ∧ l = .int .i64 L ∧ (0 ≤ L ∧ L + (sumC F k : Int) = most) ∧ Drawn w wr) (fun _ i _ => n - (intOf i).toNat)
  case atStart => exact ⟨0, most, Nat.zero_le _, rfl, rfl, ⟨by omega, by simp [sumC]⟩, Drawn.refl _⟩
  case round =>
    obtain ⟨k, L, hk, rfl, rfl, ⟨hL0, hL⟩, q, rfl⟩ := hrel
    have HL := hide hL
    have hL1 : L ≤ 1000000 := by omega
    clear hL
    by_cases hlt : k < n
    · obtain ⟨b, off, rfl, hc0, hc1⟩ := Ha.out.at_ hlt
      have hln := Ha.out.len hlt
      have hkn : (k : Int) < (n : Int) := by omega
      obtain ⟨X, hX⟩ : ∃ X, F k = X := ⟨_, rfl⟩
      have HX := hide hX
      rw [hX] at hc0 hc1 hln
      clear hX
      obtain ⟨x0, x1, x2, x3, x4⟩ := X
      simp only at hc0 hc1 hln
      by_cases hbig : L < x2
      · have h1 : decide (L < (x2 : Int)) = true := decide_eq_true hbig
        go_wp2_with fail
        go_ret
        exact ⟨_, rfl, ⟨_, rfl⟩, fun h => by cases h⟩
      · have h1 : decide (L < (x2 : Int)) = false := decide_eq_false hbig
        have HL' : Hid (0 ≤ L - x2 ∧ L - x2 + (sumC F (k + 1) : Int) = most) := by
          have e := HL.out
          have e2 : sumC F (k + 1) = sumC F k + x2 := by show sumC F k + (F k).n = _; rw [HX.out]
          rw [e2]
          exact ⟨by omega, by omega⟩
        go_wp2_with fail
        exact ⟨⟨k + 1, L - x2, by omega, by go_num, by go_num, HL'.out, _, rfl⟩, by simp [intOf]; omega⟩
    · obtain rfl : k = n := by omega
      go_wp2_with fail
      go_ret
      exact ⟨_, rfl, ⟨_, rfl⟩, fun _ => ⟨by omega, by have := HL.out; omega⟩⟩
end

section
open Go.RowKit

def rightB (n : Nat) (F : Nat → Ck) : Bool := decide (∀ i, i < n → (F i).from_ = 0 ∨ (F i).from_ = 1)
end

section
open Go.RowKit

/-- How many bytes of a side the first k have; the bytes. -/
def bsz (F : Nat → Ck) (s : Int) : Nat → Nat
  | 0 => 0
  | k + 1 => if (F k).from_ = s then bsz F s k + (F k).n else bsz F s k
def bsF (F : Nat → Ck) (s : Int) : Nat → Nat → Int
  | 0 => fun _ => 0
  | k + 1 => if (F k).from_ = s then catF (bsz F s k) (bsF F s k) (F k).b else bsF F s k
theorem bsz_le (F : Nat → Ck) (s : Int) (k : Nat) : bsz F s k ≤ sumC F k := by
  induction k with
  | zero => exact Nat.le_refl _
  | succ k ih =>
    simp only [bsz, sumC]
    split <;> omega
theorem bs_yes {F : Nat → Ck} {s : Int} {k : Nat} (h : (F k).from_ = s) : bsz F s (k + 1) = bsz F s k + (F k).n ∧ bsF F s (k + 1) = catF (bsz F s k) (bsF F s k) (F k).b := by
  constructor
  · rw [bsz, if_pos h]
  · rw [bsF, if_pos h]
theorem bs_no {F : Nat → Ck} {s : Int} {k : Nat} (h : (F k).from_ ≠ s) : bsz F s (k + 1) = bsz F s k ∧ bsF F s (k + 1) = bsF F s k := by
  constructor
  · rw [bsz, if_neg h]
  · rw [bsF, if_neg h]
def GotB (w : World) (n : Nat) (f : Nat → Int) (e : Ending) (w' : World) : Prop := ∃ A c, e = .returned (.slice A n c) ∧ Own .u8 5 w.heap.size w' (.slice A n c) n f ∧ Below w.heap.size w w'
end

section
open Go.RowKit

end

section
open Go.RowKit

end

section
open Go.RowKit

theorem results_cellK {fn : Func} {p : Tmp} {ty : TypeId} (h : fn.results = #[.cell p ty]) (tmps : Array Value) (P : Program) (w : World) :
    (results fn tmps).run P w = ((asAddr (tmps.getD p undef)).run P w).andThen fun a w' => (loadVar ty a).run P w' := by
  simp [results, h]

set_option maxHeartbeats 1600000 in
theorem copied_any (x : Int) (A : Option Addr) (n c : Nat) (f : Nat → Int) (w : World) (ha : Rd .u8 w A n c f) (hn : n ≤ 1000000) :
    Calls Try.prog 74 #[.int .i64 x, .slice A n c] w fun e w' => ∃ v, e = .returned (.agg #[.int .i64 x, v]) ∧ Own .u8 5 w.heap.size w' v n f ∧ Below w.heap.size w w' := by
  have R0 := hide (heap_alloc_new w (.cells #[.int .i64 0, .slice none 0 0] 137))
  have HB0 : Hid (Below w.heap.size w (w.alloc (.cells #[.int .i64 0, .slice none 0 0] 137))) := (Below.refl _ _).alloc (Nat.le_refl _) _
  have Ha := hide (ha.alloc (.cells #[.int .i64 0, .slice none 0 0] 137))
  clear ha
  go_enter Try.func74, Try.ntmps74
  go_wp2_with fail
  refine (clone_any A n c f _ Ha.out (by omega)).mono ?_
  rintro e w1 ⟨v, rfl, ho1, hb1⟩
  have R1 := hide (keepRow R0.out hb1)
  have HB1 := hide (HB0.out.of hb1)
  obtain ⟨A', c', rfl, _, hA'⟩ := ho1.rd
  have Ho2 : Hid (Own .u8 5 w.heap.size ((w1.setCell ⟨w.heap.size, 0, none⟩ (.int .i64 x)).setCell ⟨w.heap.size, 1, none⟩ (.slice A' n c')) (.slice A' n c') n f) := by
    have h1 := ownsRow_setCell_below ho1 (a := ⟨w.heap.size, 0, none⟩) (by simp) (.int .i64 x)
    have h2 := ownsRow_setCell_below h1 (a := ⟨w.heap.size, 1, none⟩) (by simp) (.slice A' n c')
    exact Own.baseT h2 (by simp)
  have hl1 := rowLt R1.out
  have S1 := setRow w1 w.heap.size 0 (.int .i64 x) R1.out
  have S2 := setRow _ w.heap.size 1 (.slice A' n c') S1
  simp only [List.setIfInBounds_toArray, List.set_cons_zero, List.set_cons_succ] at S1 S2
  have HS2 := hide S2
  have y0 := frozenRow R1.out 0
  have y1 := frozenRow S1 1
  obtain ⟨d00, d01⟩ := row2 R1.out
  obtain ⟨d10, d11⟩ := row2 S1
  clear S1 S2 hb1 ho1
  go_wp2_with fail
  obtain ⟨e0, e1⟩ := row2 HS2.out
  refine bodyPost_ret (v := .agg #[.int .i64 x, .slice A' n c']) ?_ rfl ⟨_, rfl, Ho2.out, ?_⟩
  · rw [results_cellK rfl]
    go_simp
  · exact (HB1.out.setCell (Nat.le_refl _) _).setCell (Nat.le_refl _) _
end

section
open Go.RowKit

set_option maxHeartbeats 3200000 in
theorem rcsame_yes (A C : Option Addr) (n c d : Nat) (F G : Nat → Ck) (w : World) (ha : RdC w A n c F) (hb : RdC w C n d G)
    (h : ∀ i, i < n → (F i).from_ = (G i).from_ ∧ (F i).n = (G i).n ∧ ∀ j, j < (F i).n → (F i).b j = (G i).b j) :
    Calls Try.prog 18 #[.slice A n c, .slice C n d] w fun e w' => e = .returned (.bool true) ∧ Drawn w w' := by
  have Ha := hide ha
  have Hb := hide hb
  have H := hide h
  have Hm : Hid (n ≤ 9223372036854775807) := by have h1 := ha.1; have h2 := ha.2.1; simp only [maxLen] at h2; show _ ≤ _; omega
  clear ha hb h
  go_enter Try.func18, Try.ntmps18
  go_wp2_with fail
  go_loopw [5] (fun i wr => ∃ k : Nat, k ≤ n ∧ i = .int .i64 k ∧ Drawn w wr) (fun i _ => n - (intOf i).toNat)
  case atStart => exact ⟨0, Nat.zero_le _, rfl, Drawn.refl _⟩
  case round =>
    obtain ⟨k, hk, rfl, q, rfl⟩ := hrel
    by_cases hlt : k < n
    · obtain ⟨b, off, rfl, hc0, hc1⟩ := Ha.out.at_ hlt
      obtain ⟨b', off', rfl, hd0, hd1⟩ := Hb.out.at_ hlt
      have Hx := hide (Ha.out.2.2.2.2 k hlt).1
      have Hy := hide (Hb.out.2.2.2.2 k hlt).1
      have hkn : (k : Int) < (n : Int) := by omega
      have hn := Hm.out
      obtain ⟨h1, h2, h3⟩ := H.out k hlt
      have H3 := hide h3
      clear h3
      rw [← h2] at hd1 Hy
      rw [← h1] at hd0
      clear h1 h2
      obtain ⟨x0, hX0⟩ : ∃ x, (F k).from_ = x := ⟨_, rfl⟩
      obtain ⟨x1, hX1⟩ : ∃ x, (F k).A = x := ⟨_, rfl⟩
      obtain ⟨x2, hX2⟩ : ∃ x, (F k).n = x := ⟨_, rfl⟩
      obtain ⟨x3, hX3⟩ : ∃ x, (F k).c = x := ⟨_, rfl⟩
      obtain ⟨y1, hY1⟩ : ∃ x, (G k).A = x := ⟨_, rfl⟩
      obtain ⟨y3, hY3⟩ : ∃ x, (G k).c = x := ⟨_, rfl⟩
      rw [hX0] at hc0 hd0
      rw [hX1, hX2, hX3] at hc1 Hx
      rw [hX2, hY1, hY3] at hd1 Hy
      rw [hX2] at H3
      clear hX0 hX1 hX2 hX3 hY1 hY3
      go_wp2_with fail
      go_region_held3 (fun w' : World => w'.cell? ⟨b, off + k * 2, none⟩ = some (.int .i64 x0) ∧ w'.cell? ⟨b, off + k * 2 + 1, none⟩ = some (.slice x1 x2 x3) ∧ w'.cell? ⟨b', off' + k * 2, none⟩ = some (.int .i64 x0) ∧ w'.cell? ⟨b', off' + k * 2 + 1, none⟩ = some (.slice y1 x2 y3))
        ((first | exact ⟨hc0, hc1, hd0, hd1⟩ | (go_keep; done)))
        ((first
          | (go_at_call 75; (with_reducible refine (rsame_yes _ _ _ _ _ _ _ _ (Hx.out.drewN _) (Hy.out.drewN _) H3.out).mono ?_); rintro e w5 ⟨rfl, q5, rfl⟩)))
      all_goals
        go_wp2_with fail
        exact ⟨⟨k + 1, by omega, by go_num, ⟨_, rfl⟩⟩, by simp [intOf]; omega⟩
    · obtain rfl : k = n := by omega
      go_wp2_with fail
      go_ret
      exact ⟨rfl, _, rfl⟩
end

section
open Go.RowKit Go.ChangeShapes Go.WideShapes Go.Deep

instance : Inhabited Ck := ⟨⟨0, none, 0, 0, fun _ => 0⟩⟩
section
variable {H : Type} {enc : TypeId × Value → H} {P : Program} {w : World} {base : Nat} {held : Bool}
theorem rdc_of {t e u : TypeId} {f0 f1 : Field} {fuel : Nat} {a : Option Addr} {len cap : Nat} {x : DataW H × List MemPlace} (ht : P.underlying t = some (.slice e)) (he : P.underlying e = some (.struct #[f0, f1]))
    (hC : P.cellsOf e = 2) (o0 : f0.offset = 0) (o1 : f1.offset = 1) (k0 : P.cellsOf f0.type = 1) (k1 : P.cellsOf f1.type = 1) (u0 : P.underlying f0.type = some (.int .i64)) (u1 : P.underlying f1.type = some (.slice u)) (uu : P.underlying u = some (.int .u8)) (uc : P.cellsOf u = 1)
    (h : DataW.trod enc P w base (fun _ => true) held fuel t [.slice a len cap] = some x) : ∃ F, RdC w a len cap F ∧ Wf64 len (fun i => (F i).from_) := by
  rcases open_slice ht h with ⟨hcs, _⟩ | ⟨ad, l, c, m, n, D, Pl, hcs, _, hl, hm, hmm, _, hi⟩
  · simp at hcs
    obtain ⟨rfl, rfl, rfl⟩ := hcs
    exact ⟨fun _ => ⟨0, none, 0, 0, fun _ => 0⟩, ⟨Nat.le_refl _, by simp [maxLen], fun _ => rfl, fun h => absurd h (by omega), fun i hi => by omega⟩, fun i hi => by omega⟩
  · simp at hcs
    obtain ⟨rfl, rfl, rfl⟩ := hcs
    have hlm : len ≤ m := by rw [hmm]; split <;> omega
    have key : ∀ i, i < len → ∃ p : Ck, (w.cell? (ad.add (i * 2)) = some (.int .i64 p.from_) ∧ w.cell? ((ad.add (i * 2)).add 1) = some (.slice p.A p.n p.c)) ∧ (Lit.int .i64 p.from_).wf = true ∧ Rd .u8 w p.A p.n p.c p.b ∧ Byt p.n p.b := by
      intro i him
      obtain ⟨cs', hc, ht'⟩ := hi i (by omega)
      rw [hC] at hc
      obtain ⟨_, hcl, hat⟩ := World.cells?_some hc
      obtain ⟨ys, n', _, _, _, hyl, hf⟩ := DataW.trod_struct he ht'
      match cs', hcl, hat, ys, hyl, hf with
      | [q0, q1], _, hat, [ya, yb], _, hf =>
        have a0 := hf 0 f0 rfl
        have a1 := hf 1 f1 rfl
        rw [o0, k0] at a0
        rw [o1, k1] at a1
        obtain ⟨v0, e0, _, w0⟩ := DataW.trod_int u0 (show DataW.trod enc P w base (fun _ => true) held n' f0.type [q0] = some ya from a0)
        obtain ⟨A, L, C, zs, e1, w1⟩ := bytes_of u1 uu uc (show DataW.trod enc P w base (fun _ => true) held n' f1.type [q1] = some yb from a1)
        simp at e0
        subst e0
        subst e1
        have h0 := hat 0 (by omega)
        have h1 := hat 1 (by omega)
        refine ⟨⟨v0, A, L, C, _⟩, ⟨?_, by simpa using h1⟩, w0, rd_of_row w1, byt_of_row w1⟩
        have e : (ad.add (i * 2)).add 0 = ad.add (i * 2) := by simp [Addr.add]
        rw [e] at h0
        simpa using h0
    obtain ⟨F, hF⟩ := choose_lt key
    refine ⟨F, ⟨hl, hm, fun e => (by cases e), fun hn => ?_, fun i hi => (hF i hi).2.2⟩, fun i hi => ?_⟩
    · obtain ⟨b, off, spot⟩ := ad
      have h0 := (hF 0 hn).1.1
      have hs : spot = none := by simpa [Addr.add] using World.cell?_spot h0
      subst hs
      refine ⟨b, off, rfl, fun i hi => ?_⟩
      have := (hF i hi).1
      rw [Addr.add_lit, Addr.add_lit] at this
      exact this
    · have := bounds_i64 (hF i hi).2.1
      show -9223372036854775808 ≤ (F i).from_ ∧ (F i).from_ ≤ 9223372036854775807
      omega
end
end

section
open Go.RowKit

set_option maxHeartbeats 1600000 in
theorem inturn_any (A : Option Addr) (n c : Nat) (w : World) :
    Calls Try.prog 76 #[.slice A n c] w fun e w' => e = .returned (.func (.func 111) #[] #[.pointer (some ⟨w.heap.size, 0, none⟩), .pointer (some ⟨w.heap.size + 1, 0, none⟩)]) ∧ w'.heap[w.heap.size]? = some (.cells #[.slice A n c] 28 (0, 0)) ∧ w'.heap[w.heap.size + 1]? = some (.cells #[.int .i64 0] 3 (0, 0)) ∧ w'.heap.size = w.heap.size + 2 ∧ Below w.heap.size w w' := by
  go_enter Try.func76, Try.ntmps76
  go_wp2_with fail
  go_ret
  have R0 := heap_alloc_new w (.cells #[.slice A n c] 28)
  have R1 := keepRow R0 ((Below.refl _ _).alloc (Nat.le_refl _) (.cells #[.int .i64 0] 3))
  have R2 := heap_alloc_new (w.alloc (.cells #[.slice A n c] 28)) (.cells #[.int .i64 0] 3)
  have hB : Below w.heap.size w ((w.alloc (.cells #[.slice A n c] 28)).alloc (.cells #[.int .i64 0] 3)) := ((Below.refl _ _).alloc (Nat.le_refl _) _).alloc (by simp) _
  refine ⟨rfl, R1, ?_, ?_, hB⟩
  · simpa using R2
  · simp
end

section
open Go.RowKit

theorem row1 {w : World} {b : Nat} {T : TypeId} {v0 : Value} (h : w.heap[b]? = some (.cells #[v0] T (0, 0))) : w.cell? ⟨b, 0, none⟩ = some v0 := by
  rw [cell_of_row w b 0 _ _ _ h]; rfl
set_option maxHeartbeats 1600000 in
theorem next_any (A : Option Addr) (n c p0 p1 z : Nat) (f : Nat → Int) (w : World) (h0 : w.heap[p0]? = some (.cells #[.slice A n c] 28 (0, 0))) (h1 : w.heap[p1]? = some (.cells #[.int .i64 z] 3 (0, 0))) (ha : Rd .i64 w A n c f) (hz : z < n) (hn : n ≤ 100) :
    Calls Try.prog 111 #[.pointer (some ⟨p0, 0, none⟩), .pointer (some ⟨p1, 0, none⟩)] w fun e w' => e = .returned (.int .i64 (max 1 (f z))) ∧ w' = w.setCell ⟨p1, 0, none⟩ (.int .i64 (((z : Int) + 1) % (n : Int))) := by
  have c0 := row1 h0
  have c1 := row1 h1
  have g1 := frozenRow h1 0
  obtain ⟨b, off, rfl, hc⟩ := ha.at_ hz
  have hzn : (z : Int) < (n : Int) := by omega
  have hn0 : ((n : Int) == 0) = false := by simp; omega
  clear ha h0 h1
  go_enter Try.func111, Try.ntmps111
  go_wp2_with fail
  all_goals (go_ret; first | rw [show max 1 (f z) = 1 by omega] | rw [show max 1 (f z) = f z by omega])
  all_goals exact ⟨rfl, rfl⟩
end

section
open Go.RowKit

end
end Go.Proofs.Ytnjmkbaddeeniaa
