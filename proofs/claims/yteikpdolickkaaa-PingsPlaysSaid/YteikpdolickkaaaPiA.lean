/- Layer 36: a law's parameter of deeds; the reference's rows of rows. -/
import Derived.Test.YteikpdolickkaaaPi7
import Derived.Test.YteikpdolickkaaaPi9
namespace Go.Proofs.Yteikpdolickkaaa
open Go.RowKit Go.Maps Go.Deep Go.ChangeShapes Go.WideShapes

/-- A deed: a bool and bytes. -/
structure Dd where
  h : Bool
  A : Option Addr
  n : Nat
  c : Nat
  b : Nat → Int
instance : Inhabited Dd := ⟨⟨false, none, 0, 0, fun _ => 0⟩⟩
def RdD (w : World) (A : Option Addr) (n c : Nat) (F : Nat → Dd) : Prop :=
  n ≤ c ∧ c ≤ maxLen ∧ (A = none → c = 0) ∧ (0 < n → ∃ b off, A = some ⟨b, off, none⟩ ∧ ∀ i, i < n → w.cell? ⟨b, off + i * 2, none⟩ = some (.bool (F i).h) ∧ w.cell? ⟨b, off + i * 2 + 1, none⟩ = some (.slice (F i).A (F i).n (F i).c)) ∧
    ∀ i, i < n → Rd .u8 w (F i).A (F i).n (F i).c (F i).b ∧ Byt (F i).n (F i).b
theorem RdD.below {w w' : World} {A : Option Addr} {n c : Nat} {F : Nat → Dd} (r : RdD w A n c F) (hb : Below w.heap.size w w') : RdD w' A n c F :=
  ⟨r.1, r.2.1, r.2.2.1, fun hn => by
    obtain ⟨b, off, hA, hc⟩ := r.2.2.2.1 hn
    exact ⟨b, off, hA, fun i hi => by
      obtain ⟨h1, h2⟩ := hc i hi
      rw [hb.cell (World.block_lt_of_cell? w _ h1), hb.cell (World.block_lt_of_cell? w _ h2)]
      exact ⟨h1, h2⟩⟩, fun i hi => ⟨(r.2.2.2.2 i hi).1.below hb, (r.2.2.2.2 i hi).2⟩⟩
theorem RdD.at_ {w : World} {A : Option Addr} {n c : Nat} {F : Nat → Dd} (r : RdD w A n c F) {i : Nat} (hi : i < n) :
    ∃ b off, A = some ⟨b, off, none⟩ ∧ w.cell? ⟨b, off + i * 2, none⟩ = some (.bool (F i).h) ∧ w.cell? ⟨b, off + i * 2 + 1, none⟩ = some (.slice (F i).A (F i).n (F i).c) ∧ Rd .u8 w (F i).A (F i).n (F i).c (F i).b ∧ Byt (F i).n (F i).b := by
  obtain ⟨b, off, hA, hc⟩ := r.2.2.2.1 (by omega)
  exact ⟨b, off, hA, (hc i hi).1, (hc i hi).2, r.2.2.2.2 i hi⟩
section
variable {H : Type} {enc : TypeId × Value → H} {P : Program} {w : World} {base : Nat} {held : Bool}
theorem rdd_of {t e u : TypeId} {f0 f1 : Field} {fuel : Nat} {a : Option Addr} {len cap : Nat} {x : DataW H × List MemPlace} (ht : P.underlying t = some (.slice e)) (he : P.underlying e = some (.struct #[f0, f1]))
    (hC : P.cellsOf e = 2) (o0 : f0.offset = 0) (o1 : f1.offset = 1) (k0 : P.cellsOf f0.type = 1) (k1 : P.cellsOf f1.type = 1) (u0 : P.underlying f0.type = some .bool) (u1 : P.underlying f1.type = some (.slice u)) (uu : P.underlying u = some (.int .u8)) (uc : P.cellsOf u = 1)
    (h : DataW.trod enc P w base (fun _ => true) held fuel t [.slice a len cap] = some x) : ∃ F, RdD w a len cap F := by
  rcases open_slice ht h with ⟨hcs, _⟩ | ⟨ad, l, c, m, n, D, Pl, hcs, _, hl, hm, hmm, _, hi⟩
  · simp at hcs
    obtain ⟨rfl, rfl, rfl⟩ := hcs
    exact ⟨fun _ => ⟨false, none, 0, 0, fun _ => 0⟩, Nat.le_refl _, by simp [maxLen], fun _ => rfl, fun h => absurd h (by omega), fun i hi => by omega⟩
  · simp at hcs
    obtain ⟨rfl, rfl, rfl⟩ := hcs
    have hlm : len ≤ m := by rw [hmm]; split <;> omega
    have key : ∀ i, i < len → ∃ p : Dd, (w.cell? (ad.add (i * 2)) = some (.bool p.h) ∧ w.cell? ((ad.add (i * 2)).add 1) = some (.slice p.A p.n p.c)) ∧ Rd .u8 w p.A p.n p.c p.b ∧ Byt p.n p.b := by
      intro i him
      obtain ⟨cs', hc, ht'⟩ := hi i (by omega)
      rw [hC] at hc
      obtain ⟨_, hcl, hat⟩ := World.cells?_some hc
      obtain ⟨ys, n', _, _, _, hyl, hf⟩ := DataW.trod_struct he ht'
      match cs', hcl, hat, ys, hyl, hf with
      | [q0, q1], _, hat, [ya, yb], _, hf =>
        have a0 := hf 0 f0 rfl
        have a1 := hf 1 f1 rfl
        rw [o0, k0] at a0
        rw [o1, k1] at a1
        obtain ⟨v0, e0, _⟩ := DataW.trod_bool u0 (show DataW.trod enc P w base (fun _ => true) held n' f0.type [q0] = some ya from a0)
        obtain ⟨A, L, C, zs, e1, w1⟩ := bytes_of u1 uu uc (show DataW.trod enc P w base (fun _ => true) held n' f1.type [q1] = some yb from a1)
        simp at e0
        subst e0
        subst e1
        have h0 := hat 0 (by omega)
        have h1 := hat 1 (by omega)
        refine ⟨⟨v0, A, L, C, _⟩, ⟨?_, by simpa using h1⟩, rd_of_row w1, byt_of_row w1⟩
        have e : (ad.add (i * 2)).add 0 = ad.add (i * 2) := by simp [Addr.add]
        rw [e] at h0
        simpa using h0
    obtain ⟨F, hF⟩ := choose_lt key
    refine ⟨F, hl, hm, fun e => (by cases e), fun hn => ?_, fun i hi => (hF i hi).2⟩
    obtain ⟨b, off, spot⟩ := ad
    have h0 := (hF 0 hn).1.1
    have hs : spot = none := by simpa [Addr.add] using World.cell?_spot h0
    subst hs
    refine ⟨b, off, rfl, fun i hi => ?_⟩
    have := (hF i hi).1
    rw [Addr.add_lit, Addr.add_lit] at this
    exact this
end
theorem large36 {w : World} {A : Option Addr} {n c : Nat} {F : Nat → Dd} (ha : RdD w A n c F) :
    Calls Try.prog 84 #[.slice A n c] w fun e w' => (e = .returned (.bool true) ∨ (e = .returned (.bool false) ∧ n ≤ 60)) ∧ w = w' := by
  have hn63 : (n : Int) ≤ 9223372036854775807 := by have h1 := ha.1; have h2 := ha.2.1; simp only [maxLen] at h2; omega
  have Ha := hide ha
  clear ha
  by_cases h60 : 60 < n
  · have hd : decide ((60 : Int) < (n : Int)) = true := decide_eq_true (by omega)
    go_enter Try.func84, Try.ntmps84
    go_wp2
    go_ret
    exact ⟨.inl rfl, rfl⟩
  have hd : decide ((60 : Int) < (n : Int)) = false := decide_eq_false (by omega)
  go_enter Try.func84, Try.ntmps84
  go_wp2
  go_loopw [3] (fun i wr => ∃ k : Nat, k ≤ n ∧ i = .int .i64 k ∧ wr = w) (fun i _ => n - (intOf i).toNat)
  case atStart => exact ⟨0, Nat.zero_le _, rfl, rfl⟩
  case round =>
    obtain ⟨k, hk, rfl, rfl⟩ := hrel
    by_cases hlt : k < n
    · obtain ⟨b, off, rfl, hc0, hc1, hr, _⟩ := Ha.out.at_ hlt
      by_cases hl : 100 < (F k).n
      · have hd2 : decide ((100 : Int) < ((F k).n : Int)) = true := decide_eq_true (by omega)
        clear hl
        go_wp2
        go_ret
        exact ⟨.inl rfl, rfl⟩
      · have hd2 : decide ((100 : Int) < ((F k).n : Int)) = false := decide_eq_false (by omega)
        clear hl
        go_wp2
        go_roundw
        case rel => exact ⟨k + 1, by omega, by go_num, trivial⟩
        case measure => simp [intOf]; omega
    · obtain rfl : n = k := by omega
      go_wp2
      go_ret
      exact ⟨.inr ⟨rfl, by omega⟩, rfl⟩
theorem new36N (m : Int) (h0 : m < 0) (w : World) : Calls Try.prog 86 #[.int .i64 m] w fun e w' => e = .returned (.pointer (some ⟨w.heap.size + 1, 0, none⟩)) ∧ w' = (w.alloc (.map #[] 0)).alloc (.cells #[.int .i64 0, .map (some w.heap.size), .int .i64 0] 215) := by
  have d0 : decide (m < 0) = true := decide_eq_true h0
  have hmk := @run_makeMap Try.prog
  go_enter Try.func86, Try.ntmps86
  go_wp2
  go_ret
  exact ⟨rfl, rfl⟩
theorem newAny36 (m : Int) (w : World) : Calls Try.prog 86 #[.int .i64 m] w fun e w' => e = .returned (.pointer (some ⟨w.heap.size + 1, 0, none⟩)) ∧ w' = (w.alloc (.map #[] 0)).alloc (.cells #[.int .i64 (max m 0), .map (some w.heap.size), .int .i64 0] 215) := by
  by_cases h : 0 ≤ m
  · rw [Int.max_eq_left h]
    exact new36 m h w
  · rw [Int.max_eq_right (by omega)]
    exact new36N m (by omega) w
/-- Rows of eight bytes, each in a block of its own. -/
def slS (S C : Nat → Nat) : Nat → Value := fun i => .slice (some ⟨S i, 0, none⟩) 8 (C i)
def appN (n : Nat) (S : Nat → Nat) (x : Nat) : Nat → Nat := fun i => if i < n then S i else x
def delN (i : Nat) (S : Nat → Nat) : Nat → Nat := fun k => if k < i then S k else S (k + 1)
theorem slS_app (n : Nat) (S C : Nat → Nat) (x y : Nat) : catV (n * 1) (slS S C) (fun _ => .slice (some ⟨x, 0, none⟩) 8 y) = slS (appN n S x) (appN n C y) := by
  funext i
  unfold catV slS appN
  rw [Nat.mul_one]
  by_cases h : i < n
  · simp only [if_pos h]
  · simp only [if_neg h]
theorem slS_two (S C : Nat → Nat) (q : Nat) : catV ((0 + q) * 1) (catV (0 * 1) (slS S C) (slS S C)) (fun i => slS S C ((q + 1) * 1 + i)) = slS (delN q S) (delN q C) := by
  funext i
  unfold catV slS delN
  simp only [Nat.mul_one, Nat.zero_add, Nat.sub_zero, Nat.not_lt_zero, if_false]
  by_cases h : i < q
  · simp only [if_pos h]
  · simp only [if_neg h]
    rw [show q + 1 + (i - q) = i + 1 by omega]
theorem rows36_info : (Try.prog.info? 22).map (fun i => (i.zero, i.size, i.bytes)) = some (some (.slice none 0 0), 1, 24) := by kernel_rfl
theorem u8_info36 : (Try.prog.info? 5).map (fun i => (i.zero, i.size, i.bytes)) = some (some (.int .u8 0), 1, 1) := by kernel_rfl
theorem slS_zero (S C : Nat → Nat) (F : Nat → Value) : catV (0 * 1) F (slS S C) = slS S C := by
  funext i
  unfold catV
  simp
theorem cntA_none (L : Nat → Nat → Int) {n : Nat} {k : List Int} (h : ∀ i, i < n → kl (L i) ≠ k) : cntA L n k = 0 := by
  induction n with
  | zero => rfl
  | succ n ih =>
    show cntA L n k + _ = 0
    rw [ih fun i hi => h i (by omega), if_neg (h n (by omega))]
    rfl
theorem kl_same {n2 : Nat} {f g : Nat → Int} (h : n2 = 8) (e : kl f = kl g) : sameB 8 n2 f g = true := sameB_yes h.symm (kl_inj e)
theorem kl_of_same {n2 : Nat} {f g : Nat → Int} (h : sameB 8 n2 f g = true) : n2 = 8 ∧ kl f = kl g := by
  obtain ⟨h1, h2⟩ := sameB_of h
  exact ⟨h1.symm, kl_congr h2⟩
theorem RdV.cutOne {w : World} {b off n c : Nat} {F : Nat → Value} (h : RdV 1 w (some ⟨b, off, none⟩) n c F) {lo : Nat} (h1 : lo ≤ n) : RdV 1 w (if c = lo then some ⟨b, off, none⟩ else some ⟨b, off + lo, none⟩) (n - lo) (c - lo) (fun i => F (lo * 1 + i)) := by
  have := h.cut36 h1
  rwa [Nat.mul_one] at this ⊢
end Go.Proofs.Yteikpdolickkaaa
