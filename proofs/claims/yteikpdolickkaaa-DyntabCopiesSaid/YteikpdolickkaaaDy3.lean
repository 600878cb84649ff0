/- Layer 21: Resize, Add, At. -/
import Derived.Test.YteikpdolickkaaaDy2
namespace Go.Proofs.Yteikpdolickkaaa
open Go.RowKit Go.Deep

theorem TOk.setMax {B : Nat} {w : World} {p : Nat} {g : Option Nat} {n max : Nat} {F : Nat → Fd} (h : TOk B w p g n max F) (x : Nat) (hx : x ≤ 2147483647) : TOk B (w.setCell ⟨p, 2, none⟩ (.int .i64 (x : Int))) p g n x F := by
  obtain ⟨⟨v, h1, h2, h3⟩, h4, h5, h6, h7⟩ := h
  refine ⟨⟨v, ?_, h2, h3.setCell (h2 ▸ h5) 2 _⟩, h4, h5, hx, h7⟩
  have := setRow w p 2 (.int .i64 (x : Int)) h1
  simpa using this
theorem resizeNo21 {w : World} {p : Nat} (x : Int) (hx : ¬ (0 ≤ x ∧ x ≤ 2147483647)) :
    Calls Try.prog 26 #[.pointer (some ⟨p, 0, none⟩), .int .i64 x] w fun e w' => e = .returned (.int .i64 1) ∧ w = w' := by
  go_enter Try.func26, Try.ntmps26
  go_wp2_with fail
  refine (isMax21 x w).mono ?_
  rintro e w0 ⟨rfl, rfl⟩
  rw [decide_eq_false hx]
  go_wp2_with fail
  go_ret
  exact ⟨rfl, rfl⟩
set_option maxRecDepth 20000 in
theorem resize21 {B : Nat} {w : World} {p : Nat} {g : Option Nat} {n max : Nat} {F : Nat → Fd} (h : TOk B w p g n max F) (hB : B ≤ w.heap.size) (hn : n ≤ 100) (x : Nat) (hx : x ≤ 2147483647) :
    Calls Try.prog 26 #[.pointer (some ⟨p, 0, none⟩), .int .i64 (x : Int)] w fun e w' => ∃ j, e = .returned (.int .i64 0) ∧ j ≤ n ∧ (∀ i, i < j → (x : Int) < (sumW (shF i F) (n - i) : Int)) ∧ (j = n ∨ (sumW (shF j F) (n - j) : Int) ≤ (x : Int)) ∧ TOk B w' p g (n - j) x (shF j F) ∧ FrO B (tfp p g) w w' := by
  have H1 := hide (h.setMax x hx)
  obtain ⟨A, c, h1, _, _⟩ := h.row
  have f2 := frozenRow h1 2
  obtain ⟨c0, c1, c2⟩ := rowT h1
  have hp := h.hp
  have HB := hide hB
  clear h h1 hB
  go_enter Try.func26, Try.ntmps26
  go_wp2_with fail
  refine (isMax21 (x : Int) w).mono ?_
  rintro e w0 ⟨rfl, rfl⟩
  rw [decide_eq_true (show (0 : Int) ≤ (x : Int) ∧ (x : Int) ≤ 2147483647 by omega)]
  go_wp2_with fail
  refine (shrink21 H1.out (by have := HB.out; simpa [World.setCell] using this) (x : Int) hn).mono ?_
  rintro e w2 ⟨j, rfl, hj, h2, h3, h4, h5⟩
  go_wp2_with fail
  go_ret
  exact ⟨j, rfl, hj, h2, h3, h4, (FrO.set (S := tfp p g) _ p 2 _ hp (.inl rfl)).step h5 fun i hi => .inl hi⟩
def fd0 : Fd := ⟨⟨#[]⟩, ⟨#[]⟩, false⟩
set_option maxRecDepth 20000 in
set_option maxHeartbeats 800000 in
theorem atNo21 {B : Nat} {w : World} {p : Nat} {g : Option Nat} {n max : Nat} {F : Nat → Fd} (h : TOk B w p g n max F) (i : Int) (hi : i < 1 ∨ (n : Int) < i) :
    Calls Try.prog 29 #[.pointer (some ⟨p, 0, none⟩), .int .i64 i] w fun e w' => e = .returned (.tuple #[.agg #[.string ⟨#[]⟩, .string ⟨#[]⟩, .bool false], .bool false]) ∧ Below w.heap.size w w' := by
  have al := (Below.refl w.heap.size w).alloc (Nat.le_refl _) (.cells #[.string ⟨#[]⟩, .string ⟨#[]⟩, .bool false] 52)
  have R := heap_alloc_new w (.cells #[.string ⟨#[]⟩, .string ⟨#[]⟩, .bool false] 52)
  have H := hide (h.below al)
  obtain ⟨c0, c1, c2⟩ := rowT R
  have E := hide al
  clear h al R
  by_cases h1 : i < 1
  · have hd : decide (i < 1) = true := decide_eq_true h1
    clear h1 hi
    go_enter Try.func29, Try.ntmps29
    go_wp2_with fail
    refine bodyPost_ret (v := .tuple #[.agg #[.string ⟨#[]⟩, .string ⟨#[]⟩, .bool false], .bool false]) ?_ rfl ⟨rfl, ?_⟩
    · rw [results_cell_tmp rfl]
      go_simp
    · go_grown
  · have hd : decide (i < 1) = false := decide_eq_false h1
    have hd2 : decide ((n : Int) < i) = true := decide_eq_true (by omega)
    clear h1 hi
    go_enter Try.func29, Try.ntmps29
    go_wp2_with fail
    refine (len21 H.out).mono ?_
    rintro e w0 ⟨rfl, rfl⟩
    go_wp2_with fail
    refine bodyPost_ret (v := .tuple #[.agg #[.string ⟨#[]⟩, .string ⟨#[]⟩, .bool false], .bool false]) ?_ rfl ⟨rfl, ?_⟩
    · rw [results_cell_tmp rfl]
      go_simp
    · go_grown
set_option maxRecDepth 20000 in
set_option maxHeartbeats 1600000 in
theorem at21 {B : Nat} {w : World} {p : Nat} {g : Option Nat} {n max : Nat} {F : Nat → Fd} (h : TOk B w p g n max F) (hn : n ≤ 1000) (k : Nat) (hk : k < n) (i : Int) (hi : i = (n : Int) - (k : Int)) :
    Calls Try.prog 29 #[.pointer (some ⟨p, 0, none⟩), .int .i64 i] w fun e w' => e = .returned (.tuple #[.agg #[.string (F k).name, .string (F k).val, .bool (F k).nev], .bool true]) ∧ Below w.heap.size w w' := by
  have al := (Below.refl w.heap.size w).alloc (Nat.le_refl _) (.cells #[.string ⟨#[]⟩, .string ⟨#[]⟩, .bool false] 52)
  have R := heap_alloc_new w (.cells #[.string ⟨#[]⟩, .string ⟨#[]⟩, .bool false] 52)
  have H := hide (h.below al)
  obtain ⟨A, c, h1, h2, h3⟩ := h.row
  obtain ⟨b, off, rfl, hc⟩ := h3.rdS.2.2.2 (by omega)
  have q0 := hc (k * 3) (by omega)
  have q1 := hc (k * 3 + 1) (by omega)
  have q2 := hc (k * 3 + 2) (by omega)
  rw [fdV_0] at q0
  rw [fdV_1, ← Nat.add_assoc] at q1
  rw [fdV_2, ← Nat.add_assoc] at q2
  have s0 := (al.cell (World.block_lt_of_cell? w _ q0)).trans q0
  have s1 := (al.cell (World.block_lt_of_cell? w _ q1)).trans q1
  have s2 := (al.cell (World.block_lt_of_cell? w _ q2)).trans q2
  obtain ⟨t0, t1, t2⟩ := rowT (keepRow h1 al)
  obtain ⟨c0, c1, c2⟩ := rowT R
  have z0 := frozenRow R 0
  have z1 := frozenRow R 1
  have z2 := frozenRow R 2
  have hd : decide (i < 1) = false := decide_eq_false (by omega)
  have hd2 : decide ((n : Int) < i) = false := decide_eq_false (by omega)
  have hw : IntKind.i64.wrap ((n : Int) - i) = (k : Int) := by rw [IntWalk.i64_in _ (by omega)]; omega
  have hkn : (k : Int) < (n : Int) := by omega
  have hcn := h3.rdS.1
  have E := hide al
  generalize F k = fk at *
  obtain ⟨nm, vl, nv⟩ := fk
  simp only at q0 q1 q2 s0 s1 s2
  clear h al R hc h1 h3 hi
  have hp0 := Nat.le_refl w.heap.size
  go_enter Try.func29, Try.ntmps29
  go_wp2_with fail
  generalize w.alloc (.cells #[.string ⟨#[]⟩, .string ⟨#[]⟩, .bool false] 52) = W0 at *
  refine (len21 H.out).mono ?_
  rintro e w0 ⟨rfl, rfl⟩
  go_wp2_with fail
  go_still_tail 13, (by kernel_rfl)
  change wpList _ _ _ _ _ W0.drew
  go_wp2_with fail
  refine bodyPost_ret (v := .tuple #[.agg #[.string nm, .string vl, .bool nv], .bool true]) ?_ rfl ⟨rfl, (((E.out.drew.setCell hp0 _).setCell hp0 _).setCell hp0 _)⟩
  rw [results_cell_tmp rfl]
  go_simp
end Go.Proofs.Yteikpdolickkaaa
