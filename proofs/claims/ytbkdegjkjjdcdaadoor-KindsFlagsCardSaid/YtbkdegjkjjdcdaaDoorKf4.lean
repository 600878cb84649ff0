/- Layer 8: the walk of the law on flags. -/
import Derived.Test.YtbkdegjkjjdcdaaDoorKf3
import Derived.Test.YtbkdegjkjjdcdaaDoorLaid
namespace Go.Proofs.YtbkdegjkjjdcdaaDoor
set_option linter.unusedVariables false
set_option linter.unusedSimpArgs false
open Go.RowKit Go.PlainAid

/-- The sum of the flags that a type uses, up to the j-th. -/
def puF (t : Int) : Nat → Int
  | 0 => 0
  | j + 1 => puF t j + (if uxB t (pw2 j) = true then pw2 j else 0)
theorem puF_in (t : Int) : ∀ j, j ≤ 6 → 0 ≤ puF t j ∧ puF t j + pw2 j ≤ 1000
  | 0, _ => ⟨Int.le_refl _, by show (0 : Int) + 1 ≤ 1000; omega⟩
  | j + 1, h => by
    have h1 := puF_in t j (by omega)
    have h2 : j = 0 ∨ j = 1 ∨ j = 2 ∨ j = 3 ∨ j = 4 ∨ j = 5 := by omega
    have h3 : 0 ≤ puF t j ∧ puF t j ≤ 63 * j → 0 ≤ puF t (j + 1) ∧ puF t (j + 1) ≤ 63 * (j + 1) := by
      intro k
      have e : puF t (j + 1) = puF t j + (if uxB t (pw2 j) = true then pw2 j else 0) := rfl
      rw [e]
      have p : 0 ≤ pw2 j ∧ pw2 j ≤ 32 := by rcases h2 with rfl | rfl | rfl | rfl | rfl | rfl <;> decide
      split <;> omega
    have h4 : ∀ i, i ≤ 6 → 0 ≤ puF t i ∧ puF t i ≤ 63 * i := by
      intro i
      induction i with
      | zero => intro _; exact ⟨Int.le_refl _, Int.le_refl _⟩
      | succ i ih =>
        intro hi
        have k := ih (by omega)
        have e : puF t (i + 1) = puF t i + (if uxB t (pw2 i) = true then pw2 i else 0) := rfl
        rw [e]
        have h2 : i = 0 ∨ i = 1 ∨ i = 2 ∨ i = 3 ∨ i = 4 ∨ i = 5 := by omega
        have p : 0 ≤ pw2 i ∧ pw2 i ≤ 32 := by rcases h2 with rfl | rfl | rfl | rfl | rfl | rfl <;> decide
        split <;> omega
    have h5 := h4 (j + 1) h
    have p : pw2 (j + 1) ≤ 64 := by rcases h2 with rfl | rfl | rfl | rfl | rfl | rfl <;> decide
    omega
theorem puF_6 (t : Int) : puF t 6 = ((usedN t : Nat) : Int) := by
  have e : puF t 6 = (((((0 + (if uxB t 1 = true then 1 else 0)) + (if uxB t 2 = true then 2 else 0)) + (if uxB t 4 = true then 4 else 0)) + (if uxB t 8 = true then 8 else 0)) + (if uxB t 16 = true then 16 else 0)) + (if uxB t 32 = true then 32 else 0) := rfl
  rw [e]
  have e1 : uxB t 1 = (usedN t).testBit 0 := rfl
  have e2 : uxB t 2 = false := rfl
  have e4 : uxB t 4 = (usedN t).testBit 2 := rfl
  have e8 : uxB t 8 = (usedN t).testBit 3 := rfl
  have e16 : uxB t 16 = false := rfl
  have e32 : uxB t 32 = (usedN t).testBit 5 := rfl
  rw [e1, e2, e4, e8, e16, e32]
  have hu : usedN t = 0 ∨ usedN t = 9 ∨ usedN t = 45 ∨ usedN t = 1 ∨ usedN t = 12 ∨ usedN t = 4 := by
    unfold usedN
    (repeat' split) <;> simp
  rcases hu with h | h | h | h | h | h <;> rw [h] <;> decide
set_option maxRecDepth 20000 in
set_option maxHeartbeats 1600000 in
theorem flags_walk08 (t fl x : Int) (w : World) (hf : fl ≤ 9223372036854775807) (hx : -9223372036854775808 ≤ x ∧ x ≤ 9223372036854775807) : Calls Tryd.prog 3 #[.int .i64 t, .int .i64 fl, .int .i64 x] w (Yes8 w) := by
  go_enter Tryd.func3, Tryd.ntmps3
  go_wp2_with fail
  go_loopw [7, 8] (fun u i wr => ∃ j : Nat, j ≤ 6 ∧ u = .int .i64 (puF t j) ∧ i = .int .i64 (pw2 j) ∧ wr = w) (fun _ i _ => 64 - (intOf i).toNat)
  case atStart => exact ⟨0, Nat.zero_le _, rfl, rfl, rfl⟩
  case round =>
    obtain ⟨j, hj, rfl, rfl, rfl⟩ := hrel
    by_cases hlt : j < 6
    · obtain ⟨y, hy⟩ : ∃ y, pw2 j = y := ⟨_, rfl⟩
      obtain ⟨p1, p2, p3⟩ := pw2_le j hlt
      obtain ⟨q1, q2⟩ := puF_in t j hj
      obtain ⟨u, hu⟩ : ∃ u, puF t j = u := ⟨_, rfl⟩
      have HU : Hid (∀ W, Calls Tryd.prog 7 #[.int .i64 t, .int .i64 y] W fun e w' => e = .returned (.bool (uxB t y)) ∧ W = w') := fun W => kruses_any t y W
      have HP : Hid (puF t (j + 1) = u + (if uxB t y = true then y else 0)) := by
        show _ = _
        rw [← hy, ← hu]
        rfl
      rw [hy] at p1 p2 p3 q2 ⊢
      rw [hu] at q1 q2 ⊢
      have HN : Hid (2 * y = pw2 (j + 1)) := by
        show _ = _
        omega
      have d1 : decide (y < 64) = true := decide_eq_true (by omega)
      have e1 : IntKind.i64.wrap (2 * y) = 2 * y := IntWalk.i64_in _ (by omega)
      have e2 : IntKind.i64.wrap (u + y) = u + y := IntWalk.i64_in _ (by omega)
      clear hy hu p3 q1 q2 hf hx
      obtain ⟨b, hb⟩ : ∃ b, uxB t y = b := ⟨_, rfl⟩
      rw [hb] at HP HU
      clear hb
      cases b with
      | false =>
        have HP2 : Hid (puF t (j + 1) = u) := by
          show _ = _
          rw [HP.out, if_neg (by decide), Int.add_zero]
        clear HP
        go_wp2_with fail
        refine (HU.out _).mono ?_
        rintro e w1 ⟨rfl, rfl⟩
        go_wp2_with fail
        first
          | (refine ⟨⟨j + 1, by omega, by rw [HP2.out], by rw [← HN.out], by first | rfl | trivial⟩, ?_⟩; simp [intOf]; omega)
          | (go_roundw
             case rel => exact ⟨j + 1, by omega, by rw [HP2.out], by rw [← HN.out], by first | rfl | trivial⟩
             case measure => simp [intOf]; omega)
      | true =>
        have HP2 : Hid (puF t (j + 1) = u + y) := by
          show _ = _
          rw [HP.out, if_pos rfl]
        clear HP
        go_wp2_with fail
        refine (HU.out _).mono ?_
        rintro e w1 ⟨rfl, rfl⟩
        go_wp2_with fail
        first
          | (refine ⟨⟨j + 1, by omega, by rw [HP2.out], by rw [← HN.out], by first | rfl | trivial⟩, ?_⟩; simp [intOf]; omega)
          | (go_roundw
             case rel => exact ⟨j + 1, by omega, by rw [HP2.out], by rw [← HN.out], by first | rfl | trivial⟩
             case measure => simp [intOf]; omega)
    · obtain rfl : j = 6 := by omega
      have e64 : pw2 6 = 64 := rfl
      rw [e64, puF_6]
      have H1 := hide (fun W => used8 t W)
      have H2 := hide (fun W => khas_any t fl x hf hx W)
      have H3 := hide (fun W => krhas_any t fl x hf W)
      have H4 := hide (fun W => kflags_any t fl hf W)
      have H5 := hide (fun W => rflags_any t fl hf W)
      generalize usedN t = un at *
      generalize hxB t fl x = bx at *
      clear hf hx hlt hj
      cases bx
      · go_wp2_with (first
          | (go_at_call 8; refine (H1.out _).mono ?_; rintro e w' ⟨rfl, rfl⟩)
          | (go_at_call 9; refine (H2.out _).mono ?_; rintro e w' ⟨rfl, rfl⟩)
          | (go_at_call 10; refine (H3.out _).mono ?_; rintro e w' ⟨rfl, rfl⟩)
          | fail)
        refine (H4.out _).mono ?_
        rintro e w1 ⟨A1, c1, rfl, hr1, hb1⟩
        have HR1 := hide hr1
        have HB1 := hide hb1
        clear hr1 hb1
        go_wp2_with fail
        refine (H5.out _).mono ?_
        rintro e w2 ⟨A2, c2, rfl, hr2, hb2⟩
        have HR1b := hide (rdV_below HR1.out hb2)
        have HR2 := hide hr2
        have HB2 := hide (HB1.out.trans (hb2.mono HB1.out.size))
        clear hr2 hb2
        go_wp2_with fail
        refine (strs_same _ _ _ _ _ _ _ HR1b.out HR2.out).mono ?_
        rintro e w3 ⟨rfl, hd3⟩
        have HB3 := hide (HB2.out.trans (drawn_below hd3 _))
        clear hd3
        go_wp2_with fail
        refine (alive8 _).mono ?_
        rintro e w4 ⟨rfl, hb4⟩
        have HB4 := hide (HB3.out.trans (hb4.mono HB3.out.size))
        clear hb4
        go_wp2_with fail
        go_ret
        exact ⟨rfl, HB4.out⟩
      · go_wp2_with (first
          | (go_at_call 8; refine (H1.out _).mono ?_; rintro e w' ⟨rfl, rfl⟩)
          | (go_at_call 9; refine (H2.out _).mono ?_; rintro e w' ⟨rfl, rfl⟩)
          | (go_at_call 10; refine (H3.out _).mono ?_; rintro e w' ⟨rfl, rfl⟩)
          | fail)
        refine (H4.out _).mono ?_
        rintro e w1 ⟨A1, c1, rfl, hr1, hb1⟩
        have HR1 := hide hr1
        have HB1 := hide hb1
        clear hr1 hb1
        go_wp2_with fail
        refine (H5.out _).mono ?_
        rintro e w2 ⟨A2, c2, rfl, hr2, hb2⟩
        have HR1b := hide (rdV_below HR1.out hb2)
        have HR2 := hide hr2
        have HB2 := hide (HB1.out.trans (hb2.mono HB1.out.size))
        clear hr2 hb2
        go_wp2_with fail
        refine (strs_same _ _ _ _ _ _ _ HR1b.out HR2.out).mono ?_
        rintro e w3 ⟨rfl, hd3⟩
        have HB3 := hide (HB2.out.trans (drawn_below hd3 _))
        clear hd3
        go_wp2_with fail
        refine (alive8 _).mono ?_
        rintro e w4 ⟨rfl, hb4⟩
        have HB4 := hide (HB3.out.trans (hb4.mono HB3.out.size))
        clear hb4
        go_wp2_with fail
        go_ret
        exact ⟨rfl, HB4.out⟩
end Go.Proofs.YtbkdegjkjjdcdaaDoor
