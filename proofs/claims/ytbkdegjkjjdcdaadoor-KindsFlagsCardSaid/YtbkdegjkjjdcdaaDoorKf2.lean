/- Layer 8: which flags a type uses, and which of these some flags have, any numbers. -/
import Derived.Test.YtbkdegjkjjdcdaaDoorKf1
namespace Go.Proofs.YtbkdegjkjjdcdaaDoor
set_option linter.unusedVariables false
set_option linter.unusedSimpArgs false
open Go.RowKit Go.PlainAid

theorem kused_bit0 (t : Int) : (usedN t).testBit 0 = ((t == 0) || ((t == 1) || ((t == 4) || (t == 6)))) := by
  by_cases h : 0 ≤ t ∧ t < 10
  · have : t = 0 ∨ t = 1 ∨ t = 2 ∨ t = 3 ∨ t = 4 ∨ t = 5 ∨ t = 6 ∨ t = 7 ∨ t = 8 ∨ t = 9 := by omega
    rcases this with rfl | rfl | rfl | rfl | rfl | rfl | rfl | rfl | rfl | rfl <;> decide
  · rw [usedN_out h]
    have n0 : (t == 0) = false := by simp; omega
    have n1 : (t == 1) = false := by simp; omega
    have n4 : (t == 4) = false := by simp; omega
    have n5 : (t == 5) = false := by simp; omega
    have n6 : (t == 6) = false := by simp; omega
    have n9 : (t == 9) = false := by simp; omega
    simp [n0, n1, n4, n5, n6, n9]
set_option maxHeartbeats 1600000 in
theorem kruses_1 (t : Int) (w : World) : Calls Tryd.prog 7 #[.int .i64 t, .int .i64 1] w fun e w' => e = .returned (.bool ((usedN t).testBit 0)) ∧ w = w' := by
  rw [kused_bit0]
  go_enter Tryd.func7, Tryd.ntmps7
  go_wp2
  all_goals
    go_ret
    simp_all [Bool.or_assoc]
set_option maxHeartbeats 1600000 in
theorem krhas_1 (t fl : Int) (hf : fl ≤ 9223372036854775807) (w : World) : Calls Tryd.prog 10 #[.int .i64 t, .int .i64 fl, .int .i64 1] w fun e w' => e = .returned (.bool (hsB t fl 0)) ∧ w = w' := by
  obtain ⟨u, hu⟩ : ∃ u, (usedN t).testBit 0 = u := ⟨_, rfl⟩
  have H2 : Hid (∀ W : World, Calls Tryd.prog 7 #[.int .i64 t, .int .i64 1] W fun e w' => e = .returned (.bool u) ∧ W = w') := fun W => by rw [← hu]; exact kruses_1 t W
  by_cases h0 : 0 ≤ fl
  · obtain ⟨b, hb⟩ : ∃ b, fl.toNat.testBit 0 = b := ⟨_, rfl⟩
    have HB : Hid (hsB t fl 0 = (u && b)) := by
      show _ = _
      unfold hsB
      rw [hu, hb, decide_eq_true h0, Bool.true_and]
    have d1 : decide ((0 : Int) ≤ fl) = true := decide_eq_true h0
    obtain ⟨qz, hq⟩ : ∃ qz, Int.tdiv fl 1 = qz := ⟨_, rfl⟩
    obtain ⟨dz, hd⟩ : ∃ dz, Int.tmod qz 2 = dz := ⟨_, rfl⟩
    have hqv : qz = fl / 1 := by rw [← hq, Int.tdiv_eq_ediv_of_nonneg h0]
    have hdv : dz = qz % 2 := by rw [← hd, Int.tmod_eq_emod_of_nonneg (by omega)]
    have hbit : (dz == 1) = b := by
      rw [← hb, Nat.testBit_eq_decide_div_mod_eq]
      have e : dz = ((fl.toNat / 2 ^ 0 % 2 : Nat) : Int) := by
        have e2 : (2 : Nat) ^ 0 = 1 := by decide
        rw [e2]
        omega
      rw [e]
      generalize fl.toNat / 2 ^ 0 = M
      rcases Nat.mod_two_eq_zero_or_one M with h | h <;> rw [h] <;> rfl
    have w1 : IntKind.i64.wrap qz = qz := IntWalk.i64_in _ (by omega)
    have w2 : IntKind.i64.wrap dz = dz := IntWalk.i64_in _ (by omega)
    clear hu hb hqv hdv
    go_enter Tryd.func10, Tryd.ntmps10
    cases u with
    | false =>
      go_wp2_with (go_at_call 7; refine (H2.out _).mono ?_; rintro e w' ⟨rfl, rfl⟩)
      go_ret
      exact ⟨by rw [HB.out]; rfl, rfl⟩
    | true =>
      go_wp2_with (go_at_call 7; refine (H2.out _).mono ?_; rintro e w' ⟨rfl, rfl⟩)
      go_ret
      exact ⟨by rw [HB.out]; rfl, rfl⟩
  · have HB : Hid (hsB t fl 0 = false) := by
      show _ = _
      unfold hsB
      rw [decide_eq_false h0, Bool.false_and]
    have d1 : decide ((0 : Int) ≤ fl) = false := decide_eq_false h0
    clear h0 hu
    go_enter Tryd.func10, Tryd.ntmps10
    cases u with
    | false =>
      go_wp2_with (go_at_call 7; refine (H2.out _).mono ?_; rintro e w' ⟨rfl, rfl⟩)
      go_ret
      exact ⟨by rw [HB.out]; rfl, rfl⟩
    | true =>
      go_wp2_with (go_at_call 7; refine (H2.out _).mono ?_; rintro e w' ⟨rfl, rfl⟩)
      go_ret
      exact ⟨by rw [HB.out]; rfl, rfl⟩
theorem kused_bit2 (t : Int) : (usedN t).testBit 2 = ((t == 1) || ((t == 5) || (t == 9))) := by
  by_cases h : 0 ≤ t ∧ t < 10
  · have : t = 0 ∨ t = 1 ∨ t = 2 ∨ t = 3 ∨ t = 4 ∨ t = 5 ∨ t = 6 ∨ t = 7 ∨ t = 8 ∨ t = 9 := by omega
    rcases this with rfl | rfl | rfl | rfl | rfl | rfl | rfl | rfl | rfl | rfl <;> decide
  · rw [usedN_out h]
    have n0 : (t == 0) = false := by simp; omega
    have n1 : (t == 1) = false := by simp; omega
    have n4 : (t == 4) = false := by simp; omega
    have n5 : (t == 5) = false := by simp; omega
    have n6 : (t == 6) = false := by simp; omega
    have n9 : (t == 9) = false := by simp; omega
    simp [n0, n1, n4, n5, n6, n9]
set_option maxHeartbeats 1600000 in
theorem kruses_4 (t : Int) (w : World) : Calls Tryd.prog 7 #[.int .i64 t, .int .i64 4] w fun e w' => e = .returned (.bool ((usedN t).testBit 2)) ∧ w = w' := by
  rw [kused_bit2]
  go_enter Tryd.func7, Tryd.ntmps7
  go_wp2
  all_goals
    go_ret
    simp_all [Bool.or_assoc]
set_option maxHeartbeats 1600000 in
theorem krhas_4 (t fl : Int) (hf : fl ≤ 9223372036854775807) (w : World) : Calls Tryd.prog 10 #[.int .i64 t, .int .i64 fl, .int .i64 4] w fun e w' => e = .returned (.bool (hsB t fl 2)) ∧ w = w' := by
  obtain ⟨u, hu⟩ : ∃ u, (usedN t).testBit 2 = u := ⟨_, rfl⟩
  have H2 : Hid (∀ W : World, Calls Tryd.prog 7 #[.int .i64 t, .int .i64 4] W fun e w' => e = .returned (.bool u) ∧ W = w') := fun W => by rw [← hu]; exact kruses_4 t W
  by_cases h0 : 0 ≤ fl
  · obtain ⟨b, hb⟩ : ∃ b, fl.toNat.testBit 2 = b := ⟨_, rfl⟩
    have HB : Hid (hsB t fl 2 = (u && b)) := by
      show _ = _
      unfold hsB
      rw [hu, hb, decide_eq_true h0, Bool.true_and]
    have d1 : decide ((0 : Int) ≤ fl) = true := decide_eq_true h0
    obtain ⟨qz, hq⟩ : ∃ qz, Int.tdiv fl 4 = qz := ⟨_, rfl⟩
    obtain ⟨dz, hd⟩ : ∃ dz, Int.tmod qz 2 = dz := ⟨_, rfl⟩
    have hqv : qz = fl / 4 := by rw [← hq, Int.tdiv_eq_ediv_of_nonneg h0]
    have hdv : dz = qz % 2 := by rw [← hd, Int.tmod_eq_emod_of_nonneg (by omega)]
    have hbit : (dz == 1) = b := by
      rw [← hb, Nat.testBit_eq_decide_div_mod_eq]
      have e : dz = ((fl.toNat / 2 ^ 2 % 2 : Nat) : Int) := by
        have e2 : (2 : Nat) ^ 2 = 4 := by decide
        rw [e2]
        omega
      rw [e]
      generalize fl.toNat / 2 ^ 2 = M
      rcases Nat.mod_two_eq_zero_or_one M with h | h <;> rw [h] <;> rfl
    have w1 : IntKind.i64.wrap qz = qz := IntWalk.i64_in _ (by omega)
    have w2 : IntKind.i64.wrap dz = dz := IntWalk.i64_in _ (by omega)
    clear hu hb hqv hdv
    go_enter Tryd.func10, Tryd.ntmps10
    cases u with
    | false =>
      go_wp2_with (go_at_call 7; refine (H2.out _).mono ?_; rintro e w' ⟨rfl, rfl⟩)
      go_ret
      exact ⟨by rw [HB.out]; rfl, rfl⟩
    | true =>
      go_wp2_with (go_at_call 7; refine (H2.out _).mono ?_; rintro e w' ⟨rfl, rfl⟩)
      go_ret
      exact ⟨by rw [HB.out]; rfl, rfl⟩
  · have HB : Hid (hsB t fl 2 = false) := by
      show _ = _
      unfold hsB
      rw [decide_eq_false h0, Bool.false_and]
    have d1 : decide ((0 : Int) ≤ fl) = false := decide_eq_false h0
    clear h0 hu
    go_enter Tryd.func10, Tryd.ntmps10
    cases u with
    | false =>
      go_wp2_with (go_at_call 7; refine (H2.out _).mono ?_; rintro e w' ⟨rfl, rfl⟩)
      go_ret
      exact ⟨by rw [HB.out]; rfl, rfl⟩
    | true =>
      go_wp2_with (go_at_call 7; refine (H2.out _).mono ?_; rintro e w' ⟨rfl, rfl⟩)
      go_ret
      exact ⟨by rw [HB.out]; rfl, rfl⟩
theorem kused_bit3 (t : Int) : (usedN t).testBit 3 = ((t == 0) || ((t == 1) || (t == 5))) := by
  by_cases h : 0 ≤ t ∧ t < 10
  · have : t = 0 ∨ t = 1 ∨ t = 2 ∨ t = 3 ∨ t = 4 ∨ t = 5 ∨ t = 6 ∨ t = 7 ∨ t = 8 ∨ t = 9 := by omega
    rcases this with rfl | rfl | rfl | rfl | rfl | rfl | rfl | rfl | rfl | rfl <;> decide
  · rw [usedN_out h]
    have n0 : (t == 0) = false := by simp; omega
    have n1 : (t == 1) = false := by simp; omega
    have n4 : (t == 4) = false := by simp; omega
    have n5 : (t == 5) = false := by simp; omega
    have n6 : (t == 6) = false := by simp; omega
    have n9 : (t == 9) = false := by simp; omega
    simp [n0, n1, n4, n5, n6, n9]
set_option maxHeartbeats 1600000 in
theorem kruses_8 (t : Int) (w : World) : Calls Tryd.prog 7 #[.int .i64 t, .int .i64 8] w fun e w' => e = .returned (.bool ((usedN t).testBit 3)) ∧ w = w' := by
  rw [kused_bit3]
  go_enter Tryd.func7, Tryd.ntmps7
  go_wp2
  all_goals
    go_ret
    simp_all [Bool.or_assoc]
set_option maxHeartbeats 1600000 in
theorem krhas_8 (t fl : Int) (hf : fl ≤ 9223372036854775807) (w : World) : Calls Tryd.prog 10 #[.int .i64 t, .int .i64 fl, .int .i64 8] w fun e w' => e = .returned (.bool (hsB t fl 3)) ∧ w = w' := by
  obtain ⟨u, hu⟩ : ∃ u, (usedN t).testBit 3 = u := ⟨_, rfl⟩
  have H2 : Hid (∀ W : World, Calls Tryd.prog 7 #[.int .i64 t, .int .i64 8] W fun e w' => e = .returned (.bool u) ∧ W = w') := fun W => by rw [← hu]; exact kruses_8 t W
  by_cases h0 : 0 ≤ fl
  · obtain ⟨b, hb⟩ : ∃ b, fl.toNat.testBit 3 = b := ⟨_, rfl⟩
    have HB : Hid (hsB t fl 3 = (u && b)) := by
      show _ = _
      unfold hsB
      rw [hu, hb, decide_eq_true h0, Bool.true_and]
    have d1 : decide ((0 : Int) ≤ fl) = true := decide_eq_true h0
    obtain ⟨qz, hq⟩ : ∃ qz, Int.tdiv fl 8 = qz := ⟨_, rfl⟩
    obtain ⟨dz, hd⟩ : ∃ dz, Int.tmod qz 2 = dz := ⟨_, rfl⟩
    have hqv : qz = fl / 8 := by rw [← hq, Int.tdiv_eq_ediv_of_nonneg h0]
    have hdv : dz = qz % 2 := by rw [← hd, Int.tmod_eq_emod_of_nonneg (by omega)]
    have hbit : (dz == 1) = b := by
      rw [← hb, Nat.testBit_eq_decide_div_mod_eq]
      have e : dz = ((fl.toNat / 2 ^ 3 % 2 : Nat) : Int) := by
        have e2 : (2 : Nat) ^ 3 = 8 := by decide
        rw [e2]
        omega
      rw [e]
      generalize fl.toNat / 2 ^ 3 = M
      rcases Nat.mod_two_eq_zero_or_one M with h | h <;> rw [h] <;> rfl
    have w1 : IntKind.i64.wrap qz = qz := IntWalk.i64_in _ (by omega)
    have w2 : IntKind.i64.wrap dz = dz := IntWalk.i64_in _ (by omega)
    clear hu hb hqv hdv
    go_enter Tryd.func10, Tryd.ntmps10
    cases u with
    | false =>
      go_wp2_with (go_at_call 7; refine (H2.out _).mono ?_; rintro e w' ⟨rfl, rfl⟩)
      go_ret
      exact ⟨by rw [HB.out]; rfl, rfl⟩
    | true =>
      go_wp2_with (go_at_call 7; refine (H2.out _).mono ?_; rintro e w' ⟨rfl, rfl⟩)
      go_ret
      exact ⟨by rw [HB.out]; rfl, rfl⟩
  · have HB : Hid (hsB t fl 3 = false) := by
      show _ = _
      unfold hsB
      rw [decide_eq_false h0, Bool.false_and]
    have d1 : decide ((0 : Int) ≤ fl) = false := decide_eq_false h0
    clear h0 hu
    go_enter Tryd.func10, Tryd.ntmps10
    cases u with
    | false =>
      go_wp2_with (go_at_call 7; refine (H2.out _).mono ?_; rintro e w' ⟨rfl, rfl⟩)
      go_ret
      exact ⟨by rw [HB.out]; rfl, rfl⟩
    | true =>
      go_wp2_with (go_at_call 7; refine (H2.out _).mono ?_; rintro e w' ⟨rfl, rfl⟩)
      go_ret
      exact ⟨by rw [HB.out]; rfl, rfl⟩
theorem kused_bit5 (t : Int) : (usedN t).testBit 5 = (t == 1) := by
  by_cases h : 0 ≤ t ∧ t < 10
  · have : t = 0 ∨ t = 1 ∨ t = 2 ∨ t = 3 ∨ t = 4 ∨ t = 5 ∨ t = 6 ∨ t = 7 ∨ t = 8 ∨ t = 9 := by omega
    rcases this with rfl | rfl | rfl | rfl | rfl | rfl | rfl | rfl | rfl | rfl <;> decide
  · rw [usedN_out h]
    have n0 : (t == 0) = false := by simp; omega
    have n1 : (t == 1) = false := by simp; omega
    have n4 : (t == 4) = false := by simp; omega
    have n5 : (t == 5) = false := by simp; omega
    have n6 : (t == 6) = false := by simp; omega
    have n9 : (t == 9) = false := by simp; omega
    simp [n0, n1, n4, n5, n6, n9]
set_option maxHeartbeats 1600000 in
theorem kruses_32 (t : Int) (w : World) : Calls Tryd.prog 7 #[.int .i64 t, .int .i64 32] w fun e w' => e = .returned (.bool ((usedN t).testBit 5)) ∧ w = w' := by
  rw [kused_bit5]
  go_enter Tryd.func7, Tryd.ntmps7
  go_wp2
  all_goals
    go_ret
    simp_all [Bool.or_assoc]
set_option maxHeartbeats 1600000 in
theorem krhas_32 (t fl : Int) (hf : fl ≤ 9223372036854775807) (w : World) : Calls Tryd.prog 10 #[.int .i64 t, .int .i64 fl, .int .i64 32] w fun e w' => e = .returned (.bool (hsB t fl 5)) ∧ w = w' := by
  obtain ⟨u, hu⟩ : ∃ u, (usedN t).testBit 5 = u := ⟨_, rfl⟩
  have H2 : Hid (∀ W : World, Calls Tryd.prog 7 #[.int .i64 t, .int .i64 32] W fun e w' => e = .returned (.bool u) ∧ W = w') := fun W => by rw [← hu]; exact kruses_32 t W
  by_cases h0 : 0 ≤ fl
  · obtain ⟨b, hb⟩ : ∃ b, fl.toNat.testBit 5 = b := ⟨_, rfl⟩
    have HB : Hid (hsB t fl 5 = (u && b)) := by
      show _ = _
      unfold hsB
      rw [hu, hb, decide_eq_true h0, Bool.true_and]
    have d1 : decide ((0 : Int) ≤ fl) = true := decide_eq_true h0
    obtain ⟨qz, hq⟩ : ∃ qz, Int.tdiv fl 32 = qz := ⟨_, rfl⟩
    obtain ⟨dz, hd⟩ : ∃ dz, Int.tmod qz 2 = dz := ⟨_, rfl⟩
    have hqv : qz = fl / 32 := by rw [← hq, Int.tdiv_eq_ediv_of_nonneg h0]
    have hdv : dz = qz % 2 := by rw [← hd, Int.tmod_eq_emod_of_nonneg (by omega)]
    have hbit : (dz == 1) = b := by
      rw [← hb, Nat.testBit_eq_decide_div_mod_eq]
      have e : dz = ((fl.toNat / 2 ^ 5 % 2 : Nat) : Int) := by
        have e2 : (2 : Nat) ^ 5 = 32 := by decide
        rw [e2]
        omega
      rw [e]
      generalize fl.toNat / 2 ^ 5 = M
      rcases Nat.mod_two_eq_zero_or_one M with h | h <;> rw [h] <;> rfl
    have w1 : IntKind.i64.wrap qz = qz := IntWalk.i64_in _ (by omega)
    have w2 : IntKind.i64.wrap dz = dz := IntWalk.i64_in _ (by omega)
    clear hu hb hqv hdv
    go_enter Tryd.func10, Tryd.ntmps10
    cases u with
    | false =>
      go_wp2_with (go_at_call 7; refine (H2.out _).mono ?_; rintro e w' ⟨rfl, rfl⟩)
      go_ret
      exact ⟨by rw [HB.out]; rfl, rfl⟩
    | true =>
      go_wp2_with (go_at_call 7; refine (H2.out _).mono ?_; rintro e w' ⟨rfl, rfl⟩)
      go_ret
      exact ⟨by rw [HB.out]; rfl, rfl⟩
  · have HB : Hid (hsB t fl 5 = false) := by
      show _ = _
      unfold hsB
      rw [decide_eq_false h0, Bool.false_and]
    have d1 : decide ((0 : Int) ≤ fl) = false := decide_eq_false h0
    clear h0 hu
    go_enter Tryd.func10, Tryd.ntmps10
    cases u with
    | false =>
      go_wp2_with (go_at_call 7; refine (H2.out _).mono ?_; rintro e w' ⟨rfl, rfl⟩)
      go_ret
      exact ⟨by rw [HB.out]; rfl, rfl⟩
    | true =>
      go_wp2_with (go_at_call 7; refine (H2.out _).mono ?_; rintro e w' ⟨rfl, rfl⟩)
      go_ret
      exact ⟨by rw [HB.out]; rfl, rfl⟩
/-- Has, as a function of the numbers. -/
def hxB (t fl x : Int) : Bool := if x = 1 then hsB t fl 0 else if x = 4 then hsB t fl 2 else if x = 8 then hsB t fl 3 else if x = 32 then hsB t fl 5 else false
/-- Uses. -/
def uxB (t x : Int) : Bool := if x = 1 then (usedN t).testBit 0 else if x = 4 then (usedN t).testBit 2 else if x = 8 then (usedN t).testBit 3 else if x = 32 then (usedN t).testBit 5 else false
theorem x_ways (x : Int) : x = 1 ∨ x = 4 ∨ x = 8 ∨ x = 32 ∨ (x ≠ 1 ∧ x ≠ 4 ∧ x ≠ 8 ∧ x ≠ 32) := by omega
set_option maxHeartbeats 1600000 in
theorem kruses_no (t x : Int) (h : x ≠ 1 ∧ x ≠ 4 ∧ x ≠ 8 ∧ x ≠ 32) (w : World) : Calls Tryd.prog 7 #[.int .i64 t, .int .i64 x] w fun e w' => e = .returned (.bool false) ∧ w = w' := by
  have n1 : (x == 1) = false := beq_eq_false_iff_ne.2 h.1
  have n2 : (x == 4) = false := beq_eq_false_iff_ne.2 h.2.1
  have n3 : (x == 8) = false := beq_eq_false_iff_ne.2 h.2.2.1
  have n4 : (x == 32) = false := beq_eq_false_iff_ne.2 h.2.2.2
  clear h
  go_enter Tryd.func7, Tryd.ntmps7
  go_wp2
  go_ret
  exact ⟨rfl, rfl⟩
theorem uxB_no (t x : Int) (h : x ≠ 1 ∧ x ≠ 4 ∧ x ≠ 8 ∧ x ≠ 32) : uxB t x = false := by
  unfold uxB
  rw [if_neg h.1, if_neg h.2.1, if_neg h.2.2.1, if_neg h.2.2.2]
theorem hxB_no (t fl x : Int) (h : x ≠ 1 ∧ x ≠ 4 ∧ x ≠ 8 ∧ x ≠ 32) : hxB t fl x = false := by
  unfold hxB
  rw [if_neg h.1, if_neg h.2.1, if_neg h.2.2.1, if_neg h.2.2.2]
theorem kruses_any (t x : Int) (w : World) : Calls Tryd.prog 7 #[.int .i64 t, .int .i64 x] w fun e w' => e = .returned (.bool (uxB t x)) ∧ w = w' := by
  rcases x_ways x with rfl | rfl | rfl | rfl | h
  · exact kruses_1 t w
  · exact kruses_4 t w
  · exact kruses_8 t w
  · exact kruses_32 t w
  · rw [uxB_no t x h]
    exact kruses_no t x h w
set_option maxHeartbeats 1600000 in
theorem krhas_any (t fl x : Int) (hf : fl ≤ 9223372036854775807) (w : World) : Calls Tryd.prog 10 #[.int .i64 t, .int .i64 fl, .int .i64 x] w fun e w' => e = .returned (.bool (hxB t fl x)) ∧ w = w' := by
  rcases x_ways x with rfl | rfl | rfl | rfl | h
  · exact krhas_1 t fl hf w
  · exact krhas_4 t fl hf w
  · exact krhas_8 t fl hf w
  · exact krhas_32 t fl hf w
  · rw [hxB_no t fl x h]
    have H2 := hide (fun W => kruses_no t x h W)
    clear h
    go_enter Tryd.func10, Tryd.ntmps10
    go_wp2_with (go_at_call 7; refine (H2.out _).mono ?_; rintro e w' ⟨rfl, rfl⟩)
    go_ret
    exact ⟨rfl, rfl⟩
theorem usedN_45 (t : Int) : usedN t &&& 45 = usedN t := by
  unfold usedN
  (repeat' split) <;> rfl
theorem bits_and_i64 (a b : Int) : bits .and .i64 a b = IntKind.i64.wrap (((BitVec.ofInt 64 a &&& BitVec.ofInt 64 b).toNat : Nat) : Int) := rfl
/-- A number that is none of the four and has one bit: it shares none with what a type uses. -/
theorem none_and (t : Int) (fl : Nat) (hf : fl < 9223372036854775808) (x : Int) (h : x ≠ 1 ∧ x ≠ 4 ∧ x ≠ 8 ∧ x ≠ 32) (n : Nat) (hn : n = (BitVec.ofInt 64 x).toNat) (hx : -9223372036854775808 ≤ x ∧ x ≤ 9223372036854775807) (hp : pcN n = 1) :
    (bits .and .i64 (bits .and .i64 (usedN t : Nat) (fl : Int)) x != 0) = false := by
  rw [bits_and_nat (usedN t) fl (by have := usedN_lt t; omega) hf]
  rw [bits_and_i64]
  have hle : usedN t &&& fl ≤ usedN t := Nat.and_le_left
  have hlt := usedN_lt t
  rw [BitVec.toNat_and, ofInt_i64n _ (by omega), ← hn]
  have h45 : ¬ (n &&& 45 ≠ 0) := fun hne => by
    have hb := (BitVec.ofInt 64 x).isLt
    rcases pcN_one n (by omega) hne hp with e | e | e | e <;>
    · rw [hn, BitVec.toNat_ofInt] at e
      omega
  have hz0 : (usedN t &&& fl) &&& n = 0 := by
    have e0 : n &&& 45 = 0 := Decidable.byContradiction h45
    rw [← usedN_45 t, Nat.and_assoc (usedN t) 45 fl, Nat.and_comm 45 fl, ← Nat.and_assoc (usedN t) fl 45, Nat.and_assoc (usedN t &&& fl) 45 n, Nat.and_comm 45 n, e0, Nat.and_zero]
  rw [hz0]
  rfl
set_option maxRecDepth 20000 in
set_option maxHeartbeats 1600000 in
theorem khas_no (t fl x : Int) (hf : fl ≤ 9223372036854775807) (hx : -9223372036854775808 ≤ x ∧ x ≤ 9223372036854775807) (h : x ≠ 1 ∧ x ≠ 4 ∧ x ≠ 8 ∧ x ≠ 32) (w : World) : Calls Tryd.prog 9 #[.int .i64 t, .int .i64 fl, .int .i64 x] w fun e w' => e = .returned (.bool false) ∧ w = w' := by
  obtain ⟨n, hn⟩ : ∃ n, n = (BitVec.ofInt 64 x).toNat := ⟨_, rfl⟩
  have hn2 : n < 18446744073709551616 := by have := (BitVec.ofInt 64 x).isLt; omega
  have hw : IntKind.u64.wrap x = (n : Int) := by
    rw [hn, BitVec.toNat_ofInt]
    show x % 18446744073709551616 = _
    omega
  have H1 := hide (fun W => ones_any n hn2 W)
  have H2 := hide (fun W => used8 t W)
  by_cases h0 : 0 ≤ fl
  · obtain ⟨m, rfl⟩ := Int.eq_ofNat_of_zero_le h0
    have d0 : decide ((0 : Int) ≤ (m : Int)) = true := decide_eq_true (by omega)
    by_cases hp : pcN n = 1
    · have hz := none_and t m (by omega) x h n hn hx hp
      have dp : ((pcN n : Nat) : Int) == 1 := by rw [hp]; rfl
      rw [hp] at H1
      clear h hx hn hp dp hf h0
      generalize usedN t = u at *
      go_enter Tryd.func9, Tryd.ntmps9
      go_wp2_with (first
        | (go_at_call 40; refine (H1.out _).mono ?_; rintro e w' ⟨rfl, rfl⟩)
        | (go_at_call 8; refine (H2.out _).mono ?_; rintro e w' ⟨rfl, rfl⟩))
      go_ret
      exact ⟨rfl, rfl⟩
    · have dp : (((pcN n : Nat) : Int) == 1) = false := by simp; omega
      clear h hx hn hp hf h0
      generalize pcN n = u at *
      go_enter Tryd.func9, Tryd.ntmps9
      go_wp2_with (first
        | (go_at_call 40; refine (H1.out _).mono ?_; rintro e w' ⟨rfl, rfl⟩))
      go_ret
      exact ⟨rfl, rfl⟩
  · have d0 : decide (0 ≤ fl) = false := decide_eq_false h0
    clear h0 h hx hn hf
    go_enter Tryd.func9, Tryd.ntmps9
    go_wp2
    go_ret
    exact ⟨rfl, rfl⟩
theorem khas_any (t fl x : Int) (hf : fl ≤ 9223372036854775807) (hx : -9223372036854775808 ≤ x ∧ x ≤ 9223372036854775807) (w : World) : Calls Tryd.prog 9 #[.int .i64 t, .int .i64 fl, .int .i64 x] w fun e w' => e = .returned (.bool (hxB t fl x)) ∧ w = w' := by
  rcases x_ways x with rfl | rfl | rfl | rfl | h
  · exact has8 t fl 0 (by omega) 1 rfl hf w
  · exact has8 t fl 2 (by omega) 4 rfl hf w
  · exact has8 t fl 3 (by omega) 8 rfl hf w
  · exact has8 t fl 5 (by omega) 32 rfl hf w
  · rw [hxB_no t fl x h]
    exact khas_no t fl x hf hx h w
end Go.Proofs.YtbkdegjkjjdcdaaDoor
