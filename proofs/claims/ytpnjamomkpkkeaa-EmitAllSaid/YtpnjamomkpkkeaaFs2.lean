/- Layers 8 and 14: flags, streams, lengths and faults, by the reference. -/
import Derived.Test.YtpnjamomkpkkeaaFra
namespace Go.Proofs.Ytpnjamomkpkkeaa
set_option linter.unusedVariables false
set_option linter.unusedSimpArgs false
open Go.RowKit

theorem used_bit0 (t : Int) : (usedN t).testBit 0 = ((t == 0) || ((t == 1) || ((t == 4) || (t == 6)))) := by
  by_cases h : 0 ≤ t ∧ t < 10
  · have : t = 0 ∨ t = 1 ∨ t = 2 ∨ t = 3 ∨ t = 4 ∨ t = 5 ∨ t = 6 ∨ t = 7 ∨ t = 8 ∨ t = 9 := by omega
    rcases this with rfl | rfl | rfl | rfl | rfl | rfl | rfl | rfl | rfl | rfl <;> decide
  · rw [usedN_out h]
    have n0 : (t == 0) = false := by simp; omega
    have n1 : (t == 1) = false := by simp; omega
    have n4 : (t == 4) = false := by simp; omega
    have n5 : (t == 5) = false := by simp; omega
    have n6 : (t == 6) = false := by simp; omega
    have n9 : (t == 9) = false := by simp; omega
    simp [n0, n1, n4, n5, n6, n9]
set_option maxHeartbeats 1600000 in
theorem ruses_1 (t : Int) (w : World) : Calls Try.prog 141 #[.int .i64 t, .int .i64 1] w fun e w' => e = .returned (.bool ((usedN t).testBit 0)) ∧ w = w' := by
  rw [used_bit0]
  go_enter Try.func141, Try.ntmps141
  go_wp2
  all_goals
    go_ret
    simp_all [Bool.or_assoc]
theorem used_bit2 (t : Int) : (usedN t).testBit 2 = ((t == 1) || ((t == 5) || (t == 9))) := by
  by_cases h : 0 ≤ t ∧ t < 10
  · have : t = 0 ∨ t = 1 ∨ t = 2 ∨ t = 3 ∨ t = 4 ∨ t = 5 ∨ t = 6 ∨ t = 7 ∨ t = 8 ∨ t = 9 := by omega
    rcases this with rfl | rfl | rfl | rfl | rfl | rfl | rfl | rfl | rfl | rfl <;> decide
  · rw [usedN_out h]
    have n0 : (t == 0) = false := by simp; omega
    have n1 : (t == 1) = false := by simp; omega
    have n4 : (t == 4) = false := by simp; omega
    have n5 : (t == 5) = false := by simp; omega
    have n6 : (t == 6) = false := by simp; omega
    have n9 : (t == 9) = false := by simp; omega
    simp [n0, n1, n4, n5, n6, n9]
set_option maxHeartbeats 1600000 in
theorem ruses_4 (t : Int) (w : World) : Calls Try.prog 141 #[.int .i64 t, .int .i64 4] w fun e w' => e = .returned (.bool ((usedN t).testBit 2)) ∧ w = w' := by
  rw [used_bit2]
  go_enter Try.func141, Try.ntmps141
  go_wp2
  all_goals
    go_ret
    simp_all [Bool.or_assoc]
theorem used_bit3 (t : Int) : (usedN t).testBit 3 = ((t == 0) || ((t == 1) || (t == 5))) := by
  by_cases h : 0 ≤ t ∧ t < 10
  · have : t = 0 ∨ t = 1 ∨ t = 2 ∨ t = 3 ∨ t = 4 ∨ t = 5 ∨ t = 6 ∨ t = 7 ∨ t = 8 ∨ t = 9 := by omega
    rcases this with rfl | rfl | rfl | rfl | rfl | rfl | rfl | rfl | rfl | rfl <;> decide
  · rw [usedN_out h]
    have n0 : (t == 0) = false := by simp; omega
    have n1 : (t == 1) = false := by simp; omega
    have n4 : (t == 4) = false := by simp; omega
    have n5 : (t == 5) = false := by simp; omega
    have n6 : (t == 6) = false := by simp; omega
    have n9 : (t == 9) = false := by simp; omega
    simp [n0, n1, n4, n5, n6, n9]
set_option maxHeartbeats 1600000 in
theorem ruses_8 (t : Int) (w : World) : Calls Try.prog 141 #[.int .i64 t, .int .i64 8] w fun e w' => e = .returned (.bool ((usedN t).testBit 3)) ∧ w = w' := by
  rw [used_bit3]
  go_enter Try.func141, Try.ntmps141
  go_wp2
  all_goals
    go_ret
    simp_all [Bool.or_assoc]
theorem used_bit5 (t : Int) : (usedN t).testBit 5 = (t == 1) := by
  by_cases h : 0 ≤ t ∧ t < 10
  · have : t = 0 ∨ t = 1 ∨ t = 2 ∨ t = 3 ∨ t = 4 ∨ t = 5 ∨ t = 6 ∨ t = 7 ∨ t = 8 ∨ t = 9 := by omega
    rcases this with rfl | rfl | rfl | rfl | rfl | rfl | rfl | rfl | rfl | rfl <;> decide
  · rw [usedN_out h]
    have n0 : (t == 0) = false := by simp; omega
    have n1 : (t == 1) = false := by simp; omega
    have n4 : (t == 4) = false := by simp; omega
    have n5 : (t == 5) = false := by simp; omega
    have n6 : (t == 6) = false := by simp; omega
    have n9 : (t == 9) = false := by simp; omega
    simp [n0, n1, n4, n5, n6, n9]
set_option maxHeartbeats 1600000 in
theorem ruses_32 (t : Int) (w : World) : Calls Try.prog 141 #[.int .i64 t, .int .i64 32] w fun e w' => e = .returned (.bool ((usedN t).testBit 5)) ∧ w = w' := by
  rw [used_bit5]
  go_enter Try.func141, Try.ntmps141
  go_wp2
  all_goals
    go_ret
    simp_all [Bool.or_assoc]
set_option maxHeartbeats 1600000 in
theorem rhas_0 (t fl : Int) (h0 : 0 ≤ fl) (hf : fl ≤ 255) (w : World) : Calls Try.prog 103 #[.int .i64 t, .int .i64 fl, .int .i64 1] w fun e w' => e = .returned (.bool (hsB t fl 0)) ∧ w = w' := by
  obtain ⟨u, hu⟩ : ∃ u, (usedN t).testBit 0 = u := ⟨_, rfl⟩
  obtain ⟨b, hb⟩ : ∃ b, fl.toNat.testBit 0 = b := ⟨_, rfl⟩
  have HB : Hid (hsB t fl 0 = (u && b)) := by
    show _ = _
    unfold hsB
    rw [hu, hb, decide_eq_true h0, Bool.true_and]
  have H2 : Hid (∀ W : World, Calls Try.prog 141 #[.int .i64 t, .int .i64 1] W fun e w' => e = .returned (.bool u) ∧ W = w') := fun W => by rw [← hu]; exact ruses_1 t W
  have d1 : decide ((0 : Int) ≤ fl) = true := decide_eq_true h0
  obtain ⟨qz, hq⟩ : ∃ qz, Int.tdiv fl 1 = qz := ⟨_, rfl⟩
  obtain ⟨dz, hd⟩ : ∃ dz, Int.tmod qz 2 = dz := ⟨_, rfl⟩
  have hqv : qz = fl / 1 := by rw [← hq, Int.tdiv_eq_ediv_of_nonneg h0]
  have hdv : dz = qz % 2 := by rw [← hd, Int.tmod_eq_emod_of_nonneg (by omega)]
  have hbit : (dz == 1) = b := by
    rw [← hb, Nat.testBit_eq_decide_div_mod_eq]
    have e : dz = ((fl.toNat / 2 ^ 0 % 2 : Nat) : Int) := by
      have e2 : (2 : Nat) ^ 0 = 1 := by decide
      rw [e2]
      omega
    rw [e]
    generalize fl.toNat / 2 ^ 0 = M
    rcases Nat.mod_two_eq_zero_or_one M with h | h <;> rw [h] <;> rfl
  have w1 : IntKind.i64.wrap qz = qz := IntWalk.i64_in _ (by omega)
  have w2 : IntKind.i64.wrap dz = dz := IntWalk.i64_in _ (by omega)
  clear hu hb hqv hdv
  go_enter Try.func103, Try.ntmps103
  cases u with
  | false =>
    go_wp2_with (go_at_call 141; refine (H2.out _).mono ?_; rintro e w' ⟨rfl, rfl⟩)
    go_ret
    exact ⟨by rw [HB.out]; rfl, rfl⟩
  | true =>
    go_wp2_with (go_at_call 141; refine (H2.out _).mono ?_; rintro e w' ⟨rfl, rfl⟩)
    go_ret
    exact ⟨by rw [HB.out]; rfl, rfl⟩
set_option maxHeartbeats 1600000 in
theorem rhas_2 (t fl : Int) (h0 : 0 ≤ fl) (hf : fl ≤ 255) (w : World) : Calls Try.prog 103 #[.int .i64 t, .int .i64 fl, .int .i64 4] w fun e w' => e = .returned (.bool (hsB t fl 2)) ∧ w = w' := by
  obtain ⟨u, hu⟩ : ∃ u, (usedN t).testBit 2 = u := ⟨_, rfl⟩
  obtain ⟨b, hb⟩ : ∃ b, fl.toNat.testBit 2 = b := ⟨_, rfl⟩
  have HB : Hid (hsB t fl 2 = (u && b)) := by
    show _ = _
    unfold hsB
    rw [hu, hb, decide_eq_true h0, Bool.true_and]
  have H2 : Hid (∀ W : World, Calls Try.prog 141 #[.int .i64 t, .int .i64 4] W fun e w' => e = .returned (.bool u) ∧ W = w') := fun W => by rw [← hu]; exact ruses_4 t W
  have d1 : decide ((0 : Int) ≤ fl) = true := decide_eq_true h0
  obtain ⟨qz, hq⟩ : ∃ qz, Int.tdiv fl 4 = qz := ⟨_, rfl⟩
  obtain ⟨dz, hd⟩ : ∃ dz, Int.tmod qz 2 = dz := ⟨_, rfl⟩
  have hqv : qz = fl / 4 := by rw [← hq, Int.tdiv_eq_ediv_of_nonneg h0]
  have hdv : dz = qz % 2 := by rw [← hd, Int.tmod_eq_emod_of_nonneg (by omega)]
  have hbit : (dz == 1) = b := by
    rw [← hb, Nat.testBit_eq_decide_div_mod_eq]
    have e : dz = ((fl.toNat / 2 ^ 2 % 2 : Nat) : Int) := by
      have e2 : (2 : Nat) ^ 2 = 4 := by decide
      rw [e2]
      omega
    rw [e]
    generalize fl.toNat / 2 ^ 2 = M
    rcases Nat.mod_two_eq_zero_or_one M with h | h <;> rw [h] <;> rfl
  have w1 : IntKind.i64.wrap qz = qz := IntWalk.i64_in _ (by omega)
  have w2 : IntKind.i64.wrap dz = dz := IntWalk.i64_in _ (by omega)
  clear hu hb hqv hdv
  go_enter Try.func103, Try.ntmps103
  cases u with
  | false =>
    go_wp2_with (go_at_call 141; refine (H2.out _).mono ?_; rintro e w' ⟨rfl, rfl⟩)
    go_ret
    exact ⟨by rw [HB.out]; rfl, rfl⟩
  | true =>
    go_wp2_with (go_at_call 141; refine (H2.out _).mono ?_; rintro e w' ⟨rfl, rfl⟩)
    go_ret
    exact ⟨by rw [HB.out]; rfl, rfl⟩
set_option maxHeartbeats 1600000 in
theorem rhas_3 (t fl : Int) (h0 : 0 ≤ fl) (hf : fl ≤ 255) (w : World) : Calls Try.prog 103 #[.int .i64 t, .int .i64 fl, .int .i64 8] w fun e w' => e = .returned (.bool (hsB t fl 3)) ∧ w = w' := by
  obtain ⟨u, hu⟩ : ∃ u, (usedN t).testBit 3 = u := ⟨_, rfl⟩
  obtain ⟨b, hb⟩ : ∃ b, fl.toNat.testBit 3 = b := ⟨_, rfl⟩
  have HB : Hid (hsB t fl 3 = (u && b)) := by
    show _ = _
    unfold hsB
    rw [hu, hb, decide_eq_true h0, Bool.true_and]
  have H2 : Hid (∀ W : World, Calls Try.prog 141 #[.int .i64 t, .int .i64 8] W fun e w' => e = .returned (.bool u) ∧ W = w') := fun W => by rw [← hu]; exact ruses_8 t W
  have d1 : decide ((0 : Int) ≤ fl) = true := decide_eq_true h0
  obtain ⟨qz, hq⟩ : ∃ qz, Int.tdiv fl 8 = qz := ⟨_, rfl⟩
  obtain ⟨dz, hd⟩ : ∃ dz, Int.tmod qz 2 = dz := ⟨_, rfl⟩
  have hqv : qz = fl / 8 := by rw [← hq, Int.tdiv_eq_ediv_of_nonneg h0]
  have hdv : dz = qz % 2 := by rw [← hd, Int.tmod_eq_emod_of_nonneg (by omega)]
  have hbit : (dz == 1) = b := by
    rw [← hb, Nat.testBit_eq_decide_div_mod_eq]
    have e : dz = ((fl.toNat / 2 ^ 3 % 2 : Nat) : Int) := by
      have e2 : (2 : Nat) ^ 3 = 8 := by decide
      rw [e2]
      omega
    rw [e]
    generalize fl.toNat / 2 ^ 3 = M
    rcases Nat.mod_two_eq_zero_or_one M with h | h <;> rw [h] <;> rfl
  have w1 : IntKind.i64.wrap qz = qz := IntWalk.i64_in _ (by omega)
  have w2 : IntKind.i64.wrap dz = dz := IntWalk.i64_in _ (by omega)
  clear hu hb hqv hdv
  go_enter Try.func103, Try.ntmps103
  cases u with
  | false =>
    go_wp2_with (go_at_call 141; refine (H2.out _).mono ?_; rintro e w' ⟨rfl, rfl⟩)
    go_ret
    exact ⟨by rw [HB.out]; rfl, rfl⟩
  | true =>
    go_wp2_with (go_at_call 141; refine (H2.out _).mono ?_; rintro e w' ⟨rfl, rfl⟩)
    go_ret
    exact ⟨by rw [HB.out]; rfl, rfl⟩
set_option maxHeartbeats 1600000 in
theorem rhas_5 (t fl : Int) (h0 : 0 ≤ fl) (hf : fl ≤ 255) (w : World) : Calls Try.prog 103 #[.int .i64 t, .int .i64 fl, .int .i64 32] w fun e w' => e = .returned (.bool (hsB t fl 5)) ∧ w = w' := by
  obtain ⟨u, hu⟩ : ∃ u, (usedN t).testBit 5 = u := ⟨_, rfl⟩
  obtain ⟨b, hb⟩ : ∃ b, fl.toNat.testBit 5 = b := ⟨_, rfl⟩
  have HB : Hid (hsB t fl 5 = (u && b)) := by
    show _ = _
    unfold hsB
    rw [hu, hb, decide_eq_true h0, Bool.true_and]
  have H2 : Hid (∀ W : World, Calls Try.prog 141 #[.int .i64 t, .int .i64 32] W fun e w' => e = .returned (.bool u) ∧ W = w') := fun W => by rw [← hu]; exact ruses_32 t W
  have d1 : decide ((0 : Int) ≤ fl) = true := decide_eq_true h0
  obtain ⟨qz, hq⟩ : ∃ qz, Int.tdiv fl 32 = qz := ⟨_, rfl⟩
  obtain ⟨dz, hd⟩ : ∃ dz, Int.tmod qz 2 = dz := ⟨_, rfl⟩
  have hqv : qz = fl / 32 := by rw [← hq, Int.tdiv_eq_ediv_of_nonneg h0]
  have hdv : dz = qz % 2 := by rw [← hd, Int.tmod_eq_emod_of_nonneg (by omega)]
  have hbit : (dz == 1) = b := by
    rw [← hb, Nat.testBit_eq_decide_div_mod_eq]
    have e : dz = ((fl.toNat / 2 ^ 5 % 2 : Nat) : Int) := by
      have e2 : (2 : Nat) ^ 5 = 32 := by decide
      rw [e2]
      omega
    rw [e]
    generalize fl.toNat / 2 ^ 5 = M
    rcases Nat.mod_two_eq_zero_or_one M with h | h <;> rw [h] <;> rfl
  have w1 : IntKind.i64.wrap qz = qz := IntWalk.i64_in _ (by omega)
  have w2 : IntKind.i64.wrap dz = dz := IntWalk.i64_in _ (by omega)
  clear hu hb hqv hdv
  go_enter Try.func103, Try.ntmps103
  cases u with
  | false =>
    go_wp2_with (go_at_call 141; refine (H2.out _).mono ?_; rintro e w' ⟨rfl, rfl⟩)
    go_ret
    exact ⟨by rw [HB.out]; rfl, rfl⟩
  | true =>
    go_wp2_with (go_at_call 141; refine (H2.out _).mono ?_; rintro e w' ⟨rfl, rfl⟩)
    go_ret
    exact ⟨by rw [HB.out]; rfl, rfl⟩
set_option maxRecDepth 20000 in
set_option maxHeartbeats 1600000 in
theorem rstreams14 (t : Int) (w : World) : Calls Try.prog 143 #[.int .i64 t] w fun e w' => e = .returned (.int .i64 (strN t)) ∧ w = w' := by
  by_cases h : 0 ≤ t ∧ t < 10
  · have : t = 0 ∨ t = 1 ∨ t = 2 ∨ t = 3 ∨ t = 4 ∨ t = 5 ∨ t = 6 ∨ t = 7 ∨ t = 8 ∨ t = 9 := by omega
    clear h
    rcases this with rfl | rfl | rfl | rfl | rfl | rfl | rfl | rfl | rfl | rfl <;>
    · go_enter Try.func143, Try.ntmps143
      go_wp2
      go_ret
      exact ⟨by kernel_rfl, rfl⟩
  · have H := hide (strN_out h)
    have n4 : (t == 4) = false := by simp; omega
    have n6 : (t == 6) = false := by simp; omega
    have n7 : (t == 7) = false := by simp; omega
    by_cases h0 : 0 ≤ t
    · have d0 : decide (0 ≤ t) = true := decide_eq_true h0
      have d1 : decide (t < 10) = false := decide_eq_false (by omega)
      clear h h0
      go_enter Try.func143, Try.ntmps143
      go_wp2
      go_ret
      exact ⟨by rw [H.out]; rfl, rfl⟩
    · have d0 : decide (0 ≤ t) = false := decide_eq_false h0
      clear h h0
      go_enter Try.func143, Try.ntmps143
      go_wp2
      go_ret
      exact ⟨by rw [H.out]; rfl, rfl⟩
end Go.Proofs.Ytpnjamomkpkkeaa
