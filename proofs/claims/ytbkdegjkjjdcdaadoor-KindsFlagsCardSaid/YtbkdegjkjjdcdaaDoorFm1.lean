/- Layer 8: whether flags have one, by the program and by the reference. -/
import Derived.Test.YtbkdegjkjjdcdaaDoorMA
import Derived.Test.YtbkdegjkjjdcdaaDoorVal
namespace Go.Proofs.YtbkdegjkjjdcdaaDoor
set_option linter.unusedVariables false
set_option linter.unusedSimpArgs false
open Go.RowKit

theorem bits_and_nat (a b : Nat) (ha : a < 9223372036854775808) (hb : b < 9223372036854775808) : bits .and .i64 (a : Int) (b : Int) = ((a &&& b : Nat) : Int) := by
  show IntKind.i64.wrap ((BitVec.ofInt 64 (a : Int) &&& BitVec.ofInt 64 (b : Int)).toNat : Int) = _
  rw [BitVec.toNat_and, ofInt_i64n a (by omega), ofInt_i64n b (by omega)]
  have : a &&& b ≤ a := Nat.and_le_left
  exact IntWalk.i64_in _ (by omega)
theorem has_nat (u fl k : Nat) : (u &&& fl) &&& 2 ^ k = if (u.testBit k && fl.testBit k) = true then 2 ^ k else 0 := by
  refine Nat.eq_of_testBit_eq fun i => ?_
  rw [Nat.testBit_and, Nat.testBit_and, Nat.testBit_two_pow]
  by_cases h : k = i
  · subst h
    cases u.testBit k <;> cases fl.testBit k <;> simp [Nat.testBit_two_pow_self]
  · have h2 : decide (k = i) = false := decide_eq_false h
    rw [h2, Bool.and_false]
    split
    · rw [Nat.testBit_two_pow]
      simp [h]
    · simp
theorem hasI (u fl k : Nat) (hu : u < 64) (hf : fl < 9223372036854775808) (hk : k < 6) : (bits .and .i64 (bits .and .i64 (u : Int) (fl : Int)) ((2 ^ k : Nat) : Int) != 0) = (u.testBit k && fl.testBit k) := by
  have h1 : 2 ^ k < 2 ^ 6 := Nat.pow_lt_pow_right (by omega) hk
  have h2 : u &&& fl ≤ u := Nat.and_le_left
  rw [bits_and_nat u fl (by omega) hf, bits_and_nat _ _ (by omega) (by omega), has_nat]
  have h3 : 0 < 2 ^ k := Nat.pow_pos (by omega)
  generalize 2 ^ k = p at *
  have h4 : ((p : Int) != 0) = true := by simp; omega
  cases u.testBit k <;> cases fl.testBit k
  · rfl
  · rfl
  · rfl
  · exact h4
def usedN (t : Int) : Nat := if t = 0 then 9 else if t = 1 then 45 else if t = 4 ∨ t = 6 then 1 else if t = 5 then 12 else if t = 9 then 4 else 0
theorem usedN_lt (t : Int) : usedN t < 64 := by unfold usedN; (repeat' split) <;> omega
theorem usedN_out {t : Int} (h : ¬ (0 ≤ t ∧ t < 10)) : usedN t = 0 := by
  unfold usedN
  rw [if_neg (by omega), if_neg (by omega), if_neg (by omega), if_neg (by omega), if_neg (by omega)]
/-- Does a type use the flag 2 ^ k, and have the flags it? -/
def hsB (t fl : Int) (k : Nat) : Bool := decide (0 ≤ fl) && ((usedN t).testBit k && fl.toNat.testBit k)
set_option maxRecDepth 20000 in
set_option maxHeartbeats 1600000 in
theorem ones8 (k : Nat) (hk : k < 6) (x : Int) (hx : x = ((2 ^ k : Nat) : Int)) (w : World) : Calls Tryd.prog 40 #[.int .u64 x] w fun e w' => e = .returned (.int .i64 1) ∧ w = w' := by
  have h : x = 1 ∨ x = 2 ∨ x = 4 ∨ x = 8 ∨ x = 16 ∨ x = 32 := by
    have : k = 0 ∨ k = 1 ∨ k = 2 ∨ k = 3 ∨ k = 4 ∨ k = 5 := by omega
    rcases this with rfl | rfl | rfl | rfl | rfl | rfl <;> simp at hx <;> omega
  clear hx hk
  have hin : ∀ w, Calls Tryd.prog 60 #[.int .u64 x] w fun e w' => e = .returned (.int .i64 1) ∧ w = w' := by
    intro w
    rcases h with rfl | rfl | rfl | rfl | rfl | rfl <;>
    · go_enter Tryd.func60, Tryd.ntmps60
      go_wp2
      go_ret
      exact ⟨by kernel_rfl, rfl⟩
  have hw : IntKind.u64.wrap x = x := by
    rcases h with rfl | rfl | rfl | rfl | rfl | rfl <;> rfl
  go_enter Tryd.func40, Tryd.ntmps40
  go_wp2_with (go_at_call 60; refine (hin _).mono ?_; rintro e w' ⟨rfl, rfl⟩)
  go_ret
  exact ⟨rfl, rfl⟩
set_option maxHeartbeats 3200000 in
theorem used8 (t : Int) (w : World) : Calls Tryd.prog 8 #[.int .i64 t] w fun e w' => e = .returned (.int .i64 (usedN t : Nat)) ∧ w = w' := by
  by_cases h : 0 ≤ t ∧ t < 10
  · have : t = 0 ∨ t = 1 ∨ t = 2 ∨ t = 3 ∨ t = 4 ∨ t = 5 ∨ t = 6 ∨ t = 7 ∨ t = 8 ∨ t = 9 := by omega
    clear h
    rcases this with rfl | rfl | rfl | rfl | rfl | rfl | rfl | rfl | rfl | rfl <;>
    · go_enter Tryd.func8, Tryd.ntmps8
      go_wp2
      go_ret
      exact ⟨by kernel_rfl, rfl⟩
  · have H := hide (usedN_out h)
    have n0 : (t == 0) = false := by simp; omega
    have n1 : (t == 1) = false := by simp; omega
    have n4 : (t == 4) = false := by simp; omega
    have n5 : (t == 5) = false := by simp; omega
    have n6 : (t == 6) = false := by simp; omega
    have n9 : (t == 9) = false := by simp; omega
    clear h
    go_enter Tryd.func8, Tryd.ntmps8
    go_wp2
    go_ret
    exact ⟨by rw [H.out]; rfl, rfl⟩
set_option maxRecDepth 20000 in
set_option maxHeartbeats 3200000 in
theorem has8 (t fl : Int) (k : Nat) (hk : k < 6) (x : Int) (hx : x = ((2 ^ k : Nat) : Int)) (hf : fl ≤ 9223372036854775807) (w : World) : Calls Tryd.prog 9 #[.int .i64 t, .int .i64 fl, .int .i64 x] w fun e w' => e = .returned (.bool (hsB t fl k)) ∧ w = w' := by
  have hw : IntKind.u64.wrap x = x := by
    have : k = 0 ∨ k = 1 ∨ k = 2 ∨ k = 3 ∨ k = 4 ∨ k = 5 := by omega
    rcases this with rfl | rfl | rfl | rfl | rfl | rfl <;> subst hx <;> rfl
  by_cases h0 : 0 ≤ fl
  · have d0 : decide (0 ≤ fl) = true := decide_eq_true h0
    obtain ⟨m, rfl⟩ := Int.eq_ofNat_of_zero_le h0
    obtain ⟨b, hb⟩ : ∃ b, ((usedN t).testBit k && m.testBit k) = b := ⟨_, rfl⟩
    have hI := hasI (usedN t) m k (usedN_lt t) (by omega) hk
    rw [hb, ← hx] at hI
    have HB : Hid (hsB t (m : Int) k = b) := by
      show _ = _
      unfold hsB
      rw [d0, Int.toNat_natCast, hb]
      rfl
    have H1 := hide (fun W => ones8 k hk x hx W)
    have H2 := hide (fun W => used8 t W)
    clear hb hx
    generalize usedN t = u at *
    go_enter Tryd.func9, Tryd.ntmps9
    go_wp2_with (first
      | (go_at_call 40; refine (H1.out _).mono ?_; rintro e w' ⟨rfl, rfl⟩)
      | (go_at_call 8; refine (H2.out _).mono ?_; rintro e w' ⟨rfl, rfl⟩))
    go_ret
    exact ⟨by rw [HB.out]; rfl, rfl⟩
  · have d0 : decide (0 ≤ fl) = false := decide_eq_false h0
    have HB : Hid (hsB t fl k = false) := by
      show _ = _
      unfold hsB
      rw [d0]
      rfl
    clear h0
    go_enter Tryd.func9, Tryd.ntmps9
    go_wp2
    go_ret
    exact ⟨by rw [HB.out]; rfl, rfl⟩
end Go.Proofs.YtbkdegjkjjdcdaaDoor
