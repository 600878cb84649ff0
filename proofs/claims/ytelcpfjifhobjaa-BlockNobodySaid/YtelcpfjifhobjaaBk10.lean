/- Layer 30: by the reference: what may come, which frames are parts, with which a block ends. -/
import Derived.Test.YtelcpfjifhobjaaBk7
import Derived.Test.YtelcpfjifhobjaaFs2
namespace Go.Proofs.Ytelcpfjifhobjaa
set_option linter.unusedVariables false
set_option linter.unusedSimpArgs false
open Go.RowKit

set_option maxHeartbeats 1600000 in
theorem rhas4_any (t fl : Int) (hf : fl ≤ 9223372036854775807) (w : World) : Calls Try.prog 60 #[.int .i64 t, .int .i64 fl, .int .i64 4] w fun e w' => e = .returned (.bool (hsB t fl 2)) ∧ w = w' := by
  obtain ⟨u, hu⟩ : ∃ u, (usedN t).testBit 2 = u := ⟨_, rfl⟩
  have H2 : Hid (∀ W : World, Calls Try.prog 101 #[.int .i64 t, .int .i64 4] W fun e w' => e = .returned (.bool u) ∧ W = w') := fun W => by rw [← hu]; exact ruses_4 t W
  by_cases h0 : 0 ≤ fl
  · obtain ⟨b, hb⟩ : ∃ b, fl.toNat.testBit 2 = b := ⟨_, rfl⟩
    have HB : Hid (hsB t fl 2 = (u && b)) := by
      show _ = _
      unfold hsB
      rw [hu, hb, decide_eq_true h0, Bool.true_and]
    have d1 : decide ((0 : Int) ≤ fl) = true := decide_eq_true h0
    obtain ⟨qz, hq⟩ : ∃ qz, Int.tdiv fl 4 = qz := ⟨_, rfl⟩
    obtain ⟨dz, hd⟩ : ∃ dz, Int.tmod qz 2 = dz := ⟨_, rfl⟩
    have hqv : qz = fl / 4 := by rw [← hq, Int.tdiv_eq_ediv_of_nonneg h0]
    have hdv : dz = qz % 2 := by rw [← hd, Int.tmod_eq_emod_of_nonneg (by omega)]
    have hbit : (dz == 1) = b := by
      rw [← hb, Nat.testBit_eq_decide_div_mod_eq]
      have e : dz = ((fl.toNat / 2 ^ 2 % 2 : Nat) : Int) := by
        have e2 : (2 : Nat) ^ 2 = 4 := by decide
        rw [e2]
        omega
      rw [e]
      generalize fl.toNat / 2 ^ 2 = M
      rcases Nat.mod_two_eq_zero_or_one M with h | h <;> rw [h] <;> rfl
    have w1 : IntKind.i64.wrap qz = qz := IntWalk.i64_in _ (by omega)
    have w2 : IntKind.i64.wrap dz = dz := IntWalk.i64_in _ (by omega)
    clear hu hb hqv hdv
    go_enter Try.func60, Try.ntmps60
    cases u with
    | false =>
      go_wp2_with (go_at_call 101; refine (H2.out _).mono ?_; rintro e w' ⟨rfl, rfl⟩)
      go_ret
      exact ⟨by rw [HB.out]; rfl, rfl⟩
    | true =>
      go_wp2_with (go_at_call 101; refine (H2.out _).mono ?_; rintro e w' ⟨rfl, rfl⟩)
      go_ret
      exact ⟨by rw [HB.out]; rfl, rfl⟩
  · have HB : Hid (hsB t fl 2 = false) := by
      show _ = _
      unfold hsB
      rw [decide_eq_false h0, Bool.false_and]
    have d1 : decide ((0 : Int) ≤ fl) = false := decide_eq_false h0
    clear h0 hu
    go_enter Try.func60, Try.ntmps60
    cases u with
    | false =>
      go_wp2_with (go_at_call 101; refine (H2.out _).mono ?_; rintro e w' ⟨rfl, rfl⟩)
      go_ret
      exact ⟨by rw [HB.out]; rfl, rfl⟩
    | true =>
      go_wp2_with (go_at_call 101; refine (H2.out _).mono ?_; rintro e w' ⟨rfl, rfl⟩)
      go_ret
      exact ⟨by rw [HB.out]; rfl, rfl⟩
set_option maxHeartbeats 1600000 in
theorem rpart30 (T fl st pd : Int) (A : Option Addr) (n c : Nat) (A2 : Option Addr) (n2 c2 : Nat) (wt pa : Int) (al : Bool) (pm la co sp : Int) (w : World) : Calls Try.prog 68 #[.agg #[.int .i64 T, .int .i64 fl, .int .i64 st, .int .i64 pd, .slice A n c, .slice A2 n2 c2, .int .i64 wt, .int .i64 pa, .bool al, .int .i64 pm, .int .i64 la, .int .i64 co, .int .i64 sp]] w fun e w' => e = .returned (.bool (partB T)) ∧ Below w.heap.size w w' := by
  have R0 := hide (heap_alloc_new w (.cells #[.int .i64 T, .int .i64 fl, .int .i64 st, .int .i64 pd, .slice A n c, .slice A2 n2 c2, .int .i64 wt, .int .i64 pa, .bool al, .int .i64 pm, .int .i64 la, .int .i64 co, .int .i64 sp] 28))
  have E0 := hide ((Below.refl w.heap.size w).alloc (Nat.le_refl _) (.cells #[.int .i64 T, .int .i64 fl, .int .i64 st, .int .i64 pd, .slice A n c, .slice A2 n2 c2, .int .i64 wt, .int .i64 pa, .bool al, .int .i64 pm, .int .i64 la, .int .i64 co, .int .i64 sp] 28))
  obtain ⟨f0_, f1_, f2_, f3_, f4_, f5_, f6_, f7_, f8_, f9_, f10_, f11_, f12_⟩ := row13 R0.out
  have HP : Hid (partB T = ((T == 1) || ((T == 5) || (T == 9)))) := rfl
  go_enter Try.func68, Try.ntmps68
  go_wp2
  all_goals
    go_ret
    refine ⟨?_, (Below.refl _ _).alloc (Nat.le_refl _) _⟩
    first | rfl | (rw [HP.out]; simp_all [Bool.or_assoc])
set_option maxHeartbeats 1600000 in
theorem rends30 (T fl st pd : Int) (A : Option Addr) (n c : Nat) (A2 : Option Addr) (n2 c2 : Nat) (wt pa : Int) (al : Bool) (pm la co sp : Int) (hfl : fl ≤ 9223372036854775807) (w : World) : Calls Try.prog 69 #[.agg #[.int .i64 T, .int .i64 fl, .int .i64 st, .int .i64 pd, .slice A n c, .slice A2 n2 c2, .int .i64 wt, .int .i64 pa, .bool al, .int .i64 pm, .int .i64 la, .int .i64 co, .int .i64 sp]] w fun e w' => e = .returned (.bool (hsB T fl 2)) ∧ Below w.heap.size w w' := by
  have R0 := hide (heap_alloc_new w (.cells #[.int .i64 T, .int .i64 fl, .int .i64 st, .int .i64 pd, .slice A n c, .slice A2 n2 c2, .int .i64 wt, .int .i64 pa, .bool al, .int .i64 pm, .int .i64 la, .int .i64 co, .int .i64 sp] 28))
  have E0 := hide ((Below.refl w.heap.size w).alloc (Nat.le_refl _) (.cells #[.int .i64 T, .int .i64 fl, .int .i64 st, .int .i64 pd, .slice A n c, .slice A2 n2 c2, .int .i64 wt, .int .i64 pa, .bool al, .int .i64 pm, .int .i64 la, .int .i64 co, .int .i64 sp] 28))
  obtain ⟨f0_, f1_, f2_, f3_, f4_, f5_, f6_, f7_, f8_, f9_, f10_, f11_, f12_⟩ := row13 R0.out
  go_enter Try.func69, Try.ntmps69
  go_wp2_with fail
  refine (rhas4_any T fl hfl _).mono ?_
  rintro e w1 ⟨rfl, rfl⟩
  go_wp2_with fail
  go_ret
  exact ⟨rfl, E0.out⟩
set_option maxHeartbeats 1600000 in
theorem rtakesNil30 (T fl st pd : Int) (A : Option Addr) (n c : Nat) (A2 : Option Addr) (n2 c2 : Nat) (wt pa : Int) (al : Bool) (pm la co sp : Int) (c0 : Nat) (w : World) : Calls Try.prog 24 #[.slice none 0 c0, .agg #[.int .i64 T, .int .i64 fl, .int .i64 st, .int .i64 pd, .slice A n c, .slice A2 n2 c2, .int .i64 wt, .int .i64 pa, .bool al, .int .i64 pm, .int .i64 la, .int .i64 co, .int .i64 sp]] w fun e w' => e = .returned (.bool (T != 9)) ∧ Below w.heap.size w w' := by
  have R0 := hide (heap_alloc_new w (.cells #[.int .i64 T, .int .i64 fl, .int .i64 st, .int .i64 pd, .slice A n c, .slice A2 n2 c2, .int .i64 wt, .int .i64 pa, .bool al, .int .i64 pm, .int .i64 la, .int .i64 co, .int .i64 sp] 28))
  have E0 := hide ((Below.refl w.heap.size w).alloc (Nat.le_refl _) (.cells #[.int .i64 T, .int .i64 fl, .int .i64 st, .int .i64 pd, .slice A n c, .slice A2 n2 c2, .int .i64 wt, .int .i64 pa, .bool al, .int .i64 pm, .int .i64 la, .int .i64 co, .int .i64 sp] 28))
  obtain ⟨f0_, f1_, f2_, f3_, f4_, f5_, f6_, f7_, f8_, f9_, f10_, f11_, f12_⟩ := row13 R0.out
  go_enter Try.func24, Try.ntmps24
  go_wp2_with fail
  go_ret
  exact ⟨rfl, E0.out⟩
/-- Nobody's. -/
theorem takesNobody30 (T fl st pd : Int) (A : Option Addr) (n c : Nat) (A2 : Option Addr) (n2 c2 : Nat) (wt pa : Int) (al : Bool) (pm la co sp : Int) (w : World) : Calls Try.prog 23 #[.pointer none, .agg #[.int .i64 T, .int .i64 fl, .int .i64 st, .int .i64 pd, .slice A n c, .slice A2 n2 c2, .int .i64 wt, .int .i64 pa, .bool al, .int .i64 pm, .int .i64 la, .int .i64 co, .int .i64 sp]] w fun e w' => e = .returned (.bool false) ∧ Below w.heap.size w w' := by
  have E0 := hide ((Below.refl w.heap.size w).alloc (Nat.le_refl _) (.cells #[.int .i64 T, .int .i64 fl, .int .i64 st, .int .i64 pd, .slice A n c, .slice A2 n2 c2, .int .i64 wt, .int .i64 pa, .bool al, .int .i64 pm, .int .i64 la, .int .i64 co, .int .i64 sp] 28))
  go_enter Try.func23, Try.ntmps23
  go_wp2_with fail
  go_ret
  exact ⟨rfl, E0.out⟩
theorem openNobody30 (w : World) : Calls Try.prog 27 #[.pointer none] w fun e w' => e = .returned (.tuple #[.int .i64 0, .bool false]) ∧ w = w' := by
  go_enter Try.func27, Try.ntmps27
  go_wp2_with fail
  go_ret2
  exact ⟨rfl, rfl⟩
set_option maxHeartbeats 1600000 in
theorem addNobody30 (T fl st pd : Int) (A : Option Addr) (n c : Nat) (A2 : Option Addr) (n2 c2 : Nat) (wt pa : Int) (al : Bool) (pm la co sp : Int) (w : World) : Calls Try.prog 25 #[.pointer none, .agg #[.int .i64 T, .int .i64 fl, .int .i64 st, .int .i64 pd, .slice A n c, .slice A2 n2 c2, .int .i64 wt, .int .i64 pa, .bool al, .int .i64 pm, .int .i64 la, .int .i64 co, .int .i64 sp]] w fun e w' => e = .returned (.tuple #[.agg z13, .bool false, .int .i64 2]) ∧ Below w.heap.size w w' := by
  obtain ⟨x0, x1, e0⟩ := heap2fZ w #[.int .i64 T, .int .i64 fl, .int .i64 st, .int .i64 pd, .slice A n c, .slice A2 n2 c2, .int .i64 wt, .int .i64 pa, .bool al, .int .i64 pm, .int .i64 la, .int .i64 co, .int .i64 sp] z13 28 28
  have E0 := hide e0
  clear x0 x1 e0
  go_enter Try.func25, Try.ntmps25
  go_wp2_with fail
  refine bodyPost_ret (v := .tuple #[.agg z13, .bool false, .int .i64 2]) ?_ rfl ⟨rfl, E0.out⟩
  rw [results_ctt30 rfl]
  go_simp
end Go.Proofs.Ytelcpfjifhobjaa
