/- The contracts of layer 6: an amount, a side, a pair. -/
import Derived.Test.YtfgifdgbhikegaaFlo5
import Derived.Test.YtfgifdgbhikegaaSame
import Derived.Laws.Externs
import Derived.Laws.Cover3
import Derived.Laws.BitsAllLaws
import Derived.WalkLawsBesides
namespace Go.Proofs.Ytfgifdgbhikegaa
open Ieee

theorem frombits_run (x : Nat) (w : World) : (callFunc 89 #[.int .u64 (x : Int)]).run Try.prog w = .ok (.value (.float .f64 x)) w := by
  exact (run_callFunc_extern (P := Try.prog) Try.func89 (by kernel_rfl) (by kernel_rfl) (by kernel_rfl) (e := Extern.MathFloatBits.float64frombits) (by kernel_rfl) #[.int .u64 (x : Int)] w).trans rfl
theorem tobits_run (x : Nat) (w : World) : (callFunc 90 #[.float .f64 x]).run Try.prog w = .ok (.value (.int .u64 (x : Int))) w := by
  exact (run_callFunc_extern (P := Try.prog) Try.func90 (by kernel_rfl) (by kernel_rfl) (by kernel_rfl) (e := Extern.MathFloatBits.float64bits) (by kernel_rfl) #[.float .f64 x] w).trans rfl
theorem integral_dval {d : Datum} {n : Int} (h : DVal d n) : ∃ s, d.integral .zero = .number s n.natAbs 0 ∧ (if s then -((n.natAbs : Nat) : Int) else ((n.natAbs : Nat) : Int)) = n := by
  have h2 := toInt_dval h
  obtain ⟨s, m, u, rfl, he⟩ := h
  refine ⟨s, ?_, dval_sign he⟩
  simp only [Datum.toInt, Datum.integral, signed, Nat.shiftLeft_zero, Option.some.injEq] at h2 ⊢
  have : Toward.zero.cut s (m <<< ((u : Int) - 1074).toNat) (-((u : Int) - 1074)).toNat = n.natAbs := by
    rw [← h2]
    cases s
    · simp only [Bool.false_eq_true, if_false, Int.natAbs_natCast]
    · simp only [if_true, Int.natAbs_neg, Int.natAbs_natCast]
  rw [this]
theorem arch_run {x : Nat} {a : Int} (h : Val x a) (h2 : a.natAbs ≤ 9007199254740992) (w : World) :
    ∃ r, (callFunc 91 #[.float .f64 x]).run Try.prog w = .ok (.value (.float .f64 r)) w ∧ Val r a := by
  obtain ⟨s, hi, hs⟩ := integral_dval h
  refine ⟨double.write (.number s a.natAbs 0), ?_, ?_⟩
  · refine (run_callFunc_extern (P := Try.prog) Try.func91 (by kernel_rfl) (by kernel_rfl) (by kernel_rfl) (e := Extern.MathFloor.toIntegral "math.archTrunc" .zero) (by kernel_rfl) #[.float .f64 x] w).trans ?_
    obtain ⟨t, m, u, hr, he⟩ := h
    have e : (Extern.MathFloor.toIntegral "math.archTrunc" .zero #[.float .f64 x] : Sem Value) = pure (.float .f64 (double.write (.number s a.natAbs 0))) := by
      rw [← hi]
      have hd : FloatKind.f64.decode x = .number t m ((u : Int) - 1074) := hr
      conv => lhs; whnf
      rw [hd, hr]
      rfl
    rw [e]
    rfl
  · have h3 := write_val s a.natAbs sc a.natAbs rfl h2
    rw [hs] at h3
    exact h3
theorem andNot_sign (x : Nat) : bits .andNot .u64 (x : Int) 9223372036854775808 = ((x % 9223372036854775808 : Nat) : Int) := by
  have h := u64_andNot_nat (x % 18446744073709551616) 9223372036854775808 (Nat.mod_lt _ (by decide)) (by decide)
  rw [clear_sign, show x % 18446744073709551616 % 9223372036854775808 = x % 9223372036854775808 by omega] at h
  rw [← h]
  have e : BitVec.ofInt 64 ((x % 18446744073709551616 : Nat) : Int) = BitVec.ofInt 64 (x : Int) := by
    rw [BitVec.ofInt_natCast, BitVec.ofInt_natCast]
    apply BitVec.eq_of_toNat_eq
    simp
  show IntKind.u64.wrap ((BitVec.ofInt 64 (x : Int) &&& ~~~BitVec.ofInt 64 9223372036854775808).toNat : Int) = IntKind.u64.wrap ((BitVec.ofInt 64 ((x % 18446744073709551616 : Nat) : Int) &&& ~~~BitVec.ofInt 64 9223372036854775808).toNat : Int)
  rw [e]

theorem abs_any (x : Nat) (w : World) : Calls Try.prog 86 #[.float .f64 x] w fun e w' => e = .returned (.float .f64 (x % 9223372036854775808)) ∧ w = w' := by
  have h1 := tobits_run x
  have h2 : ∀ w : World, (callFunc 89 #[.int .u64 ((x : Int) % 9223372036854775808)]).run Try.prog w = .ok (.value (.float .f64 (x % 9223372036854775808))) w := fun w => by simpa using frombits_run (x % 9223372036854775808) w
  have h3 := andNot_sign x
  go_enter Try.func86, Try.ntmps86
  go_wp2
  go_ret
  exact ⟨rfl, rfl⟩
theorem trunc_any {x : Nat} {a : Int} (h : Val x a) (h2 : a.natAbs ≤ 9007199254740992) (w : World) :
    ∃ r, Val r a ∧ Calls Try.prog 87 #[.float .f64 x] w fun e w' => e = .returned (.float .f64 r) ∧ w = w' := by
  obtain ⟨r, h1, hr⟩ := arch_run h h2 w
  refine ⟨r, hr, ?_⟩
  go_enter Try.func87, Try.ntmps87
  go_wp2
  go_ret
  exact ⟨rfl, rfl⟩
end Go.Proofs.Ytfgifdgbhikegaa
