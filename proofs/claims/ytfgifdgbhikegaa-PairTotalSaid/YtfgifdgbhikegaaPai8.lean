/- The contracts of layer 6, more: a half and a quarter are no amounts. -/
import Derived.Test.YtfgifdgbhikegaaPai7
namespace Go.Proofs.Ytfgifdgbhikegaa
open Ieee

theorem arch_at {x r : Nat} {t : Bool} {m : Nat} {e : Int} (hd : FloatKind.f64.decode x = .number t m e) (hr : double.write ((Datum.number t m e).integral .zero) = r) (w : World) :
    (callFunc 91 #[.float .f64 x]).run Try.prog w = .ok (.value (.float .f64 r)) w := by
  refine (run_callFunc_extern (P := Try.prog) Try.func91 (by kernel_rfl) (by kernel_rfl) (by kernel_rfl) (e := Extern.MathFloor.toIntegral "math.archTrunc" .zero) (by kernel_rfl) #[.float .f64 x] w).trans ?_
  have e : (Extern.MathFloor.toIntegral "math.archTrunc" .zero #[.float .f64 x] : Sem Value) = pure (.float .f64 r) := by
    rw [← hr]
    conv => lhs; whnf
    rw [hd]
    rfl
  rw [e]
  rfl
/-- A word between nought and one. -/
def Small (x : Nat) : Prop := (∃ m e, FloatKind.f64.decode x = .number false m e ∧ double.write ((Datum.number false m e).integral .zero) = 0) ∧ FloatKind.f64.format.order (x % 9223372036854775808) 4841369599423283200 = some .lt ∧ FloatKind.f64.format.order x 0 = some .gt
theorem small_half : Small 4602678819172646912 := ⟨⟨_, _, rfl, by decide⟩, by decide, by decide⟩
theorem small_quarter : Small 4598175219545276416 := ⟨⟨_, _, rfl, by decide⟩, by decide, by decide⟩
theorem trunc_small {x : Nat} (h : Small x) (w : World) : Calls Try.prog 87 #[.float .f64 x] w fun e w' => e = .returned (.float .f64 0) ∧ w = w' := by
  obtain ⟨⟨m, e, hd, hr⟩, _⟩ := h
  have h1 := arch_at hd hr w
  clear hd hr
  go_enter Try.func87, Try.ntmps87
  go_wp2
  go_ret
  exact ⟨rfl, rfl⟩
theorem isAm_small {x : Nat} (h : Small x) (w : World) : Calls Try.prog 79 #[.float .f64 x] w fun e w' => e = .returned (.bool false) ∧ w = w' := by
  have ht := trunc_small h w
  obtain ⟨_, h1, h2⟩ := h
  have g2 : (FloatKind.f64.format.order x 0 == some .eq) = false := by rw [h2]; rfl
  clear h2
  go_enter Try.func79, Try.ntmps79
  go_wp2_with (go_at_call 86; refine (abs_any x w).mono ?_; rintro e w' ⟨rfl, rfl⟩)
  go_wp2_with (go_at_call 87; refine ht.mono ?_; rintro e w' ⟨rfl, rfl⟩)
  go_ret
  exact ⟨rfl, rfl⟩
end Go.Proofs.Ytfgifdgbhikegaa
