/- The contracts of layer 6, more: swapped, moved. -/
import Derived.Test.YtfgifdgbhikegaaPai3
namespace Go.Proofs.Ytfgifdgbhikegaa
open Ieee

theorem mul_i {x y : Nat} {a b : Int} (hx : Val x a) (hy : Val y b) (ha : AmP a) (hb : AmP b) : ∃ re im, cMulBits x y 0 4607182418800017408 = some (re, im) ∧ Val re (-b) ∧ Val im a := by
  unfold AmP at ha hb
  obtain ⟨p, hp, vp⟩ := mul_zero_val hx
  obtain ⟨q, hq, vq⟩ := mul_one_val hy (by omega) (by omega)
  obtain ⟨r, hr, vr⟩ := mul_one_val hx (by omega) (by omega)
  obtain ⟨s, hs, vs⟩ := mul_zero_val hy
  obtain ⟨re, hre, vre⟩ := sub_val vp vq (by omega) (by omega)
  obtain ⟨im, him, vim⟩ := add_val vr vs (by omega) (by omega)
  refine ⟨re, im, ?_, ?_, ?_⟩
  · unfold cMulBits
    simp only [hp, hq, hr, hs, hre, him, Option.bind_some]
  · rwa [Int.zero_sub] at vre
  · rwa [Int.add_zero] at vim
theorem AmP.neg {a : Int} (h : AmP a) : AmP (-a) := by unfold AmP at *; omega
theorem swap_ok {v : Value} {a b : Int} (h : PV v a b) (w : World) : ∃ v', PV v' b a ∧ Calls Try.prog 17 #[v] w fun e w' => e = .returned (.tuple #[v', .int .i64 0]) ∧ w = w' := by
  obtain ⟨x, y, rfl, hx, hy⟩ := h
  have h2 := isPair_yes hx hy
  obtain ⟨re, im, hm, v1, v2⟩ := mul_i hx.1 (neg_val hy.1) hx.2 hy.2.neg
  rw [Int.neg_neg] at v1
  refine ⟨.complex .f64 re im, ⟨re, im, rfl, ⟨v1, hy.2⟩, ⟨v2, hx.2⟩⟩, ?_⟩
  have c1 := fun w => run_complex_mul (P := Try.prog) w 24 x (Op.negFloat .f64 y) 0 4607182418800017408 re im hm
  have u1 : Op.unary .neg (.float .f64 y) = pure (.float .f64 (Op.negFloat .f64 y)) := rfl
  generalize Op.negFloat .f64 y = ny at *
  clear hx hy hm v1 v2
  go_enter Try.func17, Try.ntmps17
  go_wp2_with fail
  refine (h2 _).mono ?_
  rintro e w' ⟨rfl, rfl⟩
  go_wp2_with fail
  go_ret2
  exact ⟨rfl, rfl⟩
theorem swap_form (v : Value) (hv : ∀ w, Calls Try.prog 56 #[v] w fun e w' => e = .returned (.bool false) ∧ w = w') (w : World) : Calls Try.prog 17 #[v] w fun e w' => e = .returned (.tuple #[.complex .f64 0 0, .int .i64 4]) ∧ w = w' := by
  go_enter Try.func17, Try.ntmps17
  go_wp2_with fail
  refine (hv _).mono ?_
  rintro e w' ⟨rfl, rfl⟩
  go_wp2_with fail
  go_ret2
  exact ⟨rfl, rfl⟩
theorem sum_pv {x y p q : Nat} {a b c d : Int} (hx : AmW x a) (hy : AmW y b) (hp : AmW p c) (hq : AmW q d) :
    ∃ re im, cSumBits .add .f64 x y p q = some (re, im) ∧ Val re (a + c) ∧ Val im (b + d) := by
  obtain ⟨hx, ha⟩ := hx
  obtain ⟨hy, hb⟩ := hy
  obtain ⟨hp, hc⟩ := hp
  obtain ⟨hq, hd⟩ := hq
  unfold AmP at ha hb hc hd
  obtain ⟨re, hre, vre⟩ := add_val hx hp (by omega) (by omega)
  obtain ⟨im, him, vim⟩ := add_val hy hq (by omega) (by omega)
  refine ⟨re, im, ?_, vre, vim⟩
  unfold cSumBits
  simp only [hre, him]
  rfl
theorem isPair_dec {x y : Nat} {a b : Int} (hx : Val x a) (hy : Val y b) (w : World) : Calls Try.prog 56 #[.complex .f64 x y] w fun e w' => e = .returned (.bool (decide (AmP a ∧ AmP b))) ∧ w = w' := by
  by_cases ha : AmP a
  · by_cases hb : AmP b
    · rw [decide_eq_true ⟨ha, hb⟩]
      exact isPair_yes ⟨hx, ha⟩ ⟨hy, hb⟩ w
    · rw [decide_eq_false (fun h => hb h.2)]
      exact isPair_no2 ⟨hx, ha⟩ (isAm_no (order_no hy hb)) w
  · rw [decide_eq_false (fun h => ha h.1)]
    exact isPair_no1 (isAm_no (order_no hx ha)) w
end Go.Proofs.Ytfgifdgbhikegaa
