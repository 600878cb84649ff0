/- Pai1, Pai2, Pai3, Pai4, Pai5, Pai6, Pai7, Pai8, Pai9 in one text. -/
import Derived.Test.YtopgcimjdlhclaaMP
import Derived.Test.YtopgcimjdlhclaaMA
import Derived.Laws.Externs
import Derived.Laws.Cover3
import Derived.Laws.BitsAllLaws
import Derived.WalkLawsBesides
import Derived.Laws.ResultCell
namespace Go.Proofs.Ytopgcimjdlhclaa
section
open Ieee

theorem frombits_run (x : Nat) (w : World) : (callFunc 112 #[.int .u64 (x : Int)]).run Try.prog w = .ok (.value (.float .f64 x)) w := by
  exact (run_callFunc_extern (P := Try.prog) Try.func112 (by kernel_rfl) (by kernel_rfl) (by kernel_rfl) (e := Extern.MathFloatBits.float64frombits) (by kernel_rfl) #[.int .u64 (x : Int)] w).trans rfl
theorem tobits_run (x : Nat) (w : World) : (callFunc 113 #[.float .f64 x]).run Try.prog w = .ok (.value (.int .u64 (x : Int))) w := by
  exact (run_callFunc_extern (P := Try.prog) Try.func113 (by kernel_rfl) (by kernel_rfl) (by kernel_rfl) (e := Extern.MathFloatBits.float64bits) (by kernel_rfl) #[.float .f64 x] w).trans rfl
theorem integral_dval {d : Datum} {n : Int} (h : DVal d n) : ∃ s, d.integral .zero = .number s n.natAbs 0 ∧ (if s then -((n.natAbs : Nat) : Int) else ((n.natAbs : Nat) : Int)) = n := by
  have h2 := toInt_dval h
  obtain ⟨s, m, u, rfl, he⟩ := h
  refine ⟨s, ?_, dval_sign he⟩
  simp only [Datum.toInt, Datum.integral, signed, Nat.shiftLeft_zero, Option.some.injEq] at h2 ⊢
  have : Toward.zero.cut s (m <<< ((u : Int) - 1074).toNat) (-((u : Int) - 1074)).toNat = n.natAbs := by
    rw [← h2]
    cases s
    · simp only [Bool.false_eq_true, if_false, Int.natAbs_natCast]
    · simp only [if_true, Int.natAbs_neg, Int.natAbs_natCast]
  rw [this]
theorem arch_run {x : Nat} {a : Int} (h : Val x a) (h2 : a.natAbs ≤ 9007199254740992) (w : World) :
    ∃ r, (callFunc 114 #[.float .f64 x]).run Try.prog w = .ok (.value (.float .f64 r)) w ∧ Val r a := by
  obtain ⟨s, hi, hs⟩ := integral_dval h
  refine ⟨double.write (.number s a.natAbs 0), ?_, ?_⟩
  · refine (run_callFunc_extern (P := Try.prog) Try.func114 (by kernel_rfl) (by kernel_rfl) (by kernel_rfl) (e := Extern.MathFloor.toIntegral "math.archTrunc" .zero) (by kernel_rfl) #[.float .f64 x] w).trans ?_
    obtain ⟨t, m, u, hr, he⟩ := h
    have e : (Extern.MathFloor.toIntegral "math.archTrunc" .zero #[.float .f64 x] : Sem Value) = pure (.float .f64 (double.write (.number s a.natAbs 0))) := by
      rw [← hi]
      have hd : FloatKind.f64.decode x = .number t m ((u : Int) - 1074) := hr
      conv => lhs; whnf
      rw [hd, hr]
      rfl
    rw [e]
    rfl
  · have h3 := write_val s a.natAbs sc a.natAbs rfl h2
    rw [hs] at h3
    exact h3
theorem andNot_sign (x : Nat) : bits .andNot .u64 (x : Int) 9223372036854775808 = ((x % 9223372036854775808 : Nat) : Int) := by
  have h := u64_andNot_nat (x % 18446744073709551616) 9223372036854775808 (Nat.mod_lt _ (by decide)) (by decide)
  rw [clear_sign, show x % 18446744073709551616 % 9223372036854775808 = x % 9223372036854775808 by omega] at h
  rw [← h]
  have e : BitVec.ofInt 64 ((x % 18446744073709551616 : Nat) : Int) = BitVec.ofInt 64 (x : Int) := by
    rw [BitVec.ofInt_natCast, BitVec.ofInt_natCast]
    apply BitVec.eq_of_toNat_eq
    simp
  show IntKind.u64.wrap ((BitVec.ofInt 64 (x : Int) &&& ~~~BitVec.ofInt 64 9223372036854775808).toNat : Int) = IntKind.u64.wrap ((BitVec.ofInt 64 ((x % 18446744073709551616 : Nat) : Int) &&& ~~~BitVec.ofInt 64 9223372036854775808).toNat : Int)
  rw [e]

theorem abs_any (x : Nat) (w : World) : Calls Try.prog 110 #[.float .f64 x] w fun e w' => e = .returned (.float .f64 (x % 9223372036854775808)) ∧ w = w' := by
  have h1 := tobits_run x
  have h2 : ∀ w : World, (callFunc 112 #[.int .u64 ((x : Int) % 9223372036854775808)]).run Try.prog w = .ok (.value (.float .f64 (x % 9223372036854775808))) w := fun w => by simpa using frombits_run (x % 9223372036854775808) w
  have h3 := andNot_sign x
  go_enter Try.func110, Try.ntmps110
  go_wp2
  go_ret
  exact ⟨rfl, rfl⟩
set_option maxRecDepth 20000 in
theorem trunc_any {x : Nat} {a : Int} (h : Val x a) (h2 : a.natAbs ≤ 9007199254740992) (w : World) :
    ∃ r, Val r a ∧ Calls Try.prog 111 #[.float .f64 x] w fun e w' => e = .returned (.float .f64 r) ∧ w = w' := by
  obtain ⟨r, h1, hr⟩ := arch_run h h2 w
  refine ⟨r, hr, ?_⟩
  go_enter Try.func111, Try.ntmps111
  go_wp2
  go_ret
  exact ⟨rfl, rfl⟩
end

section
open Ieee

/-- The number may be an amount. -/
def AmP (a : Int) : Prop := -4503599627370496 ≤ a ∧ a ≤ 4503599627370496
instance (a : Int) : Decidable (AmP a) := inferInstanceAs (Decidable (_ ∧ _))
theorem AmP.wide {a : Int} (h : AmP a) : a.natAbs ≤ 9007199254740992 := by unfold AmP at h; omega
theorem order_yes {x : Nat} {a : Int} (h : Val x a) (ha : AmP a) : FloatKind.f64.format.order (x % 9223372036854775808) 4841369599423283200 = some .lt ∨ FloatKind.f64.format.order (x % 9223372036854775808) 4841369599423283200 = some .eq := by
  have e := order_val (abs_val h) val_max
  unfold AmP at ha
  rcases Int.lt_trichotomy (a.natAbs : Int) 4503599627370496 with h1 | h1 | h1
  · simp only [compare, compareOfLessAndEq, h1, if_true] at e
    exact Or.inl e
  · rw [h1] at e
    exact Or.inr e
  · omega
theorem order_no {x : Nat} {a : Int} (h : Val x a) (ha : ¬ AmP a) : FloatKind.f64.format.order (x % 9223372036854775808) 4841369599423283200 = some .gt := by
  refine (order_val (abs_val h) val_max).trans ?_
  unfold AmP at ha
  have n1 : ¬ (a.natAbs : Int) < 4503599627370496 := by omega
  have n2 : ¬ (a.natAbs : Int) = 4503599627370496 := by omega
  simp only [compare, compareOfLessAndEq, n1, n2, if_false]
theorem order_same {x y : Nat} {a : Int} (h : Val x a) (k : Val y a) : FloatKind.f64.format.order x y = some .eq := by
  refine (order_val h k).trans ?_
  have n1 : ¬ a < a := by omega
  simp only [compare, compareOfLessAndEq, n1, if_false, if_true]

theorem isAm_yes {x : Nat} {a : Int} (h : Val x a) (ha : AmP a) (w : World) : Calls Try.prog 109 #[.float .f64 x] w fun e w' => e = .returned (.bool true) ∧ w = w' := by
  obtain ⟨r, hr, ht⟩ := trunc_any h ha.wide w
  have h2 := order_same h hr
  rcases order_yes h ha with h1 | h1
  all_goals
    go_enter Try.func109, Try.ntmps109
    go_wp2_with (go_at_call 110; refine (abs_any x w).mono ?_; rintro e w' ⟨rfl, rfl⟩)
    go_wp2_with (go_at_call 111; refine ht.mono ?_; rintro e w' ⟨rfl, rfl⟩)
    go_ret
    exact ⟨rfl, rfl⟩
theorem isAm_no {x : Nat} (h1 : FloatKind.f64.format.order (x % 9223372036854775808) 4841369599423283200 = some .gt) (w : World) : Calls Try.prog 109 #[.float .f64 x] w fun e w' => e = .returned (.bool false) ∧ w = w' := by
  have g1 : (FloatKind.f64.format.order (x % 9223372036854775808) 4841369599423283200 == some .lt) = false := by rw [h1]; rfl
  have g2 : (FloatKind.f64.format.order (x % 9223372036854775808) 4841369599423283200 == some .eq) = false := by rw [h1]; rfl
  clear h1
  go_enter Try.func109, Try.ntmps109
  go_wp2_with (go_at_call 110; refine (abs_any x w).mono ?_; rintro e w' ⟨rfl, rfl⟩)
  go_ret
  exact ⟨rfl, rfl⟩
/-- A word is an amount's, or is none's. -/
def AmW (x : Nat) (a : Int) : Prop := Val x a ∧ AmP a
def NotW (x : Nat) : Prop := FloatKind.f64.format.order (x % 9223372036854775808) 4841369599423283200 = some .gt
theorem isPair_yes {x y : Nat} {a b : Int} (h : AmW x a) (k : AmW y b) (w : World) : Calls Try.prog 104 #[.complex .f64 x y] w fun e w' => e = .returned (.bool true) ∧ w = w' := by
  have h1 := isAm_yes h.1 h.2 w
  have h2 := isAm_yes k.1 k.2 w
  clear h k
  go_enter Try.func104, Try.ntmps104
  go_wp2_with fail
  refine h1.mono ?_
  rintro e w' ⟨rfl, rfl⟩
  go_wp2_with fail
  refine h2.mono ?_
  rintro e w' ⟨rfl, rfl⟩
  go_wp2_with fail
  go_ret
  exact ⟨rfl, rfl⟩
theorem isPair_no1 {x y : Nat} (h1 : ∀ w, Calls Try.prog 109 #[.float .f64 x] w fun e w' => e = .returned (.bool false) ∧ w = w') (w : World) : Calls Try.prog 104 #[.complex .f64 x y] w fun e w' => e = .returned (.bool false) ∧ w = w' := by
  go_enter Try.func104, Try.ntmps104
  go_wp2_with fail
  refine (h1 _).mono ?_
  rintro e w' ⟨rfl, rfl⟩
  go_wp2_with fail
  go_ret
  exact ⟨rfl, rfl⟩
theorem isPair_no2 {x y : Nat} {a : Int} (h : AmW x a) (h2 : ∀ w, Calls Try.prog 109 #[.float .f64 y] w fun e w' => e = .returned (.bool false) ∧ w = w') (w : World) : Calls Try.prog 104 #[.complex .f64 x y] w fun e w' => e = .returned (.bool false) ∧ w = w' := by
  have h1 := isAm_yes h.1 h.2 w
  clear h
  go_enter Try.func104, Try.ntmps104
  go_wp2_with fail
  refine h1.mono ?_
  rintro e w' ⟨rfl, rfl⟩
  go_wp2_with fail
  refine (h2 _).mono ?_
  rintro e w' ⟨rfl, rfl⟩
  go_wp2_with fail
  go_ret
  exact ⟨rfl, rfl⟩
theorem isSide_any (n : Int) (w : World) : Calls Try.prog 103 #[.int .i64 n] w fun e w' => e = .returned (.bool (decide (n = 0 ∨ n = 1))) ∧ w = w' := by
  by_cases h0 : n = 0
  · subst h0
    go_enter Try.func103, Try.ntmps103
    go_wp2
    go_ret
    exact ⟨rfl, rfl⟩
  · by_cases h1 : n = 1
    · subst h1
      go_enter Try.func103, Try.ntmps103
      go_wp2
      go_ret
      exact ⟨rfl, rfl⟩
    · have d0 : (n == 0) = false := by simpa using h0
      have d1 : (n == 1) = false := by simpa using h1
      have d2 : decide (n = 0 ∨ n = 1) = false := decide_eq_false (by omega)
      rw [d2]
      go_enter Try.func103, Try.ntmps103
      go_wp2
      go_ret
      exact ⟨rfl, rfl⟩
end

section
open Ieee

theorem int_word {a : Int} (h : AmP a) : AmW (floatOfInt .f64 a) a := by
  refine ⟨of_int a ?_ ?_, h⟩
  · unfold AmP at h; omega
  · unfold AmP at h; omega
theorem int_not {a : Int} (h : ¬ AmP a) (h1 : -9223372036854775808 ≤ a) (h2 : a ≤ 9223372036854775807) : NotW (floatOfInt .f64 a) := by
  by_cases hb : a.natAbs ≤ 9007199254740992
  · exact order_no (of_int a (by omega) (by omega)) h
  · exact big_above a (by omega) (by omega)

theorem of_ok {a b : Int} (ha : AmP a) (hb : AmP b) (w : World) : Calls Try.prog 108 #[.int .i64 a, .int .i64 b] w fun e w' =>
    e = .returned (.tuple #[.complex .f64 (floatOfInt .f64 a) (floatOfInt .f64 b), .int .i64 0]) ∧ w = w' := by
  have h1 := isPair_yes (int_word ha) (int_word hb)
  have c1 := fun w => run_convert_int_float (P := Try.prog) w 3 139 .i64 .f64 a (by kernel_rfl) (by kernel_rfl)
  have c2 := fun w => run_convert_int_float (P := Try.prog) w 3 139 .i64 .f64 b (by kernel_rfl) (by kernel_rfl)
  generalize floatOfInt .f64 a = x at *
  generalize floatOfInt .f64 b = y at *
  clear ha hb
  go_enter Try.func108, Try.ntmps108
  go_wp2_with fail
  refine (h1 _).mono ?_
  rintro e w' ⟨rfl, rfl⟩
  go_wp2_with fail
  go_ret2
  exact ⟨rfl, rfl⟩
theorem isPair_int {a b : Int} (h : ¬ (AmP a ∧ AmP b)) (h1 : -9223372036854775808 ≤ a) (h2 : a ≤ 9223372036854775807) (k1 : -9223372036854775808 ≤ b) (k2 : b ≤ 9223372036854775807) (w : World) :
    Calls Try.prog 104 #[.complex .f64 (floatOfInt .f64 a) (floatOfInt .f64 b)] w fun e w' => e = .returned (.bool false) ∧ w = w' := by
  by_cases ha : AmP a
  · exact isPair_no2 (int_word ha) (isAm_no (int_not (fun hb => h ⟨ha, hb⟩) k1 k2)) w
  · exact isPair_no1 (isAm_no (int_not ha h1 h2)) w
theorem of_no {a b : Int} (h : ¬ (AmP a ∧ AmP b)) (h1 : -9223372036854775808 ≤ a) (h2 : a ≤ 9223372036854775807) (k1 : -9223372036854775808 ≤ b) (k2 : b ≤ 9223372036854775807) (w : World) : Calls Try.prog 108 #[.int .i64 a, .int .i64 b] w fun e w' =>
    e = .returned (.tuple #[.complex .f64 0 0, .int .i64 5]) ∧ w = w' := by
  have p1 := isPair_int h h1 h2 k1 k2
  have c1 := fun w => run_convert_int_float (P := Try.prog) w 3 139 .i64 .f64 a (by kernel_rfl) (by kernel_rfl)
  have c2 := fun w => run_convert_int_float (P := Try.prog) w 3 139 .i64 .f64 b (by kernel_rfl) (by kernel_rfl)
  generalize floatOfInt .f64 a = x at *
  generalize floatOfInt .f64 b = y at *
  clear h h1 h2 k1 k2
  go_enter Try.func108, Try.ntmps108
  go_wp2_with fail
  refine (p1 _).mono ?_
  rintro e w' ⟨rfl, rfl⟩
  go_wp2_with fail
  go_ret2
  exact ⟨rfl, rfl⟩

/-- A value is the pair of a and b. -/
def PV (v : Value) (a b : Int) : Prop := ∃ x y, v = .complex .f64 x y ∧ AmW x a ∧ AmW y b
theorem side_bad (v : Value) (n : Int) (h : ¬ (n = 0 ∨ n = 1)) (w : World) : Calls Try.prog 92 #[v, .int .i64 n] w fun e w' => e = .returned (.tuple #[.int .i64 0, .int .i64 1]) ∧ w = w' := by
  have h1 := isSide_any n
  rw [decide_eq_false h] at h1
  clear h
  go_enter Try.func92, Try.ntmps92
  go_wp2_with fail
  refine (h1 _).mono ?_
  rintro e w' ⟨rfl, rfl⟩
  go_wp2_with fail
  go_ret2
  exact ⟨rfl, rfl⟩
theorem side_form (v : Value) (n : Int) (h : n = 0 ∨ n = 1) (hv : ∀ w, Calls Try.prog 104 #[v] w fun e w' => e = .returned (.bool false) ∧ w = w') (w : World) : Calls Try.prog 92 #[v, .int .i64 n] w fun e w' => e = .returned (.tuple #[.int .i64 0, .int .i64 4]) ∧ w = w' := by
  have h1 := isSide_any n
  rw [decide_eq_true h] at h1
  clear h
  go_enter Try.func92, Try.ntmps92
  go_wp2_with fail
  refine (h1 _).mono ?_
  rintro e w' ⟨rfl, rfl⟩
  go_wp2_with fail
  refine (hv _).mono ?_
  rintro e w' ⟨rfl, rfl⟩
  go_wp2_with fail
  go_ret2
  exact ⟨rfl, rfl⟩
theorem AmW.int {x : Nat} {a : Int} (h : AmW x a) (w : World) : (convert 139 3 (.float .f64 x)).run Try.prog w = .ok (.int .i64 a) w :=
  run_convert_float_int (P := Try.prog) w 139 3 .f64 .i64 x a (by kernel_rfl) (by kernel_rfl) (toInt_val h.1 (by have := h.2; unfold AmP at this; omega) (by have := h.2; unfold AmP at this; omega))
theorem side_0 {v : Value} {a b : Int} (h : PV v a b) (w : World) : Calls Try.prog 92 #[v, .int .i64 0] w fun e w' => e = .returned (.tuple #[.int .i64 a, .int .i64 0]) ∧ w = w' := by
  obtain ⟨x, y, rfl, hx, hy⟩ := h
  have h1 := isSide_any 0
  rw [decide_eq_true (by omega)] at h1
  have h2 := isPair_yes hx hy
  have c1 := hx.int
  clear hx hy
  go_enter Try.func92, Try.ntmps92
  go_wp2_with fail
  refine (h1 _).mono ?_
  rintro e w' ⟨rfl, rfl⟩
  go_wp2_with fail
  refine (h2 _).mono ?_
  rintro e w' ⟨rfl, rfl⟩
  go_wp2_with fail
  go_ret2
  exact ⟨rfl, rfl⟩
theorem side_1 {v : Value} {a b : Int} (h : PV v a b) (w : World) : Calls Try.prog 92 #[v, .int .i64 1] w fun e w' => e = .returned (.tuple #[.int .i64 b, .int .i64 0]) ∧ w = w' := by
  obtain ⟨x, y, rfl, hx, hy⟩ := h
  have h1 := isSide_any 1
  rw [decide_eq_true (by omega)] at h1
  have h2 := isPair_yes hx hy
  have c1 := hy.int
  clear hx hy
  go_enter Try.func92, Try.ntmps92
  go_wp2_with fail
  refine (h1 _).mono ?_
  rintro e w' ⟨rfl, rfl⟩
  go_wp2_with fail
  refine (h2 _).mono ?_
  rintro e w' ⟨rfl, rfl⟩
  go_wp2_with fail
  go_ret2
  exact ⟨rfl, rfl⟩
end

section
open Ieee

theorem mul_i {x y : Nat} {a b : Int} (hx : Val x a) (hy : Val y b) (ha : AmP a) (hb : AmP b) : ∃ re im, cMulBits x y 0 4607182418800017408 = some (re, im) ∧ Val re (-b) ∧ Val im a := by
  unfold AmP at ha hb
  obtain ⟨p, hp, vp⟩ := mul_zero_val hx
  obtain ⟨q, hq, vq⟩ := mul_one_val hy (by omega) (by omega)
  obtain ⟨r, hr, vr⟩ := mul_one_val hx (by omega) (by omega)
  obtain ⟨s, hs, vs⟩ := mul_zero_val hy
  obtain ⟨re, hre, vre⟩ := sub_val vp vq (by omega) (by omega)
  obtain ⟨im, him, vim⟩ := add_val vr vs (by omega) (by omega)
  refine ⟨re, im, ?_, ?_, ?_⟩
  · unfold cMulBits
    simp only [hp, hq, hr, hs, hre, him, Option.bind_some]
  · rwa [Int.zero_sub] at vre
  · rwa [Int.add_zero] at vim
theorem AmP.neg {a : Int} (h : AmP a) : AmP (-a) := by unfold AmP at *; omega
theorem sum_pv {x y p q : Nat} {a b c d : Int} (hx : AmW x a) (hy : AmW y b) (hp : AmW p c) (hq : AmW q d) :
    ∃ re im, cSumBits .add .f64 x y p q = some (re, im) ∧ Val re (a + c) ∧ Val im (b + d) := by
  obtain ⟨hx, ha⟩ := hx
  obtain ⟨hy, hb⟩ := hy
  obtain ⟨hp, hc⟩ := hp
  obtain ⟨hq, hd⟩ := hq
  unfold AmP at ha hb hc hd
  obtain ⟨re, hre, vre⟩ := add_val hx hp (by omega) (by omega)
  obtain ⟨im, him, vim⟩ := add_val hy hq (by omega) (by omega)
  refine ⟨re, im, ?_, vre, vim⟩
  unfold cSumBits
  simp only [hre, him]
  rfl
theorem isPair_dec {x y : Nat} {a b : Int} (hx : Val x a) (hy : Val y b) (w : World) : Calls Try.prog 104 #[.complex .f64 x y] w fun e w' => e = .returned (.bool (decide (AmP a ∧ AmP b))) ∧ w = w' := by
  by_cases ha : AmP a
  · by_cases hb : AmP b
    · rw [decide_eq_true ⟨ha, hb⟩]
      exact isPair_yes ⟨hx, ha⟩ ⟨hy, hb⟩ w
    · rw [decide_eq_false (fun h => hb h.2)]
      exact isPair_no2 ⟨hx, ha⟩ (isAm_no (order_no hy hb)) w
  · rw [decide_eq_false (fun h => ha h.1)]
    exact isPair_no1 (isAm_no (order_no hx ha)) w
end

section
open Ieee

theorem move_bad (v : Value) (s n : Int) (h : ¬ (s = 0 ∨ s = 1)) (w : World) : Calls Try.prog 101 #[v, .int .i64 s, .int .i64 n] w fun e w' => e = .returned (.tuple #[.complex .f64 0 0, .int .i64 1]) ∧ w = w' := by
  have h1 := isSide_any s
  rw [decide_eq_false h] at h1
  clear h
  go_enter Try.func101, Try.ntmps101
  go_wp2_with fail
  refine (h1 _).mono ?_
  rintro e w' ⟨rfl, rfl⟩
  go_wp2_with fail
  go_ret2
  exact ⟨rfl, rfl⟩
theorem move_form (v : Value) (s n : Int) (h : s = 0 ∨ s = 1) (hv : ∀ w, Calls Try.prog 104 #[v] w fun e w' => e = .returned (.bool false) ∧ w = w') (w : World) : Calls Try.prog 101 #[v, .int .i64 s, .int .i64 n] w fun e w' => e = .returned (.tuple #[.complex .f64 0 0, .int .i64 4]) ∧ w = w' := by
  have h1 := isSide_any s
  rw [decide_eq_true h] at h1
  clear h
  go_enter Try.func101, Try.ntmps101
  go_wp2_with fail
  refine (h1 _).mono ?_
  rintro e w' ⟨rfl, rfl⟩
  go_wp2_with fail
  refine (hv _).mono ?_
  rintro e w' ⟨rfl, rfl⟩
  go_wp2_with fail
  go_ret2
  exact ⟨rfl, rfl⟩
theorem am0 : AmP 0 := by unfold AmP; omega
theorem move0_far {v : Value} {a b : Int} (n : Int) (h : PV v a b) (hn : ¬ AmP n) (h1 : -9223372036854775808 ≤ n) (h2 : n ≤ 9223372036854775807) (w : World) :
    Calls Try.prog 101 #[v, .int .i64 0, .int .i64 n] w fun e w' => e = .returned (.tuple #[.complex .f64 0 0, .int .i64 5]) ∧ w = w' := by
  obtain ⟨x, y, rfl, hx, hy⟩ := h
  have s1 := isSide_any 0
  rw [decide_eq_true (by omega)] at s1
  have p1 := isPair_yes hx hy
  have o1 := of_no (a := n) (b := 0) (fun h => hn h.1) h1 h2 (by omega) (by omega)
  clear hx hy hn h1 h2
  go_enter Try.func101, Try.ntmps101
  go_wp2_with fail
  refine (s1 _).mono ?_
  rintro e w' ⟨rfl, rfl⟩
  go_wp2_with fail
  refine (p1 _).mono ?_
  rintro e w' ⟨rfl, rfl⟩
  go_wp2_with fail
  refine (o1 _).mono ?_
  rintro e w' ⟨rfl, rfl⟩
  go_wp2_with fail
  go_ret2
  exact ⟨rfl, rfl⟩
theorem move1_far {v : Value} {a b : Int} (n : Int) (h : PV v a b) (hn : ¬ AmP n) (h1 : -9223372036854775808 ≤ n) (h2 : n ≤ 9223372036854775807) (w : World) :
    Calls Try.prog 101 #[v, .int .i64 1, .int .i64 n] w fun e w' => e = .returned (.tuple #[.complex .f64 0 0, .int .i64 5]) ∧ w = w' := by
  obtain ⟨x, y, rfl, hx, hy⟩ := h
  have s1 := isSide_any 1
  rw [decide_eq_true (by omega)] at s1
  have p1 := isPair_yes hx hy
  have o1 := of_no (a := n) (b := 0) (fun h => hn h.1) h1 h2 (by omega) (by omega)
  have o2 := of_no (a := 0) (b := n) (fun h => hn h.2) (by omega) (by omega) h1 h2
  clear hx hy hn h1 h2
  go_enter Try.func101, Try.ntmps101
  go_wp2_with fail
  refine (s1 _).mono ?_
  rintro e w' ⟨rfl, rfl⟩
  go_wp2_with fail
  refine (p1 _).mono ?_
  rintro e w' ⟨rfl, rfl⟩
  go_wp2_with fail
  refine (o1 _).mono ?_
  rintro e w' ⟨rfl, rfl⟩
  go_wp2_with fail
  refine (o2 _).mono ?_
  rintro e w' ⟨rfl, rfl⟩
  go_wp2_with fail
  go_ret2
  exact ⟨rfl, rfl⟩
/-- What the move gives, where the amount that comes is one. -/
def MoveV (v' : Value) (k : Int) (a b : Int) : Prop := (AmP a ∧ AmP b ∧ PV v' a b ∧ k = 0) ∨ (¬ (AmP a ∧ AmP b) ∧ v' = .complex .f64 0 0 ∧ k = 5)
theorem move0_any {v : Value} {a b : Int} (n : Int) (h : PV v a b) (hn : AmP n) (w : World) :
    ∃ v' k, MoveV v' k (a + n) b ∧ Calls Try.prog 101 #[v, .int .i64 0, .int .i64 n] w fun e w' => e = .returned (.tuple #[v', .int .i64 k]) ∧ w = w' := by
  obtain ⟨x, y, rfl, hx, hy⟩ := h
  have s1 := isSide_any 0
  rw [decide_eq_true (by omega)] at s1
  have p1 := isPair_yes hx hy
  have o1 := of_ok (a := n) (b := 0) hn am0
  have f1 := int_word hn
  have f2 := int_word am0
  obtain ⟨re, im, hs, v1, v2⟩ := sum_pv hx hy f1 f2
  rw [Int.add_zero] at v2
  have c1 := fun w => run_complex_sum (P := Try.prog) w .add (Or.inl rfl) 50 .f64 x y _ _ re im hs
  have p2 := isPair_dec v1 v2
  generalize floatOfInt .f64 n = fx at *
  generalize floatOfInt .f64 0 = fy at *
  by_cases hz : AmP (a + n) ∧ AmP b
  · refine ⟨.complex .f64 re im, 0, Or.inl ⟨hz.1, hz.2, ⟨re, im, rfl, ⟨v1, hz.1⟩, ⟨v2, hz.2⟩⟩, rfl⟩, ?_⟩
    rw [decide_eq_true hz] at p2
    clear hx hy hn f1 f2 hs v1 v2 hz
    go_enter Try.func101, Try.ntmps101
    go_wp2_with fail
    refine (s1 _).mono ?_
    rintro e w' ⟨rfl, rfl⟩
    go_wp2_with fail
    refine (p1 _).mono ?_
    rintro e w' ⟨rfl, rfl⟩
    go_wp2_with fail
    refine (o1 _).mono ?_
    rintro e w' ⟨rfl, rfl⟩
    go_wp2_with fail
    refine (p2 _).mono ?_
    rintro e w' ⟨rfl, rfl⟩
    go_wp2_with fail
    go_ret2
    exact ⟨rfl, rfl⟩
  · refine ⟨.complex .f64 0 0, 5, Or.inr ⟨hz, rfl, rfl⟩, ?_⟩
    rw [decide_eq_false hz] at p2
    clear hx hy hn f1 f2 hs v1 v2 hz
    go_enter Try.func101, Try.ntmps101
    go_wp2_with fail
    refine (s1 _).mono ?_
    rintro e w' ⟨rfl, rfl⟩
    go_wp2_with fail
    refine (p1 _).mono ?_
    rintro e w' ⟨rfl, rfl⟩
    go_wp2_with fail
    refine (o1 _).mono ?_
    rintro e w' ⟨rfl, rfl⟩
    go_wp2_with fail
    refine (p2 _).mono ?_
    rintro e w' ⟨rfl, rfl⟩
    go_wp2_with fail
    go_ret2
    exact ⟨rfl, rfl⟩
theorem move1_any {v : Value} {a b : Int} (n : Int) (h : PV v a b) (hn : AmP n) (w : World) :
    ∃ v' k, MoveV v' k a (b + n) ∧ Calls Try.prog 101 #[v, .int .i64 1, .int .i64 n] w fun e w' => e = .returned (.tuple #[v', .int .i64 k]) ∧ w = w' := by
  obtain ⟨x, y, rfl, hx, hy⟩ := h
  have s1 := isSide_any 1
  rw [decide_eq_true (by omega)] at s1
  have p1 := isPair_yes hx hy
  have o1 := of_ok (a := n) (b := 0) hn am0
  have o2 := of_ok (a := 0) (b := n) am0 hn
  have f1 := int_word hn
  have f2 := int_word am0
  obtain ⟨re, im, hs, v1, v2⟩ := sum_pv hx hy f2 f1
  rw [Int.add_zero] at v1
  have c1 := fun w => run_complex_sum (P := Try.prog) w .add (Or.inl rfl) 50 .f64 x y _ _ re im hs
  have p2 := isPair_dec v1 v2
  generalize floatOfInt .f64 n = fx at *
  generalize floatOfInt .f64 0 = fy at *
  by_cases hz : AmP a ∧ AmP (b + n)
  · refine ⟨.complex .f64 re im, 0, Or.inl ⟨hz.1, hz.2, ⟨re, im, rfl, ⟨v1, hz.1⟩, ⟨v2, hz.2⟩⟩, rfl⟩, ?_⟩
    rw [decide_eq_true hz] at p2
    clear hx hy hn f1 f2 hs v1 v2 hz
    go_enter Try.func101, Try.ntmps101
    go_wp2_with fail
    refine (s1 _).mono ?_
    rintro e w' ⟨rfl, rfl⟩
    go_wp2_with fail
    refine (p1 _).mono ?_
    rintro e w' ⟨rfl, rfl⟩
    go_wp2_with fail
    refine (o1 _).mono ?_
    rintro e w' ⟨rfl, rfl⟩
    go_wp2_with fail
    refine (o2 _).mono ?_
    rintro e w' ⟨rfl, rfl⟩
    go_wp2_with fail
    refine (p2 _).mono ?_
    rintro e w' ⟨rfl, rfl⟩
    go_wp2_with fail
    go_ret2
    exact ⟨rfl, rfl⟩
  · refine ⟨.complex .f64 0 0, 5, Or.inr ⟨hz, rfl, rfl⟩, ?_⟩
    rw [decide_eq_false hz] at p2
    clear hx hy hn f1 f2 hs v1 v2 hz
    go_enter Try.func101, Try.ntmps101
    go_wp2_with fail
    refine (s1 _).mono ?_
    rintro e w' ⟨rfl, rfl⟩
    go_wp2_with fail
    refine (p1 _).mono ?_
    rintro e w' ⟨rfl, rfl⟩
    go_wp2_with fail
    refine (o1 _).mono ?_
    rintro e w' ⟨rfl, rfl⟩
    go_wp2_with fail
    refine (o2 _).mono ?_
    rintro e w' ⟨rfl, rfl⟩
    go_wp2_with fail
    refine (p2 _).mono ?_
    rintro e w' ⟨rfl, rfl⟩
    go_wp2_with fail
    go_ret2
    exact ⟨rfl, rfl⟩
end

section
open Go.RowKit

def B6 (w : World) (b : Bool) (e : Ending) (w' : World) : Prop := e = .returned (.bool b) ∧ Below w.heap.size w w'
theorem amount_any (n : Int) (w : World) : Calls Try.prog 102 #[.int .i64 n] w fun e w' => e = .returned (.bool (decide (AmP n))) ∧ w = w' := by
  by_cases h1 : -4503599627370496 ≤ n
  · have d1 : decide (-4503599627370496 ≤ n) = true := decide_eq_true h1
    by_cases h2 : n ≤ 4503599627370496
    · have d2 : decide (n ≤ 4503599627370496) = true := decide_eq_true h2
      rw [decide_eq_true (show AmP n from ⟨h1, h2⟩)]
      clear h1 h2
      go_enter Try.func102, Try.ntmps102
      go_wp2
      go_ret
      exact ⟨rfl, rfl⟩
    · have d2 : decide (n ≤ 4503599627370496) = false := decide_eq_false h2
      rw [decide_eq_false (show ¬ AmP n from fun h => h2 h.2)]
      clear h1 h2
      go_enter Try.func102, Try.ntmps102
      go_wp2
      go_ret
      exact ⟨rfl, rfl⟩
  · have d1 : decide (-4503599627370496 ≤ n) = false := decide_eq_false h1
    rw [decide_eq_false (show ¬ AmP n from fun h => h1 h.1)]
    clear h1
    go_enter Try.func102, Try.ntmps102
    go_wp2
    go_ret
    exact ⟨rfl, rfl⟩
theorem boxed (w : World) (a b : Int) : Below w.heap.size w (w.alloc (.cells #[.int .i64 a, .int .i64 b] 54)) := (Below.refl _ _).alloc (Nat.le_refl _) _
theorem right_any (a b : Int) (w : World) : Calls Try.prog 93 #[.agg #[.int .i64 a, .int .i64 b]] w (B6 w (decide (AmP a ∧ AmP b))) := by
  have ha := amount_any a
  have hb := amount_any b
  have Hx := hide (boxed w a b)
  by_cases h1 : AmP a
  · rw [decide_eq_true h1] at ha
    by_cases h2 : AmP b
    · rw [decide_eq_true (show AmP a ∧ AmP b from ⟨h1, h2⟩)]
      rw [decide_eq_true h2] at hb
      clear h1 h2
      go_enter Try.func93, Try.ntmps93
      go_wp2_with fail
      refine (ha _).mono ?_
      rintro e w' ⟨rfl, rfl⟩
      go_wp2_with fail
      refine (hb _).mono ?_
      rintro e w' ⟨rfl, rfl⟩
      go_wp2_with fail
      go_ret
      exact ⟨rfl, Hx.out⟩
    · rw [decide_eq_false (show ¬ (AmP a ∧ AmP b) from fun h => h2 h.2)]
      rw [decide_eq_false h2] at hb
      clear h1 h2
      go_enter Try.func93, Try.ntmps93
      go_wp2_with fail
      refine (ha _).mono ?_
      rintro e w' ⟨rfl, rfl⟩
      go_wp2_with fail
      refine (hb _).mono ?_
      rintro e w' ⟨rfl, rfl⟩
      go_wp2_with fail
      go_ret
      exact ⟨rfl, Hx.out⟩
  · rw [decide_eq_false (show ¬ (AmP a ∧ AmP b) from fun h => h1 h.1)]
    rw [decide_eq_false h1] at ha
    clear h1
    go_enter Try.func93, Try.ntmps93
    go_wp2_with fail
    refine (ha _).mono ?_
    rintro e w' ⟨rfl, rfl⟩
    go_wp2_with fail
    go_ret
    exact ⟨rfl, Hx.out⟩
end

section
open Go.RowKit

theorem pv_of {a b : Int} (ha : AmP a) (hb : AmP b) : PV (.complex .f64 (floatOfInt .f64 a) (floatOfInt .f64 b)) a b := ⟨_, _, rfl, int_word ha, int_word hb⟩
theorem MoveV.ok {v : Value} {k a b : Int} (h : MoveV v k a b) (ha : AmP a) (hb : AmP b) : PV v a b ∧ k = 0 := by
  rcases h with ⟨_, _, h1, h2⟩ | ⟨h1, _⟩
  · exact ⟨h1, h2⟩
  · exact absurd ⟨ha, hb⟩ h1
theorem amN {a : Int} (h1 : -4503599627370496 ≤ a) (h2 : a ≤ 4503599627370496) : AmP a := ⟨h1, h2⟩
theorem below_of {w w1 w' : World} (h : Below w.heap.size w w1) (k : Below w1.heap.size w1 w') : Below w.heap.size w w' := h.trans (k.mono h.size)
/-- What the reference's side answers. -/
def sideN (a b s : Int) : Int := if s = 0 then a else if s = 1 then b else 0
def sideE (s : Int) : Int := if s = 0 then 0 else if s = 1 then 0 else 1
theorem side_any {v : Value} {a b : Int} (s : Int) (h : PV v a b) (w : World) : Calls Try.prog 92 #[v, .int .i64 s] w fun e w' => e = .returned (.tuple #[.int .i64 (sideN a b s), .int .i64 (sideE s)]) ∧ w = w' := by
  unfold sideN sideE
  by_cases h0 : s = 0
  · subst h0
    exact side_0 h w
  · by_cases h1 : s = 1
    · subst h1
      exact side_1 h w
    · rw [if_neg h0, if_neg h1, if_neg h0, if_neg h1]
      exact side_bad v s (by omega) w
theorem rside_any {a b : Int} (s : Int) (ha : AmP a) (hb : AmP b) (w : World) : Calls Try.prog 75 #[.agg #[.int .i64 a, .int .i64 b], .int .i64 s] w fun e w' => e = .returned (.tuple #[.int .i64 (sideN a b s), .int .i64 (sideE s)]) ∧ Below w.heap.size w w' := by
  have r1 := right_any a b (w.alloc (.cells #[.int .i64 a, .int .i64 b] 54))
  rw [decide_eq_true (show AmP a ∧ AmP b from ⟨ha, hb⟩)] at r1
  clear ha hb
  have Hx := hide (boxed w a b)
  have hh := heap_alloc_new w (.cells #[.int .i64 a, .int .i64 b] 54)
  have hsz : w.heap.size < (w.alloc (.cells #[.int .i64 a, .int .i64 b] 54)).heap.size := by simp
  have Hh := hide hh
  have Hsz := hide hsz
  clear hh hsz
  unfold sideN sideE
  by_cases h0 : s = 0
  · subst h0
    go_enter Try.func75, Try.ntmps75
    go_wp2_with fail
    refine r1.mono ?_
    rintro e w' ⟨rfl, hbl⟩
    have h2 := (hbl.block _ Hsz.out).trans Hh.out
    have c0 := cell_of_row w' w.heap.size 0 _ _ _ h2
    simp at c0
    have Hbl := hide hbl
    clear hbl h2
    go_wp2_with fail
    go_ret2
    exact ⟨rfl, below_of Hx.out Hbl.out⟩
  · have d0 : (s == 0) = false := by simpa using h0
    by_cases h1 : s = 1
    · subst h1
      go_enter Try.func75, Try.ntmps75
      go_wp2_with fail
      refine r1.mono ?_
      rintro e w' ⟨rfl, hbl⟩
      have h2 := (hbl.block _ Hsz.out).trans Hh.out
      have c0 := cell_of_row w' w.heap.size 1 _ _ _ h2
      simp at c0
      have Hbl := hide hbl
      clear hbl h2
      go_wp2_with fail
      go_ret2
      exact ⟨rfl, below_of Hx.out Hbl.out⟩
    · have d1 : (s == 1) = false := by simpa using h1
      have e0 : (s != 0) = true := by simpa using h0
      have e1 : (s != 1) = true := by simpa using h1
      rw [if_neg h0, if_neg h1, if_neg h0, if_neg h1]
      clear h0 h1
      go_enter Try.func75, Try.ntmps75
      go_wp2_with fail
      go_ret2
      exact ⟨rfl, Hx.out⟩
end

section
open Ieee

theorem arch_at {x r : Nat} {t : Bool} {m : Nat} {e : Int} (hd : FloatKind.f64.decode x = .number t m e) (hr : double.write ((Datum.number t m e).integral .zero) = r) (w : World) :
    (callFunc 114 #[.float .f64 x]).run Try.prog w = .ok (.value (.float .f64 r)) w := by
  refine (run_callFunc_extern (P := Try.prog) Try.func114 (by kernel_rfl) (by kernel_rfl) (by kernel_rfl) (e := Extern.MathFloor.toIntegral "math.archTrunc" .zero) (by kernel_rfl) #[.float .f64 x] w).trans ?_
  have e : (Extern.MathFloor.toIntegral "math.archTrunc" .zero #[.float .f64 x] : Sem Value) = pure (.float .f64 r) := by
    rw [← hr]
    conv => lhs; whnf
    rw [hd]
    rfl
  rw [e]
  rfl
/-- A word between nought and one. -/
def Small (x : Nat) : Prop := (∃ m e, FloatKind.f64.decode x = .number false m e ∧ double.write ((Datum.number false m e).integral .zero) = 0) ∧ FloatKind.f64.format.order (x % 9223372036854775808) 4841369599423283200 = some .lt ∧ FloatKind.f64.format.order x 0 = some .gt
theorem small_half : Small 4602678819172646912 := ⟨⟨_, _, rfl, by decide⟩, by decide, by decide⟩
theorem small_quarter : Small 4598175219545276416 := ⟨⟨_, _, rfl, by decide⟩, by decide, by decide⟩
set_option maxRecDepth 20000 in
theorem trunc_small {x : Nat} (h : Small x) (w : World) : Calls Try.prog 111 #[.float .f64 x] w fun e w' => e = .returned (.float .f64 0) ∧ w = w' := by
  obtain ⟨⟨m, e, hd, hr⟩, _⟩ := h
  have h1 := arch_at hd hr w
  clear hd hr
  go_enter Try.func111, Try.ntmps111
  go_wp2
  go_ret
  exact ⟨rfl, rfl⟩
theorem isAm_small {x : Nat} (h : Small x) (w : World) : Calls Try.prog 109 #[.float .f64 x] w fun e w' => e = .returned (.bool false) ∧ w = w' := by
  have ht := trunc_small h w
  obtain ⟨_, h1, h2⟩ := h
  have g2 : (FloatKind.f64.format.order x 0 == some .eq) = false := by rw [h2]; rfl
  clear h2
  go_enter Try.func109, Try.ntmps109
  go_wp2_with (go_at_call 110; refine (abs_any x w).mono ?_; rintro e w' ⟨rfl, rfl⟩)
  go_wp2_with (go_at_call 111; refine ht.mono ?_; rintro e w' ⟨rfl, rfl⟩)
  go_ret
  exact ⟨rfl, rfl⟩
end

section
open Go.RowKit

theorem boxed2 (w : World) (a b c d : Int) : Below w.heap.size w ((w.alloc (.cells #[.int .i64 a, .int .i64 b] 54)).alloc (.cells #[.int .i64 c, .int .i64 d] 54)) :=
  ((Below.refl _ _).alloc (Nat.le_refl _) _).alloc (by simp) _
set_option maxHeartbeats 400000 in
theorem rmove_bad {a b : Int} (s n : Int) (h : ¬ (s = 0 ∨ s = 1)) (ha : AmP a) (hb : AmP b) (w : World) : Calls Try.prog 91 #[.agg #[.int .i64 a, .int .i64 b], .int .i64 s, .int .i64 n] w fun e w' =>
    e = .returned (.tuple #[.agg #[.int .i64 0, .int .i64 0], .int .i64 1]) ∧ Below w.heap.size w w' := by
  have r1 := rside_any s ha hb
  have e1 : sideE s = 1 := by unfold sideE; rw [if_neg (by omega), if_neg (by omega)]
  have e2 : sideN a b s = 0 := by unfold sideN; rw [if_neg (by omega), if_neg (by omega)]
  rw [e1, e2] at r1
  have Hx := hide (boxed2 w a b 0 0)
  have hh : ((w.alloc (.cells #[.int .i64 a, .int .i64 b] 54)).alloc (.cells #[.int .i64 0, .int .i64 0] 54)).heap[w.heap.size + 1]? = some (.cells #[.int .i64 0, .int .i64 0] 54) := by
    have := heap_alloc_new (w.alloc (.cells #[.int .i64 a, .int .i64 b] 54)) (.cells #[.int .i64 0, .int .i64 0] 54)
    simpa using this
  have hsz : w.heap.size + 1 < ((w.alloc (.cells #[.int .i64 a, .int .i64 b] 54)).alloc (.cells #[.int .i64 0, .int .i64 0] 54)).heap.size := by simp
  have Hh := hide hh
  have Hsz := hide hsz
  clear hh hsz
  clear h ha hb e1 e2
  go_enter Try.func91, Try.ntmps91
  go_wp2_with fail
  refine (r1 _).mono ?_
  rintro e w1 ⟨rfl, hb1⟩
  have g1 := (hb1.block _ Hsz.out).trans Hh.out
  have c0 := cell_of_row w1 _ 0 _ _ _ g1
  have c1 := cell_of_row w1 _ 1 _ _ _ g1
  have f0 := frozen_of_row w1 _ 0 _ _ g1
  have f1 := frozen_of_row w1 _ 1 _ _ g1
  simp at c0 c1
  have Hb1 := hide hb1
  have G1 := hide g1
  clear hb1 g1
  go_wp2_with fail
  (try simp only [Exit.inBlock, Exit.then])
  refine bodyPost_ret (v := .tuple #[.agg #[.int .i64 0, .int .i64 0], .int .i64 1]) ?_ rfl ⟨rfl, ?_⟩
  · rw [results_cell_tmp rfl]
    go_simp
  · exact ((below_of Hx.out Hb1.out).setCell (by simp) _).setCell (by simp) _
set_option maxHeartbeats 400000 in
theorem rmove_far0 {a b : Int} (n : Int) (hn : ¬ AmP n) (ha : AmP a) (hb : AmP b) (w : World) : Calls Try.prog 91 #[.agg #[.int .i64 a, .int .i64 b], .int .i64 0, .int .i64 n] w fun e w' =>
    e = .returned (.tuple #[.agg #[.int .i64 0, .int .i64 0], .int .i64 5]) ∧ Below w.heap.size w w' := by
  have r1 := rside_any 0 ha hb
  rw [show sideN a b 0 = a from rfl, show sideE 0 = 0 from rfl] at r1
  have m1 := amount_any n
  rw [decide_eq_false hn] at m1
  clear hn ha hb
  have Hx := hide (boxed2 w a b 0 0)
  have hh : ((w.alloc (.cells #[.int .i64 a, .int .i64 b] 54)).alloc (.cells #[.int .i64 0, .int .i64 0] 54)).heap[w.heap.size + 1]? = some (.cells #[.int .i64 0, .int .i64 0] 54) := by
    have := heap_alloc_new (w.alloc (.cells #[.int .i64 a, .int .i64 b] 54)) (.cells #[.int .i64 0, .int .i64 0] 54)
    simpa using this
  have hsz : w.heap.size + 1 < ((w.alloc (.cells #[.int .i64 a, .int .i64 b] 54)).alloc (.cells #[.int .i64 0, .int .i64 0] 54)).heap.size := by simp
  have h0' : ((w.alloc (.cells #[.int .i64 a, .int .i64 b] 54)).alloc (.cells #[.int .i64 0, .int .i64 0] 54)).heap[w.heap.size]? = some (.cells #[.int .i64 a, .int .i64 b] 54) := (((Below.refl _ _).alloc (Nat.le_refl _) _ : Below (w.alloc (.cells #[.int .i64 a, .int .i64 b] 54)).heap.size _ _).block _ (by simp)).trans (heap_alloc_new w _)
  have H0 := hide h0'
  clear h0'
  have Hh := hide hh
  have Hsz := hide hsz
  clear hh hsz
  go_enter Try.func91, Try.ntmps91
  go_wp2_with fail
  refine (r1 _).mono ?_
  rintro e w1 ⟨rfl, hb1⟩
  have g1 := (hb1.block _ Hsz.out).trans Hh.out
  have c0 := cell_of_row w1 _ 0 _ _ _ g1
  have c1 := cell_of_row w1 _ 1 _ _ _ g1
  have f0 := frozen_of_row w1 _ 0 _ _ g1
  have f1 := frozen_of_row w1 _ 1 _ _ g1
  have g2 := (hb1.block _ (Nat.lt_of_succ_lt Hsz.out)).trans H0.out
  have d0 := cell_of_row w1 _ 0 _ _ _ g2
  have d1 := cell_of_row w1 _ 1 _ _ _ g2
  simp at c0 c1 d0 d1
  have Hb1 := hide hb1
  clear hb1 g1 g2
  go_wp2_with fail
  refine (m1 _).mono ?_
  rintro e w' ⟨rfl, rfl⟩
  go_wp2_with fail
  (try simp only [Exit.inBlock, Exit.then])
  refine bodyPost_ret (v := .tuple #[.agg #[.int .i64 0, .int .i64 0], .int .i64 5]) ?_ rfl ⟨rfl, ?_⟩
  · rw [results_cell_tmp rfl]
    go_simp
  · exact ((below_of Hx.out Hb1.out).setCell (by simp) _).setCell (by simp) _
set_option maxHeartbeats 400000 in
theorem rmove_over0 {a b : Int} (n : Int) (hn : AmP n) (hs : ¬ AmP (a + n)) (ha : AmP a) (hb : AmP b) (w : World) : Calls Try.prog 91 #[.agg #[.int .i64 a, .int .i64 b], .int .i64 0, .int .i64 n] w fun e w' =>
    e = .returned (.tuple #[.agg #[.int .i64 0, .int .i64 0], .int .i64 5]) ∧ Below w.heap.size w w' := by
  have r1 := rside_any 0 ha hb
  rw [show sideN a b 0 = a from rfl, show sideE 0 = 0 from rfl] at r1
  have m1 := amount_any n
  have m2 := amount_any (a + n)
  have hw : IntKind.i64.wrap (a + n) = a + n := IntWalk.i64_in _ (by unfold AmP at ha hb hn; omega)
  rw [decide_eq_true hn] at m1
  rw [decide_eq_false hs] at m2
  clear hn hs ha hb
  have Hx := hide (boxed2 w a b 0 0)
  have hh : ((w.alloc (.cells #[.int .i64 a, .int .i64 b] 54)).alloc (.cells #[.int .i64 0, .int .i64 0] 54)).heap[w.heap.size + 1]? = some (.cells #[.int .i64 0, .int .i64 0] 54) := by
    have := heap_alloc_new (w.alloc (.cells #[.int .i64 a, .int .i64 b] 54)) (.cells #[.int .i64 0, .int .i64 0] 54)
    simpa using this
  have hsz : w.heap.size + 1 < ((w.alloc (.cells #[.int .i64 a, .int .i64 b] 54)).alloc (.cells #[.int .i64 0, .int .i64 0] 54)).heap.size := by simp
  have h0' : ((w.alloc (.cells #[.int .i64 a, .int .i64 b] 54)).alloc (.cells #[.int .i64 0, .int .i64 0] 54)).heap[w.heap.size]? = some (.cells #[.int .i64 a, .int .i64 b] 54) := (((Below.refl _ _).alloc (Nat.le_refl _) _ : Below (w.alloc (.cells #[.int .i64 a, .int .i64 b] 54)).heap.size _ _).block _ (by simp)).trans (heap_alloc_new w _)
  have H0 := hide h0'
  clear h0'
  have Hh := hide hh
  have Hsz := hide hsz
  clear hh hsz
  go_enter Try.func91, Try.ntmps91
  go_wp2_with fail
  refine (r1 _).mono ?_
  rintro e w1 ⟨rfl, hb1⟩
  have g1 := (hb1.block _ Hsz.out).trans Hh.out
  have c0 := cell_of_row w1 _ 0 _ _ _ g1
  have c1 := cell_of_row w1 _ 1 _ _ _ g1
  have f0 := frozen_of_row w1 _ 0 _ _ g1
  have f1 := frozen_of_row w1 _ 1 _ _ g1
  have g2 := (hb1.block _ (Nat.lt_of_succ_lt Hsz.out)).trans H0.out
  have d0 := cell_of_row w1 _ 0 _ _ _ g2
  have d1 := cell_of_row w1 _ 1 _ _ _ g2
  simp at c0 c1 d0 d1
  have Hb1 := hide hb1
  clear hb1 g1 g2
  go_wp2_with fail
  refine (m1 _).mono ?_
  rintro e w' ⟨rfl, rfl⟩
  go_wp2_with fail
  refine (m2 _).mono ?_
  rintro e w' ⟨rfl, rfl⟩
  go_wp2_with fail
  (try simp only [Exit.inBlock, Exit.then])
  refine bodyPost_ret (v := .tuple #[.agg #[.int .i64 0, .int .i64 0], .int .i64 5]) ?_ rfl ⟨rfl, ?_⟩
  · rw [results_cell_tmp rfl]
    go_simp
  · exact ((below_of Hx.out Hb1.out).setCell (by simp) _).setCell (by simp) _
set_option maxHeartbeats 400000 in
theorem rmove_ok0 {a b : Int} (n : Int) (hn : AmP n) (hs : AmP (a + n)) (ha : AmP a) (hb : AmP b) (w : World) : Calls Try.prog 91 #[.agg #[.int .i64 a, .int .i64 b], .int .i64 0, .int .i64 n] w fun e w' =>
    e = .returned (.tuple #[.agg #[.int .i64 (a + n), .int .i64 b], .int .i64 0]) ∧ Below w.heap.size w w' := by
  have r1 := rside_any 0 ha hb
  rw [show sideN a b 0 = a from rfl, show sideE 0 = 0 from rfl] at r1
  have m1 := amount_any n
  have m2 := amount_any (a + n)
  have hw : IntKind.i64.wrap (a + n) = a + n := IntWalk.i64_in _ (by unfold AmP at ha hb hn; omega)
  rw [decide_eq_true hn] at m1
  rw [decide_eq_true hs] at m2
  clear hn hs ha hb
  have Hx := hide (boxed2 w a b 0 0)
  have hh : ((w.alloc (.cells #[.int .i64 a, .int .i64 b] 54)).alloc (.cells #[.int .i64 0, .int .i64 0] 54)).heap[w.heap.size + 1]? = some (.cells #[.int .i64 0, .int .i64 0] 54) := by
    have := heap_alloc_new (w.alloc (.cells #[.int .i64 a, .int .i64 b] 54)) (.cells #[.int .i64 0, .int .i64 0] 54)
    simpa using this
  have hsz : w.heap.size + 1 < ((w.alloc (.cells #[.int .i64 a, .int .i64 b] 54)).alloc (.cells #[.int .i64 0, .int .i64 0] 54)).heap.size := by simp
  have h0' : ((w.alloc (.cells #[.int .i64 a, .int .i64 b] 54)).alloc (.cells #[.int .i64 0, .int .i64 0] 54)).heap[w.heap.size]? = some (.cells #[.int .i64 a, .int .i64 b] 54) := (((Below.refl _ _).alloc (Nat.le_refl _) _ : Below (w.alloc (.cells #[.int .i64 a, .int .i64 b] 54)).heap.size _ _).block _ (by simp)).trans (heap_alloc_new w _)
  have H0 := hide h0'
  clear h0'
  have Hh := hide hh
  have Hsz := hide hsz
  clear hh hsz
  go_enter Try.func91, Try.ntmps91
  go_wp2_with fail
  refine (r1 _).mono ?_
  rintro e w1 ⟨rfl, hb1⟩
  have g1 := (hb1.block _ Hsz.out).trans Hh.out
  have c0 := cell_of_row w1 _ 0 _ _ _ g1
  have c1 := cell_of_row w1 _ 1 _ _ _ g1
  have f0 := frozen_of_row w1 _ 0 _ _ g1
  have f1 := frozen_of_row w1 _ 1 _ _ g1
  have g2 := (hb1.block _ (Nat.lt_of_succ_lt Hsz.out)).trans H0.out
  have d0 := cell_of_row w1 _ 0 _ _ _ g2
  have d1 := cell_of_row w1 _ 1 _ _ _ g2
  simp at c0 c1 d0 d1
  have Hb1 := hide hb1
  clear hb1 g1 g2
  go_wp2_with fail
  refine (m1 _).mono ?_
  rintro e w' ⟨rfl, rfl⟩
  go_wp2_with fail
  refine (m2 _).mono ?_
  rintro e w' ⟨rfl, rfl⟩
  go_wp2_with fail
  (try simp only [Exit.inBlock, Exit.then])
  refine bodyPost_ret (v := .tuple #[.agg #[.int .i64 (a + n), .int .i64 b], .int .i64 0]) ?_ rfl ⟨rfl, ?_⟩
  · rw [results_cell_tmp rfl]
    go_simp
  · exact ((below_of Hx.out Hb1.out).setCell (by simp) _).setCell (by simp) _
set_option maxHeartbeats 400000 in
theorem rmove_far1 {a b : Int} (n : Int) (hn : ¬ AmP n) (ha : AmP a) (hb : AmP b) (w : World) : Calls Try.prog 91 #[.agg #[.int .i64 a, .int .i64 b], .int .i64 1, .int .i64 n] w fun e w' =>
    e = .returned (.tuple #[.agg #[.int .i64 0, .int .i64 0], .int .i64 5]) ∧ Below w.heap.size w w' := by
  have r1 := rside_any 1 ha hb
  rw [show sideN a b 1 = b from rfl, show sideE 1 = 0 from rfl] at r1
  have m1 := amount_any n
  rw [decide_eq_false hn] at m1
  clear hn ha hb
  have Hx := hide (boxed2 w a b 0 0)
  have hh : ((w.alloc (.cells #[.int .i64 a, .int .i64 b] 54)).alloc (.cells #[.int .i64 0, .int .i64 0] 54)).heap[w.heap.size + 1]? = some (.cells #[.int .i64 0, .int .i64 0] 54) := by
    have := heap_alloc_new (w.alloc (.cells #[.int .i64 a, .int .i64 b] 54)) (.cells #[.int .i64 0, .int .i64 0] 54)
    simpa using this
  have hsz : w.heap.size + 1 < ((w.alloc (.cells #[.int .i64 a, .int .i64 b] 54)).alloc (.cells #[.int .i64 0, .int .i64 0] 54)).heap.size := by simp
  have h0' : ((w.alloc (.cells #[.int .i64 a, .int .i64 b] 54)).alloc (.cells #[.int .i64 0, .int .i64 0] 54)).heap[w.heap.size]? = some (.cells #[.int .i64 a, .int .i64 b] 54) := (((Below.refl _ _).alloc (Nat.le_refl _) _ : Below (w.alloc (.cells #[.int .i64 a, .int .i64 b] 54)).heap.size _ _).block _ (by simp)).trans (heap_alloc_new w _)
  have H0 := hide h0'
  clear h0'
  have Hh := hide hh
  have Hsz := hide hsz
  clear hh hsz
  go_enter Try.func91, Try.ntmps91
  go_wp2_with fail
  refine (r1 _).mono ?_
  rintro e w1 ⟨rfl, hb1⟩
  have g1 := (hb1.block _ Hsz.out).trans Hh.out
  have c0 := cell_of_row w1 _ 0 _ _ _ g1
  have c1 := cell_of_row w1 _ 1 _ _ _ g1
  have f0 := frozen_of_row w1 _ 0 _ _ g1
  have f1 := frozen_of_row w1 _ 1 _ _ g1
  have g2 := (hb1.block _ (Nat.lt_of_succ_lt Hsz.out)).trans H0.out
  have d0 := cell_of_row w1 _ 0 _ _ _ g2
  have d1 := cell_of_row w1 _ 1 _ _ _ g2
  simp at c0 c1 d0 d1
  have Hb1 := hide hb1
  clear hb1 g1 g2
  go_wp2_with fail
  refine (m1 _).mono ?_
  rintro e w' ⟨rfl, rfl⟩
  go_wp2_with fail
  (try simp only [Exit.inBlock, Exit.then])
  refine bodyPost_ret (v := .tuple #[.agg #[.int .i64 0, .int .i64 0], .int .i64 5]) ?_ rfl ⟨rfl, ?_⟩
  · rw [results_cell_tmp rfl]
    go_simp
  · exact ((below_of Hx.out Hb1.out).setCell (by simp) _).setCell (by simp) _
set_option maxHeartbeats 400000 in
theorem rmove_over1 {a b : Int} (n : Int) (hn : AmP n) (hs : ¬ AmP (b + n)) (ha : AmP a) (hb : AmP b) (w : World) : Calls Try.prog 91 #[.agg #[.int .i64 a, .int .i64 b], .int .i64 1, .int .i64 n] w fun e w' =>
    e = .returned (.tuple #[.agg #[.int .i64 0, .int .i64 0], .int .i64 5]) ∧ Below w.heap.size w w' := by
  have r1 := rside_any 1 ha hb
  rw [show sideN a b 1 = b from rfl, show sideE 1 = 0 from rfl] at r1
  have m1 := amount_any n
  have m2 := amount_any (b + n)
  have hw : IntKind.i64.wrap (b + n) = b + n := IntWalk.i64_in _ (by unfold AmP at ha hb hn; omega)
  rw [decide_eq_true hn] at m1
  rw [decide_eq_false hs] at m2
  clear hn hs ha hb
  have Hx := hide (boxed2 w a b 0 0)
  have hh : ((w.alloc (.cells #[.int .i64 a, .int .i64 b] 54)).alloc (.cells #[.int .i64 0, .int .i64 0] 54)).heap[w.heap.size + 1]? = some (.cells #[.int .i64 0, .int .i64 0] 54) := by
    have := heap_alloc_new (w.alloc (.cells #[.int .i64 a, .int .i64 b] 54)) (.cells #[.int .i64 0, .int .i64 0] 54)
    simpa using this
  have hsz : w.heap.size + 1 < ((w.alloc (.cells #[.int .i64 a, .int .i64 b] 54)).alloc (.cells #[.int .i64 0, .int .i64 0] 54)).heap.size := by simp
  have h0' : ((w.alloc (.cells #[.int .i64 a, .int .i64 b] 54)).alloc (.cells #[.int .i64 0, .int .i64 0] 54)).heap[w.heap.size]? = some (.cells #[.int .i64 a, .int .i64 b] 54) := (((Below.refl _ _).alloc (Nat.le_refl _) _ : Below (w.alloc (.cells #[.int .i64 a, .int .i64 b] 54)).heap.size _ _).block _ (by simp)).trans (heap_alloc_new w _)
  have H0 := hide h0'
  clear h0'
  have Hh := hide hh
  have Hsz := hide hsz
  clear hh hsz
  go_enter Try.func91, Try.ntmps91
  go_wp2_with fail
  refine (r1 _).mono ?_
  rintro e w1 ⟨rfl, hb1⟩
  have g1 := (hb1.block _ Hsz.out).trans Hh.out
  have c0 := cell_of_row w1 _ 0 _ _ _ g1
  have c1 := cell_of_row w1 _ 1 _ _ _ g1
  have f0 := frozen_of_row w1 _ 0 _ _ g1
  have f1 := frozen_of_row w1 _ 1 _ _ g1
  have g2 := (hb1.block _ (Nat.lt_of_succ_lt Hsz.out)).trans H0.out
  have d0 := cell_of_row w1 _ 0 _ _ _ g2
  have d1 := cell_of_row w1 _ 1 _ _ _ g2
  simp at c0 c1 d0 d1
  have Hb1 := hide hb1
  clear hb1 g1 g2
  go_wp2_with fail
  refine (m1 _).mono ?_
  rintro e w' ⟨rfl, rfl⟩
  go_wp2_with fail
  refine (m2 _).mono ?_
  rintro e w' ⟨rfl, rfl⟩
  go_wp2_with fail
  (try simp only [Exit.inBlock, Exit.then])
  refine bodyPost_ret (v := .tuple #[.agg #[.int .i64 0, .int .i64 0], .int .i64 5]) ?_ rfl ⟨rfl, ?_⟩
  · rw [results_cell_tmp rfl]
    go_simp
  · exact ((below_of Hx.out Hb1.out).setCell (by simp) _).setCell (by simp) _
set_option maxHeartbeats 400000 in
theorem rmove_ok1 {a b : Int} (n : Int) (hn : AmP n) (hs : AmP (b + n)) (ha : AmP a) (hb : AmP b) (w : World) : Calls Try.prog 91 #[.agg #[.int .i64 a, .int .i64 b], .int .i64 1, .int .i64 n] w fun e w' =>
    e = .returned (.tuple #[.agg #[.int .i64 a, .int .i64 (b + n)], .int .i64 0]) ∧ Below w.heap.size w w' := by
  have r1 := rside_any 1 ha hb
  rw [show sideN a b 1 = b from rfl, show sideE 1 = 0 from rfl] at r1
  have m1 := amount_any n
  have m2 := amount_any (b + n)
  have hw : IntKind.i64.wrap (b + n) = b + n := IntWalk.i64_in _ (by unfold AmP at ha hb hn; omega)
  rw [decide_eq_true hn] at m1
  rw [decide_eq_true hs] at m2
  clear hn hs ha hb
  have Hx := hide (boxed2 w a b 0 0)
  have hh : ((w.alloc (.cells #[.int .i64 a, .int .i64 b] 54)).alloc (.cells #[.int .i64 0, .int .i64 0] 54)).heap[w.heap.size + 1]? = some (.cells #[.int .i64 0, .int .i64 0] 54) := by
    have := heap_alloc_new (w.alloc (.cells #[.int .i64 a, .int .i64 b] 54)) (.cells #[.int .i64 0, .int .i64 0] 54)
    simpa using this
  have hsz : w.heap.size + 1 < ((w.alloc (.cells #[.int .i64 a, .int .i64 b] 54)).alloc (.cells #[.int .i64 0, .int .i64 0] 54)).heap.size := by simp
  have h0' : ((w.alloc (.cells #[.int .i64 a, .int .i64 b] 54)).alloc (.cells #[.int .i64 0, .int .i64 0] 54)).heap[w.heap.size]? = some (.cells #[.int .i64 a, .int .i64 b] 54) := (((Below.refl _ _).alloc (Nat.le_refl _) _ : Below (w.alloc (.cells #[.int .i64 a, .int .i64 b] 54)).heap.size _ _).block _ (by simp)).trans (heap_alloc_new w _)
  have H0 := hide h0'
  clear h0'
  have Hh := hide hh
  have Hsz := hide hsz
  clear hh hsz
  go_enter Try.func91, Try.ntmps91
  go_wp2_with fail
  refine (r1 _).mono ?_
  rintro e w1 ⟨rfl, hb1⟩
  have g1 := (hb1.block _ Hsz.out).trans Hh.out
  have c0 := cell_of_row w1 _ 0 _ _ _ g1
  have c1 := cell_of_row w1 _ 1 _ _ _ g1
  have f0 := frozen_of_row w1 _ 0 _ _ g1
  have f1 := frozen_of_row w1 _ 1 _ _ g1
  have g2 := (hb1.block _ (Nat.lt_of_succ_lt Hsz.out)).trans H0.out
  have d0 := cell_of_row w1 _ 0 _ _ _ g2
  have d1 := cell_of_row w1 _ 1 _ _ _ g2
  simp at c0 c1 d0 d1
  have Hb1 := hide hb1
  clear hb1 g1 g2
  go_wp2_with fail
  refine (m1 _).mono ?_
  rintro e w' ⟨rfl, rfl⟩
  go_wp2_with fail
  refine (m2 _).mono ?_
  rintro e w' ⟨rfl, rfl⟩
  go_wp2_with fail
  (try simp only [Exit.inBlock, Exit.then])
  refine bodyPost_ret (v := .tuple #[.agg #[.int .i64 a, .int .i64 (b + n)], .int .i64 0]) ?_ rfl ⟨rfl, ?_⟩
  · rw [results_cell_tmp rfl]
    go_simp
  · exact ((below_of Hx.out Hb1.out).setCell (by simp) _).setCell (by simp) _
end
end Go.Proofs.Ytopgcimjdlhclaa
