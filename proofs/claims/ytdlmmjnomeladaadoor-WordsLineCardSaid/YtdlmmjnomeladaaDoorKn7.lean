/- Layer 8: the names, both ways. -/
import Derived.Test.YtdlmmjnomeladaaDoorKn6
import Derived.Test.YtdlmmjnomeladaaDoorMK
import Derived.Lib.LaidTab
namespace Go.Proofs.YtdlmmjnomeladaaDoor
set_option linter.unusedVariables false
set_option linter.unusedSimpArgs false
open Go.RowKit Go.PlainAid Go.ChangeShapes Go.WideShapes

theorem pow_laid {w : World} {laid : List (String × DataW Unit)} (hL : laidMet Tryd.prog laid w) (hm : ("internal/strconv.uint64pow10", (.agg [.lit (.int .u64 1), .lit (.int .u64 10), .lit (.int .u64 100), .lit (.int .u64 1000), .lit (.int .u64 10000), .lit (.int .u64 100000), .lit (.int .u64 1000000), .lit (.int .u64 10000000), .lit (.int .u64 100000000), .lit (.int .u64 1000000000), .lit (.int .u64 10000000000), .lit (.int .u64 100000000000), .lit (.int .u64 1000000000000), .lit (.int .u64 10000000000000), .lit (.int .u64 100000000000000), .lit (.int .u64 1000000000000000), .lit (.int .u64 10000000000000000), .lit (.int .u64 100000000000000000), .lit (.int .u64 1000000000000000000), .lit (.int .u64 10000000000000000000)] : DataW Unit)) ∈ laid) : PowW w := by
  obtain ⟨ps, hv, _⟩ := hL
  obtain ⟨g, t, cs, fuel, p, h1, h2, h3, h4⟩ := laid_at hv hm
  obtain rfl : g = 5 := Option.some.inj (h1.symm.trans (by kernel_rfl))
  obtain rfl : t = 164 := Option.some.inj (h2.symm.trans (by kernel_rfl))
  have h5 := Lib.cells_of_tab (zs := Lib.pow10Tab) (k := .u64) Tryd.underlying164 Tryd.underlying118 (by kernel_rfl) (by kernel_rfl) h4
  refine PowW.of_tab ?_
  unfold Lib.TabIs
  rw [h3, ← h5]
theorem names_laid {w : World} {laid : List (String × DataW Unit)} (hL : laidMet Tryd.prog laid w) (hm : ("stickler/kinds.names", strsD nmLL) ∈ laid) : NmW w :=
  strs_laid nmLL hL hm (by kernel_rfl) (by kernel_rfl) Tryd.underlying93 Tryd.underlying9 (by kernel_rfl) (by kernel_rfl)
set_option maxRecDepth 20000 in
set_option maxHeartbeats 3200000 in
theorem names_walk08 (t : Int) (s : ByteArray) (w : World) (hs : s.size ≤ 9223372036854775807) (hN : NmW w) (hP : PowW w) : Calls Tryd.prog 11 #[.int .i64 t, .string s] w (Yes8 w) := by
  by_cases hbig : 100 < s.size
  · have t1 : decide (100 < s.size) = true := decide_eq_true hbig
    have t2 : decide ((100 : Int) < (s.size : Int)) = true := decide_eq_true (by omega)
    clear hbig hN hP
    go_enter Tryd.func11, Tryd.ntmps11
    go_wp2_with fail
    refine (alive8 _).mono ?_
    rintro e w1 ⟨rfl, hb1⟩
    have HB := hide hb1
    clear hb1
    go_wp2_with fail
    go_ret
    exact ⟨rfl, HB.out⟩
  have t1 : decide (100 < s.size) = false := decide_eq_false hbig
  have t2 : decide ((100 : Int) < (s.size : Int)) = false := decide_eq_false (by omega)
  have Hs := hide hs
  have HN := hide hN
  have HP := hide hP
  clear hbig hs hN hP
  go_enter Tryd.func11, Tryd.ntmps11
  go_wp2_with fail
  refine (kname08 t _ HN.out HP.out).mono ?_
  rintro e w1 ⟨rfl, hb1⟩
  have HB1 := hide hb1
  have HN1 := hide (HN.out.below hb1)
  clear hb1
  obtain ⟨n, hn⟩ : ∃ n, nameT t = n := ⟨_, rfl⟩
  have Hn := hide hn
  rw [hn]
  clear hn
  go_wp2_with fail
  refine (kbyname08 s _ Hs.out HN1.out).mono ?_
  rintro e w2 ⟨x, is, rfl, hq, hb2⟩
  have HQ := hide hq
  have HB2 := hide (HB1.out.of hb2)
  have HN2 := hide (HN1.out.below hb2)
  clear hq hb2
  go_wp2_with fail
  refine (rbyname08 s _).mono ?_
  rintro e w3 ⟨y, was, rfl, hq, hb3⟩
  obtain ⟨rfl, rfl⟩ := HQ.out.same hq
  have HB3 := hide (HB2.out.of hb3)
  have HN3 := hide (HN2.out.below hb3)
  clear hq hb3 HQ
  have q1 : (n.toList == n.toList) = true := beq_self_eq_true _
  have q2 : (x != x) = false := by simp
  have q3 : (is != is) = false := by cases is <;> rfl
  have q4 : (false != false) = false := rfl
  have q5 : (true != true) = false := rfl
  go_wp2_with fail
  refine (rname08 t _).mono ?_
  rw [Hn.out]
  rintro e w4 ⟨rfl, hb4⟩
  have HB4 := hide (HB3.out.of hb4)
  have HN4 := hide (HN3.out.below hb4)
  clear hb4
  go_wp2_with fail
  refine (known08 t _).mono ?_
  rintro e w5 ⟨rfl, rfl⟩
  have tcase : (decide (0 ≤ t) = true ∧ decide (t < 10) = true ∧ decide (t < 0) = false) ∨ (decide (0 ≤ t) = true ∧ decide (t < 10) = false ∧ decide (t < 0) = false) ∨ (decide (0 ≤ t) = false ∧ decide (t < 10) = true ∧ decide (t < 0) = true) := by
    simp only [decide_eq_true_eq, decide_eq_false_iff_not]
    omega
  have hnb : Hid (-1 ≤ t ∧ t ≤ 255 → n.size ≤ 30 ∧ 0 < n.size) := fun h => by rw [← Hn.out]; exact name_bd h.1 h.2
  have hnz : Hid (¬ (-1 ≤ t ∧ t ≤ 255) → n.size = 0) := fun h => by
    rw [← Hn.out, nameT_other (by omega) (by omega)]
    rfl
  have hno : Hid (∀ z has, -1 ≤ t ∧ t ≤ 255 → NmR n z has → z = t ∧ has = true) := fun z has h k => NmR.own h.1 h.2 (by rw [Hn.out]; exact k)
  rcases tcase with ⟨e1, e2, e3⟩ | ⟨e1, e2, e3⟩ | ⟨e1, e2, e3⟩
  all_goals
    rw [e1, e2]
    simp only [Bool.and_true, Bool.and_false, Bool.true_and, Bool.false_and]
    go_wp2_with fail
    refine (kbyname08 n _ (by
      by_cases h : -1 ≤ t ∧ t ≤ 255
      · have := hnb.out h; omega
      · have := hnz.out h; omega) HN4.out).mono ?_
    rintro e w6 ⟨z, has, rfl, hq, hb6⟩
    have HB6 := hide (HB4.out.of hb6)
    by_cases h : -1 ≤ t ∧ t ≤ 255
    · obtain ⟨rfl, rfl⟩ := hno.out z has h hq
      have he := isEmpty_no (s := n) (by have := hnb.out h; omega)
      have q6 : (z == z) = true := by simp
      clear hq hb6 e1 e2 e3 h
      go_wp2_with fail
      refine (alive8 _).mono ?_
      rintro e w7 ⟨rfl, hb7⟩
      have HB7 := hide (HB6.out.of hb7)
      clear hb7
      go_wp2_with fail
      go_ret
      exact ⟨rfl, HB7.out⟩
    · have he := isEmpty_yes (s := n) (hnz.out h)
      clear hq hb6 e1 e2 e3 h
      go_wp2_with fail
      refine (alive8 _).mono ?_
      rintro e w7 ⟨rfl, hb7⟩
      have HB7 := hide (HB6.out.of hb7)
      clear hb7
      go_wp2_with fail
      go_ret
      exact ⟨rfl, HB7.out⟩
end Go.Proofs.YtdlmmjnomeladaaDoor
