/- Layer 41: whether a record may be, both sides. -/
import Derived.Test.YtminoofghdpomaaDoorRt1
namespace Go.Proofs.YtminoofghdpomaaDoor
set_option linter.unusedVariables false
set_option linter.unusedSimpArgs false
open Go.RowKit Go.PlainAid

instance (a t fl st le k : Int) : Decidable (RcP a t fl st le k) := by unfold RcP HdR; infer_instance
def rcB (a t fl st le k : Int) : Bool := decide (RcP a t fl st le k)
theorem rc_not1 {a t fl st le k : Int} (h : ¬ (a = 0 ∨ a = 1)) : rcB a t fl st le k = false := decide_eq_false fun q => h q.1
theorem rc_not2 {a t fl st le k : Int} (h : ¬ (1 ≤ k ∧ k ≤ 4)) : rcB a t fl st le k = false := decide_eq_false fun q => h q.2.1
theorem rc_pre {a fl st le k : Int} (h1 : a = 0 ∨ a = 1) (h2 : 1 ≤ k ∧ k ≤ 4) : rcB a (-1) fl st le k = decide (a = 0 ∧ fl = 0 ∧ st = 0 ∧ le = 24) := by
  by_cases h : a = 0 ∧ fl = 0 ∧ st = 0 ∧ le = 24
  · rw [decide_eq_true h]
    exact decide_eq_true (p := RcP a (-1) fl st le k) ⟨h1, h2, .inl ⟨rfl, h⟩⟩
  · rw [decide_eq_false h]
    refine decide_eq_false (p := RcP a (-1) fl st le k) fun q => ?_
    rcases q.2.2 with ⟨_, q⟩ | ⟨q, _⟩
    · exact h q
    · exact q rfl
theorem rc_head {a t fl st le k : Int} (h1 : a = 0 ∨ a = 1) (h2 : 1 ≤ k ∧ k ≤ 4) (h3 : t ≠ -1) (h4 : HdR le t fl st) : rcB a t fl st le k = true := decide_eq_true ⟨h1, h2, .inr ⟨h3, h4⟩⟩
theorem rc_no_head {a t fl st le k : Int} (h3 : t ≠ -1) (h4 : ¬ HdR le t fl st) : rcB a t fl st le k = false := decide_eq_false fun q => by
  rcases q.2.2 with ⟨e, _⟩ | ⟨_, e⟩
  · exact h3 e
  · exact h4 e
theorem side_size {a : Int} (h : a = 0 ∨ a = 1) : (sideS a).size ≠ 0 := by rcases h with rfl | rfl <;> decide
theorem side_none {a : Int} (h : ¬ (a = 0 ∨ a = 1)) : (sideS a).size = 0 := by
  unfold sideS
  rw [if_neg (fun e => h (.inl e)), if_neg (fun e => h (.inr e))]
  rfl
theorem kind_size {k : Int} (h : 1 ≤ k ∧ k ≤ 4) : (kindS k).size ≠ 0 := by
  have : k = 1 ∨ k = 2 ∨ k = 3 ∨ k = 4 := by omega
  rcases this with rfl | rfl | rfl | rfl <;> decide
theorem kind_none {k : Int} (h : ¬ (1 ≤ k ∧ k ≤ 4)) : (kindS k).size = 0 := by
  unfold kindS
  rw [if_neg (by omega), if_neg (by omega), if_neg (by omega), if_neg (by omega)]
  rfl
set_option maxRecDepth 20000 in
set_option maxHeartbeats 3200000 in
theorem kright41 (a t fl st le k : Int) (w : World) : Calls Tryd.prog 7 #[.agg #[.int .i64 a, .int .i64 t, .int .i64 fl, .int .i64 st, .int .i64 le, .int .i64 k]] w fun e w' => e = .returned (.bool (rcB a t fl st le k)) ∧ Below w.heap.size w w' := by
  have R0 := heap_alloc_new w (.cells #[.int .i64 a, .int .i64 t, .int .i64 fl, .int .i64 st, .int .i64 le, .int .i64 k] 23)
  have B0 : Hid (Below w.heap.size w (w.alloc (.cells #[.int .i64 a, .int .i64 t, .int .i64 fl, .int .i64 st, .int .i64 le, .int .i64 k] 23))) := (Below.refl _ _).alloc (Nat.le_refl _) _
  obtain ⟨c0, c1, c2, c3, c4, c5⟩ := row6R R0
  obtain ⟨ys, hys⟩ : ∃ y, sideS a = y := ⟨_, rfl⟩
  obtain ⟨yk, hyk⟩ : ∃ y, kindS k = y := ⟨_, rfl⟩
  have KS := hide (fun W => side41 a W)
  have KK := hide (fun W => kind41 k W)
  rw [hys] at KS
  rw [hyk] at KK
  by_cases h1 : a = 0 ∨ a = 1
  · have z1 : ys.toList.isEmpty = false := by rw [← hys]; exact isEmpty_no (side_size h1)
    by_cases h2 : 1 ≤ k ∧ k ≤ 4
    · have z2 : yk.toList.isEmpty = false := by rw [← hyk]; exact isEmpty_no (kind_size h2)
      clear hys hyk
      by_cases ht : t = -1
      · subst ht
        have HV := hide (rc_pre (fl := fl) (st := st) (le := le) h1 h2)
        clear h1 h2
        by_cases q0 : a = 0
        · have b0 : (a == 0) = true := by simpa using q0
          by_cases q1 : fl = 0
          · have b1 : (fl == 0) = true := by simpa using q1
            by_cases q2 : st = 0
            · have b2 : (st == 0) = true := by simpa using q2
              by_cases q3 : le = 24
              · have b3 : (le == 24) = true := by simpa using q3
                have HV2 : Hid (rcB a (-1) fl st le k = true) := HV.out.trans (decide_eq_true ⟨q0, q1, q2, q3⟩)
                clear HV q0 q1 q2 q3
                go_enter Tryd.func7, Tryd.ntmps7
                go_wp2_with (first | (go_at_call 15; refine (KS.out _).mono ?_; rintro e w1 ⟨rfl, rfl⟩) | (go_at_call 16; refine (KK.out _).mono ?_; rintro e w2 ⟨rfl, rfl⟩) | fail)
                go_ret
                exact ⟨by rw [HV2.out]; rfl, B0.out⟩
              · have b3 : (le == 24) = false := by simpa using q3
                have HV2 : Hid (rcB a (-1) fl st le k = false) := HV.out.trans (decide_eq_false fun h => q3 h.2.2.2)
                clear HV q0 q1 q2 q3
                go_enter Tryd.func7, Tryd.ntmps7
                go_wp2_with (first | (go_at_call 15; refine (KS.out _).mono ?_; rintro e w1 ⟨rfl, rfl⟩) | (go_at_call 16; refine (KK.out _).mono ?_; rintro e w2 ⟨rfl, rfl⟩) | fail)
                go_ret
                exact ⟨by rw [HV2.out]; rfl, B0.out⟩
            · have b2 : (st == 0) = false := by simpa using q2
              have HV2 : Hid (rcB a (-1) fl st le k = false) := HV.out.trans (decide_eq_false fun h => q2 h.2.2.1)
              clear HV q0 q1 q2
              go_enter Tryd.func7, Tryd.ntmps7
              go_wp2_with (first | (go_at_call 15; refine (KS.out _).mono ?_; rintro e w1 ⟨rfl, rfl⟩) | (go_at_call 16; refine (KK.out _).mono ?_; rintro e w2 ⟨rfl, rfl⟩) | fail)
              go_ret
              exact ⟨by rw [HV2.out]; rfl, B0.out⟩
          · have b1 : (fl == 0) = false := by simpa using q1
            have HV2 : Hid (rcB a (-1) fl st le k = false) := HV.out.trans (decide_eq_false fun h => q1 h.2.1)
            clear HV q0 q1
            go_enter Tryd.func7, Tryd.ntmps7
            go_wp2_with (first | (go_at_call 15; refine (KS.out _).mono ?_; rintro e w1 ⟨rfl, rfl⟩) | (go_at_call 16; refine (KK.out _).mono ?_; rintro e w2 ⟨rfl, rfl⟩) | fail)
            go_ret
            exact ⟨by rw [HV2.out]; rfl, B0.out⟩
        · have b0 : (a == 0) = false := by simpa using q0
          have HV2 : Hid (rcB a (-1) fl st le k = false) := HV.out.trans (decide_eq_false fun h => q0 h.1)
          clear HV q0
          go_enter Tryd.func7, Tryd.ntmps7
          go_wp2_with (first | (go_at_call 15; refine (KS.out _).mono ?_; rintro e w1 ⟨rfl, rfl⟩) | (go_at_call 16; refine (KK.out _).mono ?_; rintro e w2 ⟨rfl, rfl⟩) | fail)
          go_ret
          exact ⟨by rw [HV2.out]; rfl, B0.out⟩
      · have d1 : (t == -1) = false := by simpa using ht
        by_cases hh : HdR le t fl st
        · have HV := hide (rc_head h1 h2 ht hh)
          have KH := hide (fun W => hright_yes le t fl st false W hh)
          clear h1 h2 ht hh
          go_enter Tryd.func7, Tryd.ntmps7
          go_wp2_with (first | (go_at_call 15; refine (KS.out _).mono ?_; rintro e w1 ⟨rfl, rfl⟩) | (go_at_call 16; refine (KK.out _).mono ?_; rintro e w2 ⟨rfl, rfl⟩) | fail)
          refine (KH.out _).mono ?_
          rintro e w3 ⟨rfl, hb⟩
          have HB := hide (B0.out.of hb)
          clear hb
          go_wp2_with fail
          go_ret
          exact ⟨by rw [HV.out]; rfl, HB.out⟩
        · have HV := hide (rc_no_head (a := a) (k := k) ht hh)
          have KH := hide (fun W => hright_no le t fl st false W hh)
          clear h1 h2 ht hh
          go_enter Tryd.func7, Tryd.ntmps7
          go_wp2_with (first | (go_at_call 15; refine (KS.out _).mono ?_; rintro e w1 ⟨rfl, rfl⟩) | (go_at_call 16; refine (KK.out _).mono ?_; rintro e w2 ⟨rfl, rfl⟩) | fail)
          refine (KH.out _).mono ?_
          rintro e w3 ⟨rfl, hb⟩
          have HB := hide (B0.out.of hb)
          clear hb
          go_wp2_with fail
          go_ret
          exact ⟨by rw [HV.out]; rfl, HB.out⟩
    · have z2 : yk.toList.isEmpty = true := by rw [← hyk]; exact isEmpty_yes (kind_none h2)
      have HV := hide (rc_not2 (a := a) (t := t) (fl := fl) (st := st) (le := le) h2)
      clear hys hyk h1 h2
      go_enter Tryd.func7, Tryd.ntmps7
      go_wp2_with (first | (go_at_call 15; refine (KS.out _).mono ?_; rintro e w1 ⟨rfl, rfl⟩) | (go_at_call 16; refine (KK.out _).mono ?_; rintro e w2 ⟨rfl, rfl⟩) | fail)
      go_ret
      exact ⟨by rw [HV.out]; rfl, B0.out⟩
  · have z1 : ys.toList.isEmpty = true := by rw [← hys]; exact isEmpty_yes (side_none h1)
    have HV := hide (rc_not1 (t := t) (fl := fl) (st := st) (le := le) (k := k) h1)
    clear hys hyk h1
    go_enter Tryd.func7, Tryd.ntmps7
    go_wp2_with (first | (go_at_call 15; refine (KS.out _).mono ?_; rintro e w1 ⟨rfl, rfl⟩) | (go_at_call 16; refine (KK.out _).mono ?_; rintro e w2 ⟨rfl, rfl⟩) | fail)
    go_ret
    exact ⟨by rw [HV.out]; rfl, B0.out⟩
set_option maxRecDepth 20000 in
set_option maxHeartbeats 3200000 in
theorem rright41 (a t fl st le k : Int) (w : World) : Calls Tryd.prog 8 #[.agg #[.int .i64 a, .int .i64 t, .int .i64 fl, .int .i64 st, .int .i64 le, .int .i64 k]] w fun e w' => e = .returned (.bool (rcB a t fl st le k)) ∧ Below w.heap.size w w' := by
  have R0 := heap_alloc_new w (.cells #[.int .i64 a, .int .i64 t, .int .i64 fl, .int .i64 st, .int .i64 le, .int .i64 k] 23)
  have B0 : Hid (Below w.heap.size w (w.alloc (.cells #[.int .i64 a, .int .i64 t, .int .i64 fl, .int .i64 st, .int .i64 le, .int .i64 k] 23))) := (Below.refl _ _).alloc (Nat.le_refl _) _
  obtain ⟨c0, c1, c2, c3, c4, c5⟩ := row6R R0
  by_cases h1 : a = 0 ∨ a = 1
  · by_cases h2 : 1 ≤ k ∧ k ≤ 4
    · have m1 : decide (k < 1) = false := decide_eq_false (by omega)
      have m2 : decide (4 < k) = false := decide_eq_false (by omega)
      have ha : ((a != 0) && (a != 1)) = false := by rcases h1 with rfl | rfl <;> rfl
      by_cases ht : t = -1
      · subst ht
        have HV := hide (rc_pre (fl := fl) (st := st) (le := le) h1 h2)
        rcases h1 with rfl | rfl
        · clear h2 ha
          by_cases q0 : fl = 0
          · have b0 : (fl == 0) = true := by simpa using q0
            by_cases q1 : st = 0
            · have b1 : (st == 0) = true := by simpa using q1
              by_cases q2 : le = 24
              · have b2 : (le == 24) = true := by simpa using q2
                have HV2 : Hid (rcB 0 (-1) fl st le k = true) := HV.out.trans (decide_eq_true ⟨rfl, q0, q1, q2⟩)
                clear HV q0 q1 q2
                go_enter Tryd.func8, Tryd.ntmps8
                go_wp2_with fail
                go_ret
                exact ⟨by rw [HV2.out]; rfl, B0.out⟩
              · have b2 : (le == 24) = false := by simpa using q2
                have HV2 : Hid (rcB 0 (-1) fl st le k = false) := HV.out.trans (decide_eq_false fun h => q2 h.2.2.2)
                clear HV q0 q1 q2
                go_enter Tryd.func8, Tryd.ntmps8
                go_wp2_with fail
                go_ret
                exact ⟨by rw [HV2.out]; rfl, B0.out⟩
            · have b1 : (st == 0) = false := by simpa using q1
              have HV2 : Hid (rcB 0 (-1) fl st le k = false) := HV.out.trans (decide_eq_false fun h => q1 h.2.2.1)
              clear HV q0 q1
              go_enter Tryd.func8, Tryd.ntmps8
              go_wp2_with fail
              go_ret
              exact ⟨by rw [HV2.out]; rfl, B0.out⟩
          · have b0 : (fl == 0) = false := by simpa using q0
            have HV2 : Hid (rcB 0 (-1) fl st le k = false) := HV.out.trans (decide_eq_false fun h => q0 h.2.1)
            clear HV q0
            go_enter Tryd.func8, Tryd.ntmps8
            go_wp2_with fail
            go_ret
            exact ⟨by rw [HV2.out]; rfl, B0.out⟩
        · clear h2 ha
          have HV2 : Hid (rcB 1 (-1) fl st le k = false) := HV.out.trans (decide_eq_false fun h => absurd h.1 (by decide))
          clear HV
          go_enter Tryd.func8, Tryd.ntmps8
          go_wp2_with fail
          go_ret
          exact ⟨by rw [HV2.out]; rfl, B0.out⟩
      · have d1 : (t == -1) = false := by simpa using ht
        by_cases hh : HdR le t fl st
        · have HV := hide (rc_head h1 h2 ht hh)
          have KH := hide (fun W => rright_yes le t fl st false W hh)
          clear h2 ht hh ha
          rcases h1 with rfl | rfl
          · go_enter Tryd.func8, Tryd.ntmps8
            go_wp2_with fail
            refine (KH.out _).mono ?_
            rintro e w3 ⟨rfl, hb⟩
            have HB := hide (B0.out.of hb)
            clear hb
            go_wp2_with fail
            go_ret
            exact ⟨by rw [HV.out]; rfl, HB.out⟩
          · go_enter Tryd.func8, Tryd.ntmps8
            go_wp2_with fail
            refine (KH.out _).mono ?_
            rintro e w3 ⟨rfl, hb⟩
            have HB := hide (B0.out.of hb)
            clear hb
            go_wp2_with fail
            go_ret
            exact ⟨by rw [HV.out]; rfl, HB.out⟩
        · have HV := hide (rc_no_head (a := a) (k := k) ht hh)
          have KH := hide (fun W => rright_no le t fl st false W hh)
          clear h2 ht hh ha
          rcases h1 with rfl | rfl
          · go_enter Tryd.func8, Tryd.ntmps8
            go_wp2_with fail
            refine (KH.out _).mono ?_
            rintro e w3 ⟨rfl, hb⟩
            have HB := hide (B0.out.of hb)
            clear hb
            go_wp2_with fail
            go_ret
            exact ⟨by rw [HV.out]; rfl, HB.out⟩
          · go_enter Tryd.func8, Tryd.ntmps8
            go_wp2_with fail
            refine (KH.out _).mono ?_
            rintro e w3 ⟨rfl, hb⟩
            have HB := hide (B0.out.of hb)
            clear hb
            go_wp2_with fail
            go_ret
            exact ⟨by rw [HV.out]; rfl, HB.out⟩
    · have HV := hide (rc_not2 (a := a) (t := t) (fl := fl) (st := st) (le := le) h2)
      by_cases m : k < 1
      · have m1 : decide (k < 1) = true := decide_eq_true m
        clear h2 m
        rcases h1 with rfl | rfl
        · go_enter Tryd.func8, Tryd.ntmps8
          go_wp2_with fail
          go_ret
          exact ⟨by rw [HV.out]; rfl, B0.out⟩
        · go_enter Tryd.func8, Tryd.ntmps8
          go_wp2_with fail
          go_ret
          exact ⟨by rw [HV.out]; rfl, B0.out⟩
      · have m1 : decide (k < 1) = false := decide_eq_false m
        have m2 : decide (4 < k) = true := decide_eq_true (by omega)
        clear h2 m
        rcases h1 with rfl | rfl
        · go_enter Tryd.func8, Tryd.ntmps8
          go_wp2_with fail
          go_ret
          exact ⟨by rw [HV.out]; rfl, B0.out⟩
        · go_enter Tryd.func8, Tryd.ntmps8
          go_wp2_with fail
          go_ret
          exact ⟨by rw [HV.out]; rfl, B0.out⟩
  · have HV := hide (rc_not1 (t := t) (fl := fl) (st := st) (le := le) (k := k) h1)
    have n0 : (a != 0) = true := by simp; omega
    have n1 : (a != 1) = true := by simp; omega
    clear h1
    go_enter Tryd.func8, Tryd.ntmps8
    go_wp2_with fail
    go_ret
    exact ⟨by rw [HV.out]; rfl, B0.out⟩
end Go.Proofs.YtminoofghdpomaaDoor
